/-
  Slices as parts of a struct: what a slice's value leads to, read only or in memory of its own, and the laws' helpers at slices of instructions, of slots and of numbers in one form. No condition beyond a slice's length.
-/
import Derived.Test.YtmiokacihcpepaaInsH
import Derived.Test.YtmiokacihcpepaaSlotH
import Derived.Test.YtmiokacihcpepaaGridM
import Derived.Test.YtmiokacihcpepaaGridH
import Derived.Test.YtmiokacihcpepaaIntH
import Derived.Test.YtmiokacihcpepaaData
import Derived.Test.YtmiokacihcpepaaAppend
namespace Go.Proofs.Ytmiokacihcpepaa.Part
set_option maxRecDepth 100000
open Go.ChangeShapes Go.WideShapes Go.ChangeAt Go.RowKit
open Go.Proofs.Ytmiokacihcpepaa.Base Go.Proofs.Ytmiokacihcpepaa.Mem Go.Proofs.Ytmiokacihcpepaa.Slots Go.Proofs.Ytmiokacihcpepaa.Data Go.Proofs.Ytmiokacihcpepaa.Ints Go.Proofs.Ytmiokacihcpepaa.Inss Go.Proofs.Ytmiokacihcpepaa.Grid
set_option linter.unusedVariables false
set_option linter.unusedSimpArgs false

/-- A slice's value that is read only: its n elements have the cells cs. -/
def SR (w : World) (lo hi : Nat) (cs : List Value) (n : Nat) (P : Value) : Prop := ∃ A c, P = .slice A n c ∧ Lies w lo hi A cs
/-- .. in memory of its own, its length within its capacity. -/
def SO (w : World) (lo hi : Nat) (cs : List Value) (n : Nat) (P : Value) : Prop := ∃ A c, P = .slice A n c ∧ n ≤ c ∧ Owned w lo hi A cs
/-- The block that a slice's value leads to. -/
def bl : Value → List Nat
  | .slice (some a) n _ => if n = 0 then [] else [a.block]
  | _ => []
/-- The blocks F alone have turned. -/
structure Chg (w w' : World) (F : List Nat) : Prop where
  os : w'.os = w.os
  tape : w'.tape = w.tape
  output : w'.output = w.output
  size : w.heap.size ≤ w'.heap.size
  block : ∀ k, k < w.heap.size → k ∉ F → w'.heap[k]? = w.heap[k]?
section
variable {w w' w'' : World} {lo hi lo' hi' n : Nat} {cs : List Value} {P : Value} {F G : List Nat}
theorem SO.reads (h : SO w lo hi cs n P) : SR w lo hi cs n P := by
  obtain ⟨A, c, h1, _, h2⟩ := h
  exact ⟨A, c, h1, h2.1⟩
theorem SR.kept (h : SR w lo hi cs n P) (hb : ∀ k, lo ≤ k → k < hi → w'.heap[k]? = w.heap[k]?) : SR w' lo hi cs n P := by
  obtain ⟨A, c, h1, h2⟩ := h
  exact ⟨A, c, h1, h2.kept hb⟩
theorem SR.wide (h : SR w lo hi cs n P) (a : lo' ≤ lo) (b : hi ≤ hi') : SR w lo' hi' cs n P := by
  obtain ⟨A, c, h1, h2⟩ := h
  exact ⟨A, c, h1, h2.wide a b⟩
theorem SR.below {B : Nat} (h : SR w lo hi cs n P) (hb : Below B w w') (hB : hi ≤ B) : SR w' lo hi cs n P := h.kept fun k _ h2 => hb.block k (by omega)
theorem SO.kept (h : SO w lo hi cs n P) (hb : ∀ k, lo ≤ k → k < hi → w'.heap[k]? = w.heap[k]?) : SO w' lo hi cs n P := by
  obtain ⟨A, c, h1, h3, h2⟩ := h
  exact ⟨A, c, h1, h3, h2.kept hb⟩
theorem SO.wide (h : SO w lo hi cs n P) (a : lo' ≤ lo) (b : hi ≤ hi') : SO w lo' hi' cs n P := by
  obtain ⟨A, c, h1, h3, h2⟩ := h
  exact ⟨A, c, h1, h3, h2.wide a b⟩
theorem SO.below {B : Nat} (h : SO w lo hi cs n P) (hb : Below B w w') (hB : hi ≤ B) : SO w' lo hi cs n P := h.kept fun k _ h2 => hb.block k (by omega)
theorem SO.far (h : SO w lo hi cs n P) {z : Nat} (hz : z < lo ∨ hi ≤ z) (i : Nat) (u : Value) : SO (w.setCell ⟨z, i, none⟩ u) lo hi cs n P :=
  h.kept fun k h1 h2 => Below.heap_setCell w ⟨z, i, none⟩ u k (by show k ≠ z; omega)
theorem fresh_row {w w1 : World} {T : TypeId} {s : Nat} {cs : List Value} {g cap n : Nat} (hown : w1.ownsRow w.heap.size T s (.slice (some ⟨g, 0, none⟩) n cap) n cs) (hg : (w.alloc (.cells #[] T)).grownBy w1 (some w.heap.size)) :
    SO w1 w.heap.size w1.heap.size cs n (.slice (some ⟨g, 0, none⟩) n cap) ∧ Below w.heap.size w w1 := by
  refine ⟨⟨_, _, rfl, ?_, Owned.of_row hown⟩, ((Below.refl _ _).alloc (Nat.le_refl _) _).grown hg (by simp) (fun j hj => by cases hj; exact Nat.le_refl _)⟩
  rcases hown.2 with ⟨h', _⟩ | ⟨g1, cap1, cur, h', _, _, hnc, hm, _⟩
  · simp at h'
  · injection h' with h1 h2 h3; omega
theorem ncells_oneP (l : List Int) : ∀ u ∈ ncells l, u.oneCell' = true := fun u hu => by
  obtain ⟨x, _, rfl⟩ := List.mem_map.1 hu
  rfl
theorem SR.src {A : Option Addr} {c : Nat} (h : SR w lo w.heap.size cs n (.slice A n c)) (o : Obj) : ∀ j u, cs[j]? = some u → ∃ ad, A = some ad ∧ (w.alloc o).cell? (ad.add j) = some u := by
  obtain ⟨B, d, e, h2⟩ := h
  cases e
  exact App.Lies.src (h2.below ((Below.refl w.heap.size w).alloc (Nat.le_refl _) o) (Nat.le_refl _))
theorem bl_blks {A : Option Addr} {c : Nat} (h : cs = [] ↔ n = 0) : bl (.slice A n c) = blks A cs := by
  unfold blks bl
  cases A with
  | none => simp
  | some a =>
    by_cases hn : n = 0
    · rw [if_pos (h.2 hn)]; simp [hn]
    · rw [if_neg (fun e => hn (h.1 e))]; simp [hn]
theorem SO.inB (h : SO w lo hi cs n P) (hc : cs = [] ↔ n = 0) {k : Nat} (hk : k ∈ bl P) : lo ≤ k ∧ k < hi := by
  obtain ⟨A, c, rfl, _, h2⟩ := h
  rw [bl_blks hc] at hk
  exact blks_in h2 hk
theorem SO.agree (h : SO w lo hi cs n P) (hc : cs = [] ↔ n = 0) (hb : ∀ k ∈ bl P, w'.heap[k]? = w.heap[k]?) : SO w' lo hi cs n P := by
  obtain ⟨A, c, rfl, h3, h2⟩ := h
  rw [bl_blks hc] at hb
  exact ⟨A, c, rfl, h3, owned_agree h2 hb⟩
theorem Chg.refl (w : World) (F : List Nat) : Chg w w F := ⟨rfl, rfl, rfl, Nat.le_refl _, fun _ _ _ => rfl⟩
theorem Chg.trans (h : Chg w w' F) (k : Chg w' w'' G) : Chg w w'' (F ++ G) :=
  ⟨k.os.trans h.os, k.tape.trans h.tape, k.output.trans h.output, Nat.le_trans h.size k.size, fun b hb hF => (k.block b (Nat.lt_of_lt_of_le hb h.size) fun e => hF (List.mem_append_right _ e)).trans (h.block b hb fun e => hF (List.mem_append_left _ e))⟩
theorem Chg.turned (h : Chg w w' F) (hF : ∀ k ∈ F, lo ≤ k ∧ k < hi) : Turned lo hi w w' := ⟨h.os, h.tape, h.output, h.size, fun k hk hd => h.block k hk fun e => by have := hF k e; omega⟩
theorem Chg.same (h : Chg w w' F) {k : Nat} (hk : k < w.heap.size) (hF : k ∉ F) : w'.heap[k]? = w.heap[k]? := h.block k hk hF
theorem tight {A : Option Addr} (h : Owned w lo hi A cs) : ∃ p q, Owned w p q A cs ∧ (∀ k, k ∉ blks A cs → (k < p ∨ q ≤ k)) := by
  by_cases hc : cs = []
  · subst hc
    exact ⟨0, 0, ⟨Lies.nil, fun b off e h => by simp at h⟩, fun k _ => .inr (Nat.zero_le _)⟩
  · obtain ⟨b, off, rfl, x, y, hx⟩ := h.1.at_ (List.length_pos_iff.2 hc)
    refine ⟨b, b + 1, ⟨fun j u hu => ⟨b, off, rfl, Nat.le_refl _, by omega, hx j u hu⟩, h.2⟩, fun k hk => ?_⟩
    have : k ≠ b := fun e => hk (by simp [blks, hc, e])
    omega
theorem owned_in {A : Option Addr} {p q : Nat} (h : Owned w p q A cs) (hb : ∀ b ∈ blks A cs, lo ≤ b ∧ b < hi) : Owned w lo hi A cs := by
  by_cases hc : cs = []
  · subst hc
    exact ⟨Lies.nil, fun b off e h => by simp at h⟩
  · obtain ⟨b, off, rfl, x, y, hx⟩ := h.1.at_ (List.length_pos_iff.2 hc)
    obtain ⟨u, v⟩ := hb b (by simp [blks, hc])
    exact ⟨fun j z hz => ⟨b, off, rfl, u, v, hx j z hz⟩, h.2⟩
theorem blks_len {A : Option Addr} {ds : List Value} (h : cs.length = ds.length) : blks A cs = blks A ds := by
  unfold blks
  by_cases hc : cs = []
  · subst hc
    rw [if_pos rfl, if_pos (List.eq_nil_of_length_eq_zero (by simpa using h.symm))]
  · rw [if_neg hc, if_neg (fun e => hc (List.eq_nil_of_length_eq_zero (by rw [h, e]; rfl)))]
end

theorem nilJ (l : List JT) : jcells l = [] ↔ l.length = 0 := by
  constructor
  · intro h; have := congrArg List.length h; rw [jcells_len, List.length_nil] at this; omega
  · intro h; exact List.eq_nil_of_length_eq_zero (by rw [jcells_len]; omega)
theorem toJ (lo : Nat) (P : Value) (l : List JT) (w : World) (hn : l.length ≤ 1048576) (h : SR w lo w.heap.size (jcells l) l.length P) :
    Calls Try.prog 47 #[P] w fun e w' => ∃ B d, e = .returned (.slice B l.length d) ∧ SO w' w.heap.size w'.heap.size (jcells l) l.length (.slice B l.length d) ∧ Below w.heap.size w w' := by
  obtain ⟨A, c, rfl, h⟩ := h
  refine (toInsS_any A l.length c lo l w hn rfl h).mono fun e w' hx => ?_
  obtain ⟨ad, d, rfl, hc, ho, hb⟩ := hx
  exact ⟨_, _, rfl, ⟨_, _, rfl, hc, ho⟩, hb⟩
theorem eqJ (lo hi lo' hi' : Nat) (P Q : Value) (l : List JT) (w : World) (hn : l.length ≤ 1048576) (hh : hi ≤ w.heap.size) (hh' : hi' ≤ w.heap.size) (h : SR w lo hi (jcells l) l.length P) (h' : SR w lo' hi' (jcells l) l.length Q) :
    Calls Try.prog 51 #[P, Q] w fun e w' => e = .returned (.bool true) ∧ Below w.heap.size w w' := by
  obtain ⟨A, c, rfl, h⟩ := h
  obtain ⟨B, d, rfl, h'⟩ := h'
  exact eqInsS_same A B l.length c d lo lo' hi hi' l w hn rfl hh hh' h h'
theorem markJ (lo hi k0 : Nat) (P : Value) (l : List JT) (w : World) (hn : l.length ≤ 1048576) (hk : k0 ≤ 4194304) (hh : hi ≤ w.heap.size) (h : SO w lo hi (jcells l) l.length P) :
    Calls Try.prog 39 #[P, .int .i64 k0] w fun e w' => e = .returned (.int .i64 ((k0 + 2 * l.length : Nat) : Int)) ∧ SO w' lo hi (jcells (jmarks k0 l.length)) (jmarks k0 l.length).length P ∧ Chg w w' (bl P) := by
  obtain ⟨A, c, rfl, hc, h⟩ := h
  obtain ⟨p, q, h1, h2⟩ := tight h
  have hb : blks A (jcells (jmarks k0 l.length)) = blks A (jcells l) := blks_len (by rw [jcells_len, jcells_len, jmarks_len])
  refine (markInsS_any A l.length c p q k0 l w hn (by omega) rfl h1).mono fun e w' hx => ?_
  obtain ⟨rfl, ho, ht⟩ := hx
  rw [jmarks_len]
  refine ⟨by congr 2, ⟨A, c, rfl, hc, owned_in ho fun b hb' => blks_in h (by rw [← hb]; exact hb')⟩, ht.os, ht.tape, ht.output, ht.size, fun k hk hF => ht.block k hk (h2 k ?_)⟩
  rw [← bl_blks (nilJ l)]
  exact hF

theorem szNoJ (lo hi n : Nat) (P : Value) (cs : List Value) (k : Int) (w : World) (hk : 0 ≤ k) (hk1 : k ≤ 1048576) (hn : n ≤ 9223372036854775807) (h : SR w lo hi cs n P) (hx : k < n) :
    Calls Try.prog 45 #[P, .int .i64 k] w fun e w' => e = .returned (.int .i64 (-1)) ∧ w = w' := by
  obtain ⟨A, c, rfl, _⟩ := h
  exact szInsS_no A n c k w hk hk1 hn hx
theorem szYesJ (lo hi n : Nat) (P : Value) (cs : List Value) (k : Int) (w : World) (hk1 : k ≤ 1048576) (h : SR w lo hi cs n P) (hx : (n : Int) ≤ k) :
    Calls Try.prog 45 #[P, .int .i64 k] w fun e w' => e = .returned (.int .i64 (k - n)) ∧ w = w' := by
  obtain ⟨A, c, rfl, _⟩ := h
  exact szInsS_yes A n c k w hk1 hx

theorem nilS (l : List Sl) : scells l = [] ↔ l.length = 0 := by
  constructor
  · intro h; have := congrArg List.length h; rw [scells_len, List.length_nil] at this; omega
  · intro h; exact List.eq_nil_of_length_eq_zero (by rw [scells_len]; omega)
theorem toS (lo : Nat) (P : Value) (l : List Sl) (w : World) (hn : l.length ≤ 1048576) (h : SR w lo w.heap.size (scells l) l.length P) :
    Calls Try.prog 48 #[P] w fun e w' => ∃ B d, e = .returned (.slice B l.length d) ∧ SO w' w.heap.size w'.heap.size (scells l) l.length (.slice B l.length d) ∧ Below w.heap.size w w' := by
  obtain ⟨A, c, rfl, h⟩ := h
  refine (toSlotS_any A l.length c lo l w hn rfl h).mono fun e w' hx => ?_
  obtain ⟨ad, d, rfl, hc, ho, hb⟩ := hx
  exact ⟨_, _, rfl, ⟨_, _, rfl, hc, ho⟩, hb⟩
theorem eqS (lo hi lo' hi' : Nat) (P Q : Value) (l : List Sl) (w : World) (hn : l.length ≤ 1048576) (hh : hi ≤ w.heap.size) (hh' : hi' ≤ w.heap.size) (h : SR w lo hi (scells l) l.length P) (h' : SR w lo' hi' (scells l) l.length Q) :
    Calls Try.prog 52 #[P, Q] w fun e w' => e = .returned (.bool true) ∧ Below w.heap.size w w' := by
  obtain ⟨A, c, rfl, h⟩ := h
  obtain ⟨B, d, rfl, h'⟩ := h'
  exact eqSlotS_same A B l.length c d lo lo' hi hi' l w hn rfl hh hh' h h'
theorem markS (lo hi k0 : Nat) (P : Value) (l : List Sl) (w : World) (hn : l.length ≤ 1048576) (hk : k0 ≤ 4194304) (hh : hi ≤ w.heap.size) (h : SO w lo hi (scells l) l.length P) :
    Calls Try.prog 40 #[P, .int .i64 k0] w fun e w' => e = .returned (.int .i64 ((k0 + 2 * l.length : Nat) : Int)) ∧ SO w' lo hi (scells (smarks k0 l.length)) (smarks k0 l.length).length P ∧ Chg w w' (bl P) := by
  obtain ⟨A, c, rfl, hc, h⟩ := h
  obtain ⟨p, q, h1, h2⟩ := tight h
  have hb : blks A (scells (smarks k0 l.length)) = blks A (scells l) := blks_len (by rw [scells_len, scells_len, smarks_len])
  refine (markSlotS_any A l.length c p q k0 l w hn (by omega) rfl h1).mono fun e w' hx => ?_
  obtain ⟨rfl, ho, ht⟩ := hx
  rw [smarks_len]
  refine ⟨by congr 2, ⟨A, c, rfl, hc, owned_in ho fun b hb' => blks_in h (by rw [← hb]; exact hb')⟩, ht.os, ht.tape, ht.output, ht.size, fun k hk hF => ht.block k hk (h2 k ?_)⟩
  rw [← bl_blks (nilS l)]
  exact hF

theorem szNoS (lo hi n : Nat) (P : Value) (cs : List Value) (k : Int) (w : World) (hk : 0 ≤ k) (hk1 : k ≤ 1048576) (hn : n ≤ 9223372036854775807) (h : SR w lo hi cs n P) (hx : k < n) :
    Calls Try.prog 46 #[P, .int .i64 k] w fun e w' => e = .returned (.int .i64 (-1)) ∧ w = w' := by
  obtain ⟨A, c, rfl, _⟩ := h
  exact szSlotS_no A n c k w hk hk1 hn hx
theorem szYesS (lo hi n : Nat) (P : Value) (cs : List Value) (k : Int) (w : World) (hk1 : k ≤ 1048576) (h : SR w lo hi cs n P) (hx : (n : Int) ≤ k) :
    Calls Try.prog 46 #[P, .int .i64 k] w fun e w' => e = .returned (.int .i64 (k - n)) ∧ w = w' := by
  obtain ⟨A, c, rfl, _⟩ := h
  exact szSlotS_yes A n c k w hk1 hx

theorem nilN (l : List Int) : ncells l = [] ↔ l.length = 0 := by
  constructor
  · intro h; have := congrArg List.length h; rw [ncells_len, List.length_nil] at this; omega
  · intro h; exact List.eq_nil_of_length_eq_zero (by rw [ncells_len]; omega)
theorem toN (lo : Nat) (P : Value) (l : List Int) (w : World) (hn : l.length ≤ 1048576) (h : SR w lo w.heap.size (ncells l) l.length P) :
    Calls Try.prog 26 #[P] w fun e w' => ∃ B d, e = .returned (.slice B l.length d) ∧ SO w' w.heap.size w'.heap.size (ncells l) l.length (.slice B l.length d) ∧ Below w.heap.size w w' := by
  obtain ⟨A, c, rfl, h⟩ := h
  refine (toIntS_cap A l.length c lo l w hn rfl h).mono fun e w' hx => ?_
  obtain ⟨B, n, d, rfl, hc, hl, ho, hb⟩ := hx
  subst hl
  exact ⟨_, _, rfl, ⟨_, _, rfl, hc, ho⟩, hb⟩
theorem eqN (lo hi lo' hi' : Nat) (P Q : Value) (l : List Int) (w : World) (hn : l.length ≤ 1048576) (hh : hi ≤ w.heap.size) (hh' : hi' ≤ w.heap.size) (h : SR w lo hi (ncells l) l.length P) (h' : SR w lo' hi' (ncells l) l.length Q) :
    Calls Try.prog 10 #[P, Q] w fun e w' => e = .returned (.bool true) ∧ Below w.heap.size w w' := by
  obtain ⟨A, c, rfl, h⟩ := h
  obtain ⟨B, d, rfl, h'⟩ := h'
  exact eqIntS_same A B l.length c d lo lo' hi hi' l w hn rfl h h'
theorem markN (lo hi k0 : Nat) (P : Value) (l : List Int) (w : World) (hn : l.length ≤ 1048576) (hk : k0 ≤ 4194304) (hh : hi ≤ w.heap.size) (h : SO w lo hi (ncells l) l.length P) :
    Calls Try.prog 13 #[P, .int .i64 k0] w fun e w' => e = .returned (.int .i64 ((k0 + l.length : Nat) : Int)) ∧ SO w' lo hi (ncells (nmarks k0 l.length)) (nmarks k0 l.length).length P ∧ Chg w w' (bl P) := by
  obtain ⟨A, c, rfl, hc, h⟩ := h
  obtain ⟨p, q, h1, h2⟩ := tight h
  have hb : blks A (ncells (nmarks k0 l.length)) = blks A (ncells l) := blks_len (by rw [ncells_len, ncells_len, nmarks_len])
  refine (markIntS_any A l.length c p q k0 l w hn (by omega) rfl h1).mono fun e w' hx => ?_
  obtain ⟨rfl, ho, ht⟩ := hx
  rw [nmarks_len]
  refine ⟨by congr 2, ⟨A, c, rfl, hc, owned_in ho fun b hb' => blks_in h (by rw [← hb]; exact hb')⟩, ht.os, ht.tape, ht.output, ht.size, fun k hk hF => ht.block k hk (h2 k ?_)⟩
  rw [← bl_blks (nilN l)]
  exact hF
theorem heldN (lo hi k0 n : Nat) (P : Value) (w : World) (hn : n ≤ 1048576) (hk : k0 ≤ 4194304) (h : SR w lo hi (ncells (nmarks k0 n)) n P) :
    Calls Try.prog 14 #[P, .int .i64 k0] w fun e w' => e = .returned (.int .i64 ((k0 + n : Nat) : Int)) ∧ w = w' := by
  obtain ⟨A, c, rfl, h⟩ := h
  refine (heldIntS_any A n c lo hi k0 w hn (by omega) h).mono fun e w' hx => ?_
  obtain ⟨rfl, rfl⟩ := hx
  exact ⟨by congr 2, rfl⟩
theorem szNoN (lo hi n : Nat) (P : Value) (cs : List Value) (k : Int) (w : World) (hk : 0 ≤ k) (hk1 : k ≤ 1048576) (hn : n ≤ 9223372036854775807) (h : SR w lo hi cs n P) (hx : k < n) :
    Calls Try.prog 22 #[P, .int .i64 k] w fun e w' => e = .returned (.int .i64 (-1)) ∧ w = w' := by
  obtain ⟨A, c, rfl, _⟩ := h
  exact szIntS_no A n c k w hk hk1 hn hx
theorem szYesN (lo hi n : Nat) (P : Value) (cs : List Value) (k : Int) (w : World) (hk1 : k ≤ 1048576) (h : SR w lo hi cs n P) (hx : (n : Int) ≤ k) :
    Calls Try.prog 22 #[P, .int .i64 k] w fun e w' => e = .returned (.int .i64 (k - n)) ∧ w = w' := by
  obtain ⟨A, c, rfl, _⟩ := h
  exact szIntS_yes A n c k w hk1 hx
end Go.Proofs.Ytmiokacihcpepaa.Part
