/-
  Words for a whole memory of pages (the outer slice and its pages): read only, owned, and while it is being built; no statement about the program stands here. No condition.
-/
import Derived.Test.YtmiokacihcpepaaGrid
namespace Go.Proofs.Ytmiokacihcpepaa.Grid
set_option maxRecDepth 100000
open Go.ChangeShapes Go.WideShapes Go.ChangeAt Go.RowKit
open Go.Proofs.Ytmiokacihcpepaa.Base Go.Proofs.Ytmiokacihcpepaa.Mem Go.Proofs.Ytmiokacihcpepaa.Ints

/-- A memory that is only read: its pages may share. -/
def RG (w : World) (lo hi : Nat) (A : Option Addr) (M : List (List Int)) (hs : List Hd) : Prop := Lies w lo hi A (hcells M hs) ∧ Reads w lo hi M hs
/-- A memory with memory of its own. -/
def OG (w : World) (lo hi : Nat) (A : Option Addr) (M : List (List Int)) (hs : List Hd) : Prop := Owned w lo hi A (hcells M hs) ∧ Pages w lo hi M hs ∧ Avoids (blk A) M hs

section
variable {w w' : World} {lo hi lo' hi' : Nat} {A : Option Addr} {M : List (List Int)} {hs : List Hd}
theorem OG.rg (h : OG w lo hi A M hs) : RG w lo hi A M hs := ⟨h.1.1, h.2.1.reads⟩
theorem RG.kept (h : RG w lo hi A M hs) (hb : ∀ k, lo ≤ k → k < hi → w'.heap[k]? = w.heap[k]?) : RG w' lo hi A M hs := ⟨h.1.kept hb, h.2.kept hb⟩
theorem OG.kept (h : OG w lo hi A M hs) (hb : ∀ k, lo ≤ k → k < hi → w'.heap[k]? = w.heap[k]?) : OG w' lo hi A M hs := ⟨h.1.kept hb, h.2.1.kept hb, h.2.2⟩
theorem RG.below {B : Nat} (h : RG w lo hi A M hs) (hb : Below B w w') (hB : hi ≤ B) : RG w' lo hi A M hs := h.kept fun k _ h2 => hb.block k (by omega)
theorem OG.below {B : Nat} (h : OG w lo hi A M hs) (hb : Below B w w') (hB : hi ≤ B) : OG w' lo hi A M hs := h.kept fun k _ h2 => hb.block k (by omega)
theorem RG.wide (h : RG w lo hi A M hs) (h1 : lo' ≤ lo) (h2 : hi ≤ hi') : RG w lo' hi' A M hs := ⟨h.1.wide h1 h2, h.2.wide h1 h2⟩
theorem OG.wide (h : OG w lo hi A M hs) (h1 : lo' ≤ lo) (h2 : hi ≤ hi') : OG w lo' hi' A M hs := ⟨h.1.wide h1 h2, h.2.1.wide h1 h2, h.2.2⟩
theorem RG.drewN (h : RG w lo hi A M hs) (n : Nat) : RG (w.drewN n) lo hi A M hs := h
theorem OG.drewN (h : OG w lo hi A M hs) (n : Nat) : OG (w.drewN n) lo hi A M hs := h
theorem OG.turned {lo2 hi2 : Nat} (h : OG w lo hi A M hs) (hb : ∀ k, k < w.heap.size → (k < lo2 ∨ hi2 ≤ k) → w'.heap[k]? = w.heap[k]?) (hh : hi ≤ w.heap.size) (hd : hi ≤ lo2 ∨ hi2 ≤ lo) : OG w' lo hi A M hs :=
  h.kept fun k h1 h2 => hb k (by omega) (by omega)
theorem RG.turned {lo2 hi2 : Nat} (h : RG w lo hi A M hs) (hb : ∀ k, k < w.heap.size → (k < lo2 ∨ hi2 ≤ k) → w'.heap[k]? = w.heap[k]?) (hh : hi ≤ w.heap.size) (hd : hi ≤ lo2 ∨ hi2 ≤ lo) : RG w' lo hi A M hs :=
  h.kept fun k h1 h2 => hb k (by omega) (by omega)
theorem hd_at (h : hs.length = M.length) {i : Nat} (hi : i < M.length) : ∃ k : Hd, hs[i]? = some k := ⟨hs[i]'(by omega), List.getElem?_eq_getElem _⟩
/-- One page of a memory that is read. -/
theorem RG.page (h : RG w lo hi A M hs) (i : Nat) (hi' : i < M.length) : ∃ b off B c, A = some ⟨b, off, none⟩ ∧ lo ≤ b ∧ b < hi ∧ w.cell? ⟨b, off + i, none⟩ = some (.slice B M[i].length c) ∧ Lies w lo hi B (ncells M[i]) := by
  obtain ⟨k, hk⟩ := hd_at h.2.1 hi'
  obtain ⟨b, off, e, x, y, z⟩ := h.1 i _ (hcells_at (List.getElem?_eq_getElem hi') hk)
  exact ⟨b, off, k.1, k.2, e, x, y, z, h.2.2 i _ k (List.getElem?_eq_getElem hi') hk⟩
theorem Owned.keptBut {g : Nat} {cs : List Value} (h : Owned w lo hi A cs) (ha : ∀ b off, A = some ⟨b, off, none⟩ → 0 < cs.length → b ≠ g) (hb : ∀ k, lo ≤ k → k < hi → k ≠ g → w'.heap[k]? = w.heap[k]?) : Owned w' lo hi A cs := by
  by_cases hc : 0 < cs.length
  · obtain ⟨b, off, e, x, y, z⟩ := h.1.at_ hc
    subst e
    have hbg := ha b off rfl hc
    have tight : Owned w b (b + 1) (some ⟨b, off, none⟩) cs := ⟨fun j u hu => ⟨b, off, rfl, Nat.le_refl _, Nat.lt_succ_self _, z j u hu⟩, h.2⟩
    exact (tight.kept fun q q3 q4 => hb q (by omega) (by omega) (by omega)).wide x (by omega)
  · have : cs = [] := List.eq_nil_of_length_eq_zero (by omega)
    subst this
    exact ⟨Lies.nil, fun _ _ _ hn => absurd hn (by simp)⟩
theorem Pages.keptBut {g : Nat} (h : Pages w lo hi M hs) (ha : Avoids (some g) M hs) (hb : ∀ k, lo ≤ k → k < hi → k ≠ g → w'.heap[k]? = w.heap[k]?) : Pages w' lo hi M hs :=
  ⟨h.1, fun i r k h1 h2 => Owned.keptBut (h.2.1 i r k h1 h2) (fun b off e hn e2 => ha i r k h1 h2 (fun er => by subst er; simp [ncells] at hn) (by rw [e, e2]; rfl)) hb, h.2.2⟩
theorem Avoids.of_lo {g : Nat} (h : Pages w lo hi M hs) (hg : g < lo ∨ hi ≤ g) : Avoids (some g) M hs := fun i r k h1 h2 hr e => by
  obtain ⟨b, off, e', x, y⟩ := h.block h1 h2 hr
  rw [e'] at e
  simp [blk] at e
  omega
theorem snoc_cases (hlen : hs.length = M.length) {r : List Int} {k : Hd} (i : Nat) (r' : List Int) (k' : Hd) (a : (M ++ [r])[i]? = some r') (b : (hs ++ [k])[i]? = some k') : (M[i]? = some r' ∧ hs[i]? = some k') ∨ (i = M.length ∧ r' = r ∧ k' = k) := by
  rcases Nat.lt_trichotomy i M.length with hi | hi | hi
  · left
    rw [List.getElem?_append_left hi] at a
    rw [List.getElem?_append_left (by omega)] at b
    exact ⟨a, b⟩
  · right
    subst hi
    rw [List.getElem?_append_right (Nat.le_refl _), Nat.sub_self] at a
    rw [List.getElem?_append_right (by omega), hlen, Nat.sub_self] at b
    simp at a b
    exact ⟨rfl, a.symm, b.symm⟩
  · rw [List.getElem?_eq_none (by simp; omega)] at a
    cases a
theorem Avoids.snoc {g : Option Nat} (h : Avoids g M hs) (hlen : hs.length = M.length) {r : List Int} {k : Hd} (hk : r ≠ [] → blk k.1 ≠ g) : Avoids g (M ++ [r]) (hs ++ [k]) := fun i r' k' a b hr => by
  rcases snoc_cases hlen i r' k' a b with ⟨a', b'⟩ | ⟨_, rfl, rfl⟩
  · exact h i r' k' a' b' hr
  · exact hk hr
theorem OG.mk' {g off : Nat} (h : Owned w lo hi (some ⟨g, off, none⟩) (hcells M hs)) (hp : Pages w lo' hi M hs) (h1 : lo ≤ lo') (hg : g < lo' ∨ hi ≤ g) : OG w lo hi (some ⟨g, off, none⟩) M hs :=
  ⟨h, hp.wide h1 (Nat.le_refl _), Avoids.of_lo hp hg⟩

theorem hcells_set {i : Nat} {r : List Int} (hi : i < M.length) (hr : r.length = M[i].length) : hcells (M.set i r) hs = hcells M hs := by
  apply List.ext_getElem?
  intro j
  simp only [hcells, List.getElem?_zipWith, List.getElem?_set]
  by_cases e : i = j
  · subst e
    simp only [if_true, List.getElem?_eq_getElem hi]
    cases hs[i]? <;> simp [hi, hcell, hr]
  · simp only [if_neg e]
theorem hcells_put {i : Nat} {r : List Int} {k : Hd} (hl : hs.length = M.length) (hi : i < M.length) : hcells (M.set i r) (hs.set i k) = (hcells M hs).set i (.slice k.1 r.length k.2) := by
  apply List.ext_getElem?
  intro j
  simp only [hcells, List.getElem?_zipWith, List.getElem?_set, List.length_zipWith]
  by_cases e : i = j
  · subst e
    simp [hi, hl, hcell]
  · simp only [if_neg e]

/-- A page that is to be written at its own length. -/
theorem OG.write (h : OG w lo hi A M hs) (hh : hi ≤ w.heap.size) (i : Nat) (hi' : i < M.length) : ∃ b off B c lo' hi', A = some ⟨b, off, none⟩ ∧ b < hi ∧ w.cell? ⟨b, off + i, none⟩ = some (.slice B M[i].length c) ∧ Owned w lo' hi' B (ncells M[i]) ∧
    ∀ w' r', r'.length = M[i].length → Owned w' lo' hi' B (ncells r') → Turned lo' hi' w w' → OG w' lo hi A (M.set i r') hs ∧ Turned lo hi w w' := by
  obtain ⟨k, hk⟩ := hd_at h.2.1.1 hi'
  obtain ⟨b, off, e, x, y, z⟩ := h.1.1 i _ (hcells_at (List.getElem?_eq_getElem hi') hk)
  have ho := h.2.1.2.1 i _ k (List.getElem?_eq_getElem hi') hk
  by_cases hr : M[i] = []
  · refine ⟨b, off, k.1, k.2, 0, 0, e, y, z, ?_, fun w' r' hl _ ht => ?_⟩
    · rw [hr]
      exact ⟨Lies.nil, fun _ _ _ hn => absurd hn (by simp [ncells])⟩
    · have hr' : r' = M[i] := by
        rw [hr] at hl ⊢
        exact List.eq_nil_of_length_eq_zero (by simpa using hl)
      subst hr'
      rw [List.set_getElem_self]
      exact ⟨h.kept fun q _ q2 => ht.block q (by omega) (by omega), ⟨ht.os, ht.tape, ht.output, ht.size, fun q q1 _ => ht.block q q1 (by omega)⟩⟩
  · obtain ⟨b', off', e', x', y', z'⟩ := ho.1.at_ (by rw [ncells_len]; exact List.length_pos_iff.2 hr)
    have hbb : b' ≠ b := fun e2 => h.2.2 i _ k (List.getElem?_eq_getElem hi') hk hr (by rw [e', e, e2]; rfl)
    refine ⟨b, off, k.1, k.2, b', b' + 1, e, y, z, ?_, fun w' r' hl ho' ht => ?_⟩
    · rw [e'] at ho ⊢
      exact ⟨fun j u hu => ⟨b', off', rfl, Nat.le_refl _, Nat.lt_succ_self _, z' j u hu⟩, ho.2⟩
    · have hkeep : ∀ q, lo ≤ q → q < hi → q ≠ b' → w'.heap[q]? = w.heap[q]? := fun q _ q2 q3 => ht.block q (by omega) (by omega)
      refine ⟨⟨?_, h.2.1.turn (List.getElem?_eq_getElem hi') hk hl.symm e' hr (ho'.wide x' (by omega)) hkeep, ?_⟩, ⟨ht.os, ht.tape, ht.output, ht.size, fun q q1 q2 => ht.block q q1 (by omega)⟩⟩
      · rw [hcells_set hi' hl]
        exact Owned.keptBut h.1 (fun b2 off2 e2 _ e3 => by rw [e] at e2; cases e2; exact hbb e3.symm) hkeep
      · intro j r2 k2 h1 h2 hr2
        by_cases e2 : j = i
        · subst e2
          rw [hk] at h2
          cases h2
          rw [e', e]
          intro e3
          simp [blk] at e3
          exact hbb e3
        · rw [List.getElem?_set_ne (fun e3 => e2 e3.symm)] at h1
          exact h.2.2 j r2 k2 h1 h2 hr2
/-- A page is put in another's place. -/
theorem OG.put {b off lo2 hi2 : Nat} (h : OG w lo hi (some ⟨b, off, none⟩) M hs) (i : Nat) (hi' : i < M.length) {r : List Int} {k : Hd} (ho : Owned w lo2 hi2 k.1 (ncells r)) (h1 : hi ≤ lo2) (h2 : lo ≤ lo2) (h3 : hi ≤ hi2) :
    OG (w.setCell ⟨b, off + i, none⟩ (.slice k.1 r.length k.2)) lo hi2 (some ⟨b, off, none⟩) (M.set i r) (hs.set i k) := by
  have hl := h.2.1.1
  obtain ⟨k0, hk0⟩ := hd_at hl hi'
  obtain ⟨b', off', e, x, y, z⟩ := h.1.1 i _ (hcells_at (List.getElem?_eq_getElem hi') hk0)
  cases e
  have hkeep : ∀ q, q ≠ b → (w.setCell ⟨b, off + i, none⟩ (.slice k.1 r.length k.2)).heap[q]? = w.heap[q]? := fun q hq => Below.heap_setCell w ⟨b, off + i, none⟩ _ q hq
  have old : ∀ (j : Nat) (r' : List Int) (k' : Hd), (M.set i r)[j]? = some r' → (hs.set i k)[j]? = some k' → (j ≠ i ∧ M[j]? = some r' ∧ hs[j]? = some k') ∨ (j = i ∧ r' = r ∧ k' = k) := fun j r' k' a c => by
    by_cases e : j = i
    · subst e
      rw [List.getElem?_set_self hi'] at a
      rw [List.getElem?_set_self (by omega)] at c
      exact .inr ⟨rfl, by simpa using a.symm, by simpa using c.symm⟩
    · rw [List.getElem?_set_ne (fun e' => e e'.symm)] at a c
      exact .inl ⟨e, a, c⟩
  have far : ∀ (j : Nat) (r' : List Int) (k' : Hd), M[j]? = some r' → hs[j]? = some k' → r' ≠ [] → r ≠ [] → blk k'.1 ≠ blk k.1 := fun j r' k' a c d f e => by
    obtain ⟨x1, ox, ex, _, hx⟩ := h.2.1.block a c d
    obtain ⟨y1, oy, ey, hy, _, _⟩ := ho.1.at_ (by rw [ncells_len]; exact List.length_pos_iff.2 f)
    rw [ex, ey] at e
    simp [blk] at e
    omega
  have near : r ≠ [] → ∀ b2 off2, k.1 = some ⟨b2, off2, none⟩ → b2 ≠ b := fun hr b2 off2 e e2 => by
    obtain ⟨y1, oy, ey, hy, _, _⟩ := ho.1.at_ (by rw [ncells_len]; exact List.length_pos_iff.2 hr)
    rw [e] at ey
    cases ey
    omega
  refine ⟨?_, ⟨by simp [hl], fun j r' k' a c => ?_, fun j m r1 r2 k1 k2 hjm a c d e f g => ?_⟩, fun j r' k' a c hr => ?_⟩
  · rw [hcells_put hl hi']
    exact (h.1.set i _).wide (Nat.le_refl _) h3
  · rcases old j r' k' a c with ⟨_, a', c'⟩ | ⟨_, rfl, rfl⟩
    · exact (Owned.keptBut (g := b) (h.2.1.2.1 j r' k' a' c') (fun b2 off2 e hn e2 => h.2.2 j r' k' a' c' (fun er => by subst er; simp [ncells] at hn) (by rw [e, e2]; rfl)) (fun q _ _ hq => hkeep q hq)).wide (Nat.le_refl _) h3
    · exact (Owned.keptBut (g := b) ho (fun b2 off2 e hn => near (fun er => by subst er; simp [ncells] at hn) b2 off2 e) (fun q _ _ hq => hkeep q hq)).wide h2 (Nat.le_refl _)
  · rcases old j r1 k1 a c with ⟨_, a', c'⟩ | ⟨ej, rfl, rfl⟩
    · rcases old m r2 k2 d e with ⟨_, d', e'⟩ | ⟨em, rfl, rfl⟩
      · exact h.2.1.2.2 j m r1 r2 k1 k2 hjm a' c' d' e' f g
      · exact far j r1 k1 a' c' f g
    · rcases old m r2 k2 d e with ⟨_, d', e'⟩ | ⟨em, rfl, rfl⟩
      · exact (far m r2 k2 d' e' g f).symm
      · exact absurd (ej.trans em.symm) hjm
  · rcases old j r' k' a c with ⟨_, a', c'⟩ | ⟨ej, rfl, rfl⟩
    · exact h.2.2 j r' k' a' c' hr
    · intro e
      obtain ⟨y1, oy, ey, hy, _, _⟩ := ho.1.at_ (by rw [ncells_len]; exact List.length_pos_iff.2 hr)
      exact near hr y1 oy ey (by rw [ey] at e; simpa [blk] using e)

/-- A memory that grows page by page. -/
structure Built (T : TypeId) (w0 w : World) (g cap k : Nat) (M : List (List Int)) (hs : List Hd) : Prop where
  row : w.ownsRow w0.heap.size T 1 (.slice (some ⟨g, 0, none⟩) k cap) k (hcells M hs)
  pages : Pages w w0.heap.size w.heap.size M hs
  avoid : Avoids (some g) M hs
  below : Below w0.heap.size w0 w
theorem Built.start (T : TypeId) (w0 : World) : Built T w0 (w0.alloc (.cells #[] T)) w0.heap.size 0 0 [] [] :=
  ⟨World.ownsRow_made w0 #[] 0 (Nat.le_refl _) (Nat.zero_le _) rfl, Pages.nil, Avoids.nil, (Below.refl _ _).alloc (Nat.le_refl _) _⟩
theorem Built.og {T : TypeId} {w0 : World} {g cap k : Nat} (h : Built T w0 w g cap k M hs) : OG w w0.heap.size w.heap.size (some ⟨g, 0, none⟩) M hs := ⟨Owned.of_row h.row, h.pages, h.avoid⟩
theorem Built.step {T : TypeId} {w0 w1 w2 : World} {g cap k g' cap' c : Nat} {B : Option Addr} {r : List Int} {o : Obj} (h : Built T w0 w g cap k M hs) (hb : Below w.heap.size w w1) (ho : Owned w1 w.heap.size w1.heap.size B (ncells r))
    (hrow : w2.ownsRow w0.heap.size T 1 (.slice (some ⟨g', 0, none⟩) (k + 1) cap') (k + 1) (hcells M hs ++ [.slice B r.length c])) (hgrow : (w1.alloc o).grownBy w2 (some g)) (hg : some g = some g' ∨ g' = (w1.alloc o).heap.size) :
    Built T w0 w2 g' cap' (k + 1) (M ++ [r]) (hs ++ [(B, c)]) := by
  have hl := h.pages.1
  have hglt := (h.row.lt g rfl).2
  have hsz := hb.size
  have h12 : w1.heap.size < w2.heap.size := by
    have := hgrow.size
    simp at this
    omega
  have hblock : ∀ q, q < w1.heap.size → q ≠ g → w2.heap[q]? = w1.heap[q]? := fun q hq hqg => by
    rw [hgrow.block q (by simp; omega) (by simp; exact hqg)]
    exact ((Below.refl w1.heap.size w1).alloc (Nat.le_refl _) o).block q hq
  have p1 : Pages w1 w0.heap.size w.heap.size M hs := h.pages.below hb (Nat.le_refl _)
  have p2 := p1.snoc (k := (B, c)) ho (Nat.le_refl _) h.below.size hsz
  have a2 : Avoids (some g) (M ++ [r]) (hs ++ [(B, c)]) := h.avoid.snoc hl fun hr e => by
    obtain ⟨y1, oy, ey, hy, _, _⟩ := ho.1.at_ (by rw [ncells_len]; exact List.length_pos_iff.2 hr)
    simp only [ey] at e
    simp [blk] at e
    omega
  refine ⟨?_, (p2.keptBut a2 (fun q _ q2 q3 => hblock q q2 q3)).wide (Nat.le_refl _) (Nat.le_of_lt h12), ?_, ?_⟩
  · rw [hcells_snoc r (B, c) hl]
    exact hrow
  · rcases hg with e | e
    · cases e
      exact a2
    · subst e
      exact Avoids.of_lo p2 (.inr (by simp))
  · have hgl := (h.row.lt g rfl).1
    exact ((h.below.trans (hb.mono h.below.size)).alloc (Nat.le_trans h.below.size hsz) o).grown hgrow (by have := h.below.size; simp; omega) (fun j hj => by cases hj; exact hgl)
end

/-- What a function that makes a memory leaves. -/
def GPost (w : World) (M : List (List Int)) (e : Ending) (w' : World) : Prop :=
  ∃ A n c hs, e = .returned (.slice A n c) ∧ M.length = n ∧ OG w' w.heap.size w'.heap.size A M hs ∧ Below w.heap.size w w'
/-- What a function that makes a page leaves. -/
def IPost (w : World) (l : List Int) (e : Ending) (w' : World) : Prop :=
  ∃ A n c, e = .returned (.slice A n c) ∧ l.length = n ∧ Owned w' w.heap.size w'.heap.size A (ncells l) ∧ Below w.heap.size w w'
end Go.Proofs.Ytmiokacihcpepaa.Grid
