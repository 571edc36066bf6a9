/-
  The texts that FnBare wants, part 1: GridA GridH Part CtlH ExitH GuestH GuestR KitG KitB Irq Uses Ctl Ctl2 Exit Guest SlotOne With BroughtImpl TabN GuestX BareR KitA Addrs Ins SlotOneS TabOk InsSame Same Page MemMake BroughtSpec MemSet MemPut MemPutS SxEq. No condition.
-/
import Derived.Test.YtldgadmpclgfhaaGreatFnBareB0
import Derived.Deep.Cut
import Derived.Deep.RegionHeld3
import Derived.Test.YtldgadmpclgfhaaGreatRows
import Derived.WalkKit
import Derived.ProofKit
import Derived.OpenShut
import Derived.Deep.MidRow
import Derived.BigQuiet
import Derived.Laws.CopyOwn
import Derived.Maps.AppendAt
import Derived.Laws.StructEq
namespace Go.Proofs.YtldgadmpclgfhaaGreat.Grid
set_option maxHeartbeats 8000000
set_option maxRecDepth 100000
set_option maxRecDepth 100000
open Go.ChangeShapes Go.WideShapes Go.ChangeAt Go.RowKit
open Go.Proofs.YtldgadmpclgfhaaGreat.Base Go.Proofs.YtldgadmpclgfhaaGreat.Mem Go.Proofs.YtldgadmpclgfhaaGreat.Ints
def RG (w : World) (lo hi : Nat) (A : Option Addr) (M : List (List Int)) (hs : List Hd) : Prop := Lies w lo hi A (hcells M hs) ∧ Reads w lo hi M hs
def OG (w : World) (lo hi : Nat) (A : Option Addr) (M : List (List Int)) (hs : List Hd) : Prop := Owned w lo hi A (hcells M hs) ∧ Pages w lo hi M hs ∧ Avoids (blk A) M hs
section
variable {w w' : World} {lo hi lo' hi' : Nat} {A : Option Addr} {M : List (List Int)} {hs : List Hd}
theorem RG.kept (h : RG w lo hi A M hs) (hb : ∀ k, lo ≤ k → k < hi → w'.heap[k]? = w.heap[k]?) : RG w' lo hi A M hs := ⟨h.1.kept hb, h.2.kept hb⟩
theorem OG.kept (h : OG w lo hi A M hs) (hb : ∀ k, lo ≤ k → k < hi → w'.heap[k]? = w.heap[k]?) : OG w' lo hi A M hs := ⟨h.1.kept hb, h.2.1.kept hb, h.2.2⟩
theorem RG.below {B : Nat} (h : RG w lo hi A M hs) (hb : Below B w w') (hB : hi ≤ B) : RG w' lo hi A M hs := h.kept fun k _ h2 => hb.block k (by omega)
theorem OG.below {B : Nat} (h : OG w lo hi A M hs) (hb : Below B w w') (hB : hi ≤ B) : OG w' lo hi A M hs := h.kept fun k _ h2 => hb.block k (by omega)
theorem RG.wide (h : RG w lo hi A M hs) (h1 : lo' ≤ lo) (h2 : hi ≤ hi') : RG w lo' hi' A M hs := ⟨h.1.wide h1 h2, h.2.wide h1 h2⟩
theorem OG.wide (h : OG w lo hi A M hs) (h1 : lo' ≤ lo) (h2 : hi ≤ hi') : OG w lo' hi' A M hs := ⟨h.1.wide h1 h2, h.2.1.wide h1 h2, h.2.2⟩
theorem RG.drewN (h : RG w lo hi A M hs) (n : Nat) : RG (w.drewN n) lo hi A M hs := h
theorem OG.drewN (h : OG w lo hi A M hs) (n : Nat) : OG (w.drewN n) lo hi A M hs := h
theorem OG.turned {lo2 hi2 : Nat} (h : OG w lo hi A M hs) (hb : ∀ k, k < w.heap.size → (k < lo2 ∨ hi2 ≤ k) → w'.heap[k]? = w.heap[k]?) (hh : hi ≤ w.heap.size) (hd : hi ≤ lo2 ∨ hi2 ≤ lo) : OG w' lo hi A M hs :=
 h.kept fun k h1 h2 => hb k (by omega) (by omega)
theorem RG.turned {lo2 hi2 : Nat} (h : RG w lo hi A M hs) (hb : ∀ k, k < w.heap.size → (k < lo2 ∨ hi2 ≤ k) → w'.heap[k]? = w.heap[k]?) (hh : hi ≤ w.heap.size) (hd : hi ≤ lo2 ∨ hi2 ≤ lo) : RG w' lo hi A M hs :=
 h.kept fun k h1 h2 => hb k (by omega) (by omega)
theorem hd_at (h : hs.length = M.length) {i : Nat} (hi : i < M.length) : ∃ k : Hd, hs[i]? = some k := ⟨hs[i]'(by omega), List.getElem?_eq_getElem _⟩
theorem RG.page (h : RG w lo hi A M hs) (i : Nat) (hi' : i < M.length) : ∃ b off B c, A = some ⟨b, off, none⟩ ∧ lo ≤ b ∧ b < hi ∧ w.cell? ⟨b, off + i, none⟩ = some (.slice B M[i].length c) ∧ Lies w lo hi B (ncells M[i]) := by
 obtain ⟨k, hk⟩ := hd_at h.2.1 hi'
 obtain ⟨b, off, e, x, y, z⟩ := h.1 i _ (hcells_at (List.getElem?_eq_getElem hi') hk)
 exact ⟨b, off, k.1, k.2, e, x, y, z, h.2.2 i _ k (List.getElem?_eq_getElem hi') hk⟩
theorem Owned.keptBut {g : Nat} {cs : List Value} (h : Owned w lo hi A cs) (ha : ∀ b off, A = some ⟨b, off, none⟩ → 0 < cs.length → b ≠ g) (hb : ∀ k, lo ≤ k → k < hi → k ≠ g → w'.heap[k]? = w.heap[k]?) : Owned w' lo hi A cs := by
 by_cases hc : 0 < cs.length
 ·
  obtain ⟨b, off, e, x, y, z⟩ := h.1.at_ hc
  subst e
  have hbg := ha b off rfl hc
  have tight : Owned w b (b + 1) (some ⟨b, off, none⟩) cs := ⟨fun j u hu => ⟨b, off, rfl, Nat.le_refl _, Nat.lt_succ_self _, z j u hu⟩, h.2⟩
  exact (tight.kept fun q q3 q4 => hb q (by omega) (by omega) (by omega)).wide x (by omega)
 ·
  have : cs = [] := List.eq_nil_of_length_eq_zero (by omega)
  subst this
  exact ⟨Lies.nil, fun _ _ _ hn => absurd hn (by simp)⟩
theorem Pages.keptBut {g : Nat} (h : Pages w lo hi M hs) (ha : Avoids (some g) M hs) (hb : ∀ k, lo ≤ k → k < hi → k ≠ g → w'.heap[k]? = w.heap[k]?) : Pages w' lo hi M hs :=
 ⟨h.1, fun i r k h1 h2 => Owned.keptBut (h.2.1 i r k h1 h2) (fun b off e hn e2 => ha i r k h1 h2 (fun er => by subst er; simp [ncells] at hn) (by rw [e, e2]; rfl)) hb, h.2.2⟩
theorem Avoids.of_lo {g : Nat} (h : Pages w lo hi M hs) (hg : g < lo ∨ hi ≤ g) : Avoids (some g) M hs := fun i r k h1 h2 hr e => by
 obtain ⟨b, off, e', x, y⟩ := h.block h1 h2 hr
 rw [e'] at e
 simp [blk] at e
 omega
theorem snoc_cases (hlen : hs.length = M.length) {r : List Int} {k : Hd} (i : Nat) (r' : List Int) (k' : Hd) (a : (M ++ [r])[i]? = some r') (b : (hs ++ [k])[i]? = some k') : (M[i]? = some r' ∧ hs[i]? = some k') ∨ (i = M.length ∧ r' = r ∧ k' = k) := by
 rcases Nat.lt_trichotomy i M.length with hi | hi | hi
 ·
  left
  rw [List.getElem?_append_left hi] at a
  rw [List.getElem?_append_left (by omega)] at b
  exact ⟨a, b⟩
 ·
  right
  subst hi
  rw [List.getElem?_append_right (Nat.le_refl _), Nat.sub_self] at a
  rw [List.getElem?_append_right (by omega), hlen, Nat.sub_self] at b
  simp at a b
  exact ⟨rfl, a.symm, b.symm⟩
 ·
  rw [List.getElem?_eq_none (by simp; omega)] at a
  cases a
theorem Avoids.snoc {g : Option Nat} (h : Avoids g M hs) (hlen : hs.length = M.length) {r : List Int} {k : Hd} (hk : r ≠ [] → blk k.1 ≠ g) : Avoids g (M ++ [r]) (hs ++ [k]) := fun i r' k' a b hr => by
 rcases snoc_cases hlen i r' k' a b with ⟨a', b'⟩ | ⟨_, rfl, rfl⟩
 ·
  exact h i r' k' a' b' hr
 ·
  exact hk hr
theorem hcells_set {i : Nat} {r : List Int} (hi : i < M.length) (hr : r.length = M[i].length) : hcells (M.set i r) hs = hcells M hs := by
 apply List.ext_getElem?
 intro j
 simp only [hcells, List.getElem?_zipWith, List.getElem?_set]
 by_cases e : i = j
 ·
  subst e
  simp only [if_true, List.getElem?_eq_getElem hi]
  cases hs[i]? <;> simp [hi, hcell, hr]
 ·
  simp only [if_neg e]
theorem hcells_put {i : Nat} {r : List Int} {k : Hd} (hl : hs.length = M.length) (hi : i < M.length) : hcells (M.set i r) (hs.set i k) = (hcells M hs).set i (.slice k.1 r.length k.2) := by
 apply List.ext_getElem?
 intro j
 simp only [hcells, List.getElem?_zipWith, List.getElem?_set, List.length_zipWith]
 by_cases e : i = j
 ·
  subst e
  simp [hi, hl, hcell]
 ·
  simp only [if_neg e]
theorem OG.write (h : OG w lo hi A M hs) (hh : hi ≤ w.heap.size) (i : Nat) (hi' : i < M.length) : ∃ b off B c lo' hi', A = some ⟨b, off, none⟩ ∧ b < hi ∧ w.cell? ⟨b, off + i, none⟩ = some (.slice B M[i].length c) ∧ Owned w lo' hi' B (ncells M[i]) ∧
  ∀ w' r', r'.length = M[i].length → Owned w' lo' hi' B (ncells r') → Turned lo' hi' w w' → OG w' lo hi A (M.set i r') hs ∧ Turned lo hi w w' := by
 obtain ⟨k, hk⟩ := hd_at h.2.1.1 hi'
 obtain ⟨b, off, e, x, y, z⟩ := h.1.1 i _ (hcells_at (List.getElem?_eq_getElem hi') hk)
 have ho := h.2.1.2.1 i _ k (List.getElem?_eq_getElem hi') hk
 by_cases hr : M[i] = []
 ·
  refine ⟨b, off, k.1, k.2, 0, 0, e, y, z, ?_, fun w' r' hl _ ht => ?_⟩
  ·
   rw [hr]
   exact ⟨Lies.nil, fun _ _ _ hn => absurd hn (by simp [ncells])⟩
  ·
   have hr' : r' = M[i] := by
    rw [hr] at hl ⊢
    exact List.eq_nil_of_length_eq_zero (by simpa using hl)
   subst hr'
   rw [List.set_getElem_self]
   exact ⟨h.kept fun q _ q2 => ht.block q (by omega) (by omega), ⟨ht.os, ht.tape, ht.output, ht.size, fun q q1 _ => ht.block q q1 (by omega)⟩⟩
 ·
  obtain ⟨b', off', e', x', y', z'⟩ := ho.1.at_ (by rw [ncells_len]; exact List.length_pos_iff.2 hr)
  have hbb : b' ≠ b := fun e2 => h.2.2 i _ k (List.getElem?_eq_getElem hi') hk hr (by rw [e', e, e2]; rfl)
  refine ⟨b, off, k.1, k.2, b', b' + 1, e, y, z, ?_, fun w' r' hl ho' ht => ?_⟩
  ·
   rw [e'] at ho ⊢
   exact ⟨fun j u hu => ⟨b', off', rfl, Nat.le_refl _, Nat.lt_succ_self _, z' j u hu⟩, ho.2⟩
  ·
   have hkeep : ∀ q, lo ≤ q → q < hi → q ≠ b' → w'.heap[q]? = w.heap[q]? := fun q _ q2 q3 => ht.block q (by omega) (by omega)
   refine ⟨⟨?_, h.2.1.turn (List.getElem?_eq_getElem hi') hk hl.symm e' hr (ho'.wide x' (by omega)) hkeep, ?_⟩, ⟨ht.os, ht.tape, ht.output, ht.size, fun q q1 q2 => ht.block q q1 (by omega)⟩⟩
   ·
    rw [hcells_set hi' hl]
    exact Owned.keptBut h.1 (fun b2 off2 e2 _ e3 => by rw [e] at e2; cases e2; exact hbb e3.symm) hkeep
   ·
    intro j r2 k2 h1 h2 hr2
    by_cases e2 : j = i
    ·
     subst e2
     rw [hk] at h2
     cases h2
     rw [e', e]
     intro e3
     simp [blk] at e3
     exact hbb e3
    ·
     rw [List.getElem?_set_ne (fun e3 => e2 e3.symm)] at h1
     exact h.2.2 j r2 k2 h1 h2 hr2
theorem OG.put {b off lo2 hi2 : Nat} (h : OG w lo hi (some ⟨b, off, none⟩) M hs) (i : Nat) (hi' : i < M.length) {r : List Int} {k : Hd} (ho : Owned w lo2 hi2 k.1 (ncells r)) (h1 : hi ≤ lo2) (h2 : lo ≤ lo2) (h3 : hi ≤ hi2) :
  OG (w.setCell ⟨b, off + i, none⟩ (.slice k.1 r.length k.2)) lo hi2 (some ⟨b, off, none⟩) (M.set i r) (hs.set i k) := by
 have hl := h.2.1.1
 obtain ⟨k0, hk0⟩ := hd_at hl hi'
 obtain ⟨b', off', e, x, y, z⟩ := h.1.1 i _ (hcells_at (List.getElem?_eq_getElem hi') hk0)
 cases e
 have hkeep : ∀ q, q ≠ b → (w.setCell ⟨b, off + i, none⟩ (.slice k.1 r.length k.2)).heap[q]? = w.heap[q]? := fun q hq => Below.heap_setCell w ⟨b, off + i, none⟩ _ q hq
 have old : ∀ (j : Nat) (r' : List Int) (k' : Hd), (M.set i r)[j]? = some r' → (hs.set i k)[j]? = some k' → (j ≠ i ∧ M[j]? = some r' ∧ hs[j]? = some k') ∨ (j = i ∧ r' = r ∧ k' = k) := fun j r' k' a c => by
  by_cases e : j = i
  ·
   subst e
   rw [List.getElem?_set_self hi'] at a
   rw [List.getElem?_set_self (by omega)] at c
   exact .inr ⟨rfl, by simpa using a.symm, by simpa using c.symm⟩
  ·
   rw [List.getElem?_set_ne (fun e' => e e'.symm)] at a c
   exact .inl ⟨e, a, c⟩
 have far : ∀ (j : Nat) (r' : List Int) (k' : Hd), M[j]? = some r' → hs[j]? = some k' → r' ≠ [] → r ≠ [] → blk k'.1 ≠ blk k.1 := fun j r' k' a c d f e => by
  obtain ⟨x1, ox, ex, _, hx⟩ := h.2.1.block a c d
  obtain ⟨y1, oy, ey, hy, _, _⟩ := ho.1.at_ (by rw [ncells_len]; exact List.length_pos_iff.2 f)
  rw [ex, ey] at e
  simp [blk] at e
  omega
 have near : r ≠ [] → ∀ b2 off2, k.1 = some ⟨b2, off2, none⟩ → b2 ≠ b := fun hr b2 off2 e e2 => by
  obtain ⟨y1, oy, ey, hy, _, _⟩ := ho.1.at_ (by rw [ncells_len]; exact List.length_pos_iff.2 hr)
  rw [e] at ey
  cases ey
  omega
 refine ⟨?_, ⟨by simp [hl], fun j r' k' a c => ?_, fun j m r1 r2 k1 k2 hjm a c d e f g => ?_⟩, fun j r' k' a c hr => ?_⟩
 ·
  rw [hcells_put hl hi']
  exact (h.1.set i _).wide (Nat.le_refl _) h3
 ·
  rcases old j r' k' a c with ⟨_, a', c'⟩ | ⟨_, rfl, rfl⟩
  ·
   exact (Owned.keptBut (g := b) (h.2.1.2.1 j r' k' a' c') (fun b2 off2 e hn e2 => h.2.2 j r' k' a' c' (fun er => by subst er; simp [ncells] at hn) (by rw [e, e2]; rfl)) (fun q _ _ hq => hkeep q hq)).wide (Nat.le_refl _) h3
  ·
   exact (Owned.keptBut (g := b) ho (fun b2 off2 e hn => near (fun er => by subst er; simp [ncells] at hn) b2 off2 e) (fun q _ _ hq => hkeep q hq)).wide h2 (Nat.le_refl _)
 ·
  rcases old j r1 k1 a c with ⟨_, a', c'⟩ | ⟨ej, rfl, rfl⟩
  ·
   rcases old m r2 k2 d e with ⟨_, d', e'⟩ | ⟨em, rfl, rfl⟩
   ·
    exact h.2.1.2.2 j m r1 r2 k1 k2 hjm a' c' d' e' f g
   ·
    exact far j r1 k1 a' c' f g
  ·
   rcases old m r2 k2 d e with ⟨_, d', e'⟩ | ⟨em, rfl, rfl⟩
   ·
    exact (far m r2 k2 d' e' g f).symm
   ·
    exact absurd (ej.trans em.symm) hjm
 ·
  rcases old j r' k' a c with ⟨_, a', c'⟩ | ⟨ej, rfl, rfl⟩
  ·
   exact h.2.2 j r' k' a' c' hr
  ·
   intro e
   obtain ⟨y1, oy, ey, hy, _, _⟩ := ho.1.at_ (by rw [ncells_len]; exact List.length_pos_iff.2 hr)
   exact near hr y1 oy ey (by rw [ey] at e; simpa [blk] using e)
structure Built (T : TypeId) (w0 w : World) (g cap k : Nat) (M : List (List Int)) (hs : List Hd) : Prop where
 row : w.ownsRow w0.heap.size T 1 (.slice (some ⟨g, 0, none⟩) k cap) k (hcells M hs)
 pages : Pages w w0.heap.size w.heap.size M hs
 avoid : Avoids (some g) M hs
 below : Below w0.heap.size w0 w
theorem Built.start (T : TypeId) (w0 : World) : Built T w0 (w0.alloc (.cells #[] T)) w0.heap.size 0 0 [] [] :=
 ⟨World.ownsRow_made w0 #[] 0 (Nat.le_refl _) (Nat.zero_le _) rfl, Pages.nil, Avoids.nil, (Below.refl _ _).alloc (Nat.le_refl _) _⟩
theorem Built.step {T : TypeId} {w0 w1 w2 : World} {g cap k g' cap' c : Nat} {B : Option Addr} {r : List Int} {o : Obj} (h : Built T w0 w g cap k M hs) (hb : Below w.heap.size w w1) (ho : Owned w1 w.heap.size w1.heap.size B (ncells r))
  (hrow : w2.ownsRow w0.heap.size T 1 (.slice (some ⟨g', 0, none⟩) (k + 1) cap') (k + 1) (hcells M hs ++ [.slice B r.length c])) (hgrow : (w1.alloc o).grownBy w2 (some g)) (hg : some g = some g' ∨ g' = (w1.alloc o).heap.size) :
  Built T w0 w2 g' cap' (k + 1) (M ++ [r]) (hs ++ [(B, c)]) := by
 have hl := h.pages.1
 have hglt := (h.row.lt g rfl).2
 have hsz := hb.size
 have h12 : w1.heap.size < w2.heap.size := by
  have := hgrow.size
  simp at this
  omega
 have hblock : ∀ q, q < w1.heap.size → q ≠ g → w2.heap[q]? = w1.heap[q]? := fun q hq hqg => by
  rw [hgrow.block q (by simp; omega) (by simp; exact hqg)]
  exact ((Below.refl w1.heap.size w1).alloc (Nat.le_refl _) o).block q hq
 have p1 : Pages w1 w0.heap.size w.heap.size M hs := h.pages.below hb (Nat.le_refl _)
 have p2 := p1.snoc (k := (B, c)) ho (Nat.le_refl _) h.below.size hsz
 have a2 : Avoids (some g) (M ++ [r]) (hs ++ [(B, c)]) := h.avoid.snoc hl fun hr e => by
  obtain ⟨y1, oy, ey, hy, _, _⟩ := ho.1.at_ (by rw [ncells_len]; exact List.length_pos_iff.2 hr)
  simp only [ey] at e
  simp [blk] at e
  omega
 refine ⟨?_, (p2.keptBut a2 (fun q _ q2 q3 => hblock q q2 q3)).wide (Nat.le_refl _) (Nat.le_of_lt h12), ?_, ?_⟩
 ·
  rw [hcells_snoc r (B, c) hl]
  exact hrow
 ·
  rcases hg with e | e
  ·
   cases e
   exact a2
  ·
   subst e
   exact Avoids.of_lo p2 (.inr (by simp))
 ·
  have hgl := (h.row.lt g rfl).1
  exact ((h.below.trans (hb.mono h.below.size)).alloc (Nat.le_trans h.below.size hsz) o).grown hgrow (by have := h.below.size; simp; omega) (fun j hj => by cases hj; exact hgl)
end
def IPost (w : World) (l : List Int) (e : Ending) (w' : World) : Prop :=
 ∃ A n c, e = .returned (.slice A n c) ∧ l.length = n ∧ Owned w' w.heap.size w'.heap.size A (ncells l) ∧ Below w.heap.size w w'
end Go.Proofs.YtldgadmpclgfhaaGreat.Grid
namespace Go.Proofs.YtldgadmpclgfhaaGreat.Grid
set_option maxHeartbeats 8000000
set_option maxRecDepth 100000
set_option maxRecDepth 100000
open Go.ChangeShapes Go.WideShapes Go.ChangeAt Go.RowKit
open Go.Proofs.YtldgadmpclgfhaaGreat.Base Go.Proofs.YtldgadmpclgfhaaGreat.Mem Go.Proofs.YtldgadmpclgfhaaGreat.Ints
theorem Tryz.infoInt : (Tryz.prog.info? 3).map (fun i => (i.zero, i.size, i.bytes)) = some (some (.int .i64 0), 1, 8) := by kernel_rfl
theorem grown_of_below {w w' : World} (h : Below w.heap.size w w') (row : Option Nat) : w.grownBy w' row := ⟨h.os, h.tape, h.output, h.size, fun i hi _ => h.block i hi⟩
theorem take_set1 {xs : List Value} {k : Nat} {ys : List Value} {u : Value} (h : xs.take k = ys) (hl : k < xs.length) : (xs.set k u).take (k + 1) = ys ++ [u] := by
 rw [← h, List.take_succ_eq_append_getElem (by simpa using hl)]
 simp [List.take_set_of_le]
def IPostC (w : World) (l : List Int) (e : Ending) (w' : World) : Prop :=
 ∃ A n c, e = .returned (.slice A n c) ∧ n ≤ c ∧ l.length = n ∧ Owned w' w.heap.size w'.heap.size A (ncells l) ∧ Below w.heap.size w w'
structure Filled (T : TypeId) (w0 w : World) (n k : Nat) (xs : List Value) (M : List (List Int)) (hs : List Hd) : Prop where
 row : w.ownsRow w0.heap.size T 1 (.slice (some ⟨w0.heap.size, 0, none⟩) n n) n xs
 cells : xs.take k = hcells M hs
 pages : Pages w (w0.heap.size + 1) w.heap.size M hs
 below : Below w0.heap.size w0 w
 size : w0.heap.size < w.heap.size
 len : M.length = k
theorem Filled.step {T : TypeId} {w0 w w1 : World} {n k c : Nat} {xs : List Value} {M : List (List Int)} {hs : List Hd} {B : Option Addr} {r : List Int} (h : Filled T w0 w n k xs M hs) (hk : k < n) (hb : Below w.heap.size w w1) (ho : Owned w1 w.heap.size w1.heap.size B (ncells r)) :
  Filled T w0 (w1.setCell ⟨w0.heap.size, k, none⟩ (.slice B r.length c)) n (k + 1) (xs.set k (.slice B r.length c)) (M ++ [r]) (hs ++ [(B, c)]) := by
 have hl := h.pages.1
 have h0 := h.size
 have hr1 := h.row.kept (grown_of_below hb none) (.inr (by simp [Value.ownBlock]))
 refine ⟨(hr1.stored k _).1, ?_, ?_, ((h.below.trans (hb.mono h.below.size)).setCell (p := ⟨w0.heap.size, k, none⟩) (Nat.le_refl _) _), by have := hb.size; simp; omega, by simp [h.len]⟩
 ·
  rw [hcells_snoc r (B, c) hl]
  exact take_set1 h.cells (by have := h.row.1; omega)
 ·
  have p2 := (h.pages.below hb (Nat.le_refl _)).snoc (k := (B, c)) ho (Nat.le_refl _) h0 hb.size
  have e : (w1.setCell ⟨w0.heap.size, k, none⟩ (.slice B r.length c)).heap.size = w1.heap.size := by simp
  rw [e]
  exact p2.kept fun q q1 _ => Below.heap_setCell w1 ⟨w0.heap.size, k, none⟩ _ q (by show q ≠ w0.heap.size; omega)
theorem Filled.start {T : TypeId} {w0 w : World} {n : Nat} {xs : List Value} (hr : w.ownsRow w0.heap.size T 1 (.slice (some ⟨w0.heap.size, 0, none⟩) n n) n xs) (hg : w0.grownBy w none) : Filled T w0 w n 0 xs [] [] :=
 ⟨hr, rfl, Pages.nil, (Below.refl _ _).grown hg (Nat.le_refl _) (fun _ h => by cases h), (hr.lt _ rfl).2, rfl⟩
def tot : List (List Int) → Nat
 | [] => 0
 | r :: M => r.length + tot M
theorem tot_append : ∀ M N, tot (M ++ N) = tot M + tot N
 | [], N => by simp [tot]
 | r :: M, N => by simp [tot, tot_append M N]; omega
theorem tot_take {M : List (List Int)} {k : Nat} (hk : k < M.length) : tot (M.take (k + 1)) = tot (M.take k) + M[k].length := by
 rw [List.take_succ_eq_append_getElem hk, tot_append]; simp [tot]
theorem tot_take_le (M : List (List Int)) (k : Nat) : tot (M.take k) ≤ tot M := by
 have := tot_append (M.take k) (M.drop k)
 rw [List.take_append_drop] at this
 omega
theorem tot_at {M : List (List Int)} {k : Nat} (hk : k < M.length) : M[k].length ≤ tot M := by
 have := tot_take hk
 have := tot_take_le M (k + 1)
 omega
structure capG (M : List (List Int)) : Prop where
 len : M.length ≤ 1048576
 all : tot M ≤ 1048580
 page : ∀ r ∈ M, r.length ≤ 1048576
theorem capG.at_ {M : List (List Int)} (h : capG M) {k : Nat} (hk : k < M.length) : M[k].length ≤ 1048576 := h.page _ (List.getElem_mem _)
theorem capG.of {M : List (List Int)} (h : M.length + tot M ≤ 1048576) : capG M := ⟨by omega, by omega, fun r hr => by
 obtain ⟨k, hk, rfl⟩ := List.getElem_of_mem hr
 have := tot_at hk
 omega⟩
end Go.Proofs.YtldgadmpclgfhaaGreat.Grid
namespace Go.Proofs.YtldgadmpclgfhaaGreat.Part
set_option maxHeartbeats 8000000
set_option maxRecDepth 100000
set_option maxRecDepth 100000
open Go.ChangeShapes Go.WideShapes Go.ChangeAt Go.RowKit
open Go.Proofs.YtldgadmpclgfhaaGreat.Base Go.Proofs.YtldgadmpclgfhaaGreat.Mem Go.Proofs.YtldgadmpclgfhaaGreat.Slots Go.Proofs.YtldgadmpclgfhaaGreat.Data Go.Proofs.YtldgadmpclgfhaaGreat.Ints Go.Proofs.YtldgadmpclgfhaaGreat.Inss Go.Proofs.YtldgadmpclgfhaaGreat.Grid
set_option linter.unusedVariables false
set_option linter.unusedSimpArgs false
def SR (w : World) (lo hi : Nat) (cs : List Value) (n : Nat) (P : Value) : Prop := ∃ A c, P = .slice A n c ∧ Lies w lo hi A cs
def SO (w : World) (lo hi : Nat) (cs : List Value) (n : Nat) (P : Value) : Prop := ∃ A c, P = .slice A n c ∧ n ≤ c ∧ Owned w lo hi A cs
def bl : Value → List Nat
 | .slice (some a) n _ => if n = 0 then [] else [a.block]
 | _ => []
structure Chg (w w' : World) (F : List Nat) : Prop where
 os : w'.os = w.os
 tape : w'.tape = w.tape
 output : w'.output = w.output
 size : w.heap.size ≤ w'.heap.size
 block : ∀ k, k < w.heap.size → k ∉ F → w'.heap[k]? = w.heap[k]?
section
variable {w w' w'' : World} {lo hi lo' hi' n : Nat} {cs : List Value} {P : Value} {F G : List Nat}
theorem SO.reads (h : SO w lo hi cs n P) : SR w lo hi cs n P := by
 obtain ⟨A, c, h1, _, h2⟩ := h
 exact ⟨A, c, h1, h2.1⟩
theorem SR.kept (h : SR w lo hi cs n P) (hb : ∀ k, lo ≤ k → k < hi → w'.heap[k]? = w.heap[k]?) : SR w' lo hi cs n P := by
 obtain ⟨A, c, h1, h2⟩ := h
 exact ⟨A, c, h1, h2.kept hb⟩
theorem SR.wide (h : SR w lo hi cs n P) (a : lo' ≤ lo) (b : hi ≤ hi') : SR w lo' hi' cs n P := by
 obtain ⟨A, c, h1, h2⟩ := h
 exact ⟨A, c, h1, h2.wide a b⟩
theorem SR.below {B : Nat} (h : SR w lo hi cs n P) (hb : Below B w w') (hB : hi ≤ B) : SR w' lo hi cs n P := h.kept fun k _ h2 => hb.block k (by omega)
theorem SO.kept (h : SO w lo hi cs n P) (hb : ∀ k, lo ≤ k → k < hi → w'.heap[k]? = w.heap[k]?) : SO w' lo hi cs n P := by
 obtain ⟨A, c, h1, h3, h2⟩ := h
 exact ⟨A, c, h1, h3, h2.kept hb⟩
theorem SO.wide (h : SO w lo hi cs n P) (a : lo' ≤ lo) (b : hi ≤ hi') : SO w lo' hi' cs n P := by
 obtain ⟨A, c, h1, h3, h2⟩ := h
 exact ⟨A, c, h1, h3, h2.wide a b⟩
theorem SO.below {B : Nat} (h : SO w lo hi cs n P) (hb : Below B w w') (hB : hi ≤ B) : SO w' lo hi cs n P := h.kept fun k _ h2 => hb.block k (by omega)
theorem SO.far (h : SO w lo hi cs n P) {z : Nat} (hz : z < lo ∨ hi ≤ z) (i : Nat) (u : Value) : SO (w.setCell ⟨z, i, none⟩ u) lo hi cs n P :=
 h.kept fun k h1 h2 => Below.heap_setCell w ⟨z, i, none⟩ u k (by show k ≠ z; omega)
theorem SR.src {A : Option Addr} {c : Nat} (h : SR w lo w.heap.size cs n (.slice A n c)) (o : Obj) : ∀ j u, cs[j]? = some u → ∃ ad, A = some ad ∧ (w.alloc o).cell? (ad.add j) = some u := by
 obtain ⟨B, d, e, h2⟩ := h
 cases e
 exact App.Lies.src (h2.below ((Below.refl w.heap.size w).alloc (Nat.le_refl _) o) (Nat.le_refl _))
theorem bl_blks {A : Option Addr} {c : Nat} (h : cs = [] ↔ n = 0) : bl (.slice A n c) = blks A cs := by
 unfold blks bl
 cases A with
 | none => simp
 | some a =>
  by_cases hn : n = 0
  ·
   rw [if_pos (h.2 hn)]; simp [hn]
  ·
   rw [if_neg (fun e => hn (h.1 e))]; simp [hn]
theorem SO.inB (h : SO w lo hi cs n P) (hc : cs = [] ↔ n = 0) {k : Nat} (hk : k ∈ bl P) : lo ≤ k ∧ k < hi := by
 obtain ⟨A, c, rfl, _, h2⟩ := h
 rw [bl_blks hc] at hk
 exact blks_in h2 hk
theorem Chg.refl (w : World) (F : List Nat) : Chg w w F := ⟨rfl, rfl, rfl, Nat.le_refl _, fun _ _ _ => rfl⟩
theorem Chg.trans (h : Chg w w' F) (k : Chg w' w'' G) : Chg w w'' (F ++ G) :=
 ⟨k.os.trans h.os, k.tape.trans h.tape, k.output.trans h.output, Nat.le_trans h.size k.size, fun b hb hF => (k.block b (Nat.lt_of_lt_of_le hb h.size) fun e => hF (List.mem_append_right _ e)).trans (h.block b hb fun e => hF (List.mem_append_left _ e))⟩
theorem Chg.turned (h : Chg w w' F) (hF : ∀ k ∈ F, lo ≤ k ∧ k < hi) : Turned lo hi w w' := ⟨h.os, h.tape, h.output, h.size, fun k hk hd => h.block k hk fun e => by have := hF k e; omega⟩
theorem Chg.same (h : Chg w w' F) {k : Nat} (hk : k < w.heap.size) (hF : k ∉ F) : w'.heap[k]? = w.heap[k]? := h.block k hk hF
theorem tight {A : Option Addr} (h : Owned w lo hi A cs) : ∃ p q, Owned w p q A cs ∧ (∀ k, k ∉ blks A cs → (k < p ∨ q ≤ k)) := by
 by_cases hc : cs = []
 ·
  subst hc
  exact ⟨0, 0, ⟨Lies.nil, fun b off e h => by simp at h⟩, fun k _ => .inr (Nat.zero_le _)⟩
 ·
  obtain ⟨b, off, rfl, x, y, hx⟩ := h.1.at_ (List.length_pos_iff.2 hc)
  refine ⟨b, b + 1, ⟨fun j u hu => ⟨b, off, rfl, Nat.le_refl _, by omega, hx j u hu⟩, h.2⟩, fun k hk => ?_⟩
  have : k ≠ b := fun e => hk (by simp [blks, hc, e])
  omega
end
end Go.Proofs.YtldgadmpclgfhaaGreat.Part
namespace Go.Proofs.YtldgadmpclgfhaaGreat.Ctls
set_option maxHeartbeats 8000000
set_option maxRecDepth 100000
set_option maxRecDepth 100000
open Go.ChangeShapes Go.WideShapes Go.ChangeAt Go.RowKit
open Go.Proofs.YtldgadmpclgfhaaGreat.Base Go.Proofs.YtldgadmpclgfhaaGreat.Mem Go.Proofs.YtldgadmpclgfhaaGreat.Data
set_option linter.unusedVariables false
set_option linter.unusedSimpArgs false
abbrev CT := Int × Int × Bool
def wfC (s : CT) : Prop := (Lit.int .i64 s.1).wf = true ∧ (Lit.int .i64 s.2.1).wf = true ∧ True
def rCtl : Rp CT := rPair rInt (rPair rInt rBool)
section
variable {H : Type} {enc : TypeId × Value → H} {w : World} {lo hi : Nat}
end
end Go.Proofs.YtldgadmpclgfhaaGreat.Ctls
namespace Go.Proofs.YtldgadmpclgfhaaGreat.Exits
set_option maxHeartbeats 8000000
set_option maxRecDepth 100000
set_option maxRecDepth 100000
open Go.ChangeShapes Go.WideShapes Go.ChangeAt Go.RowKit
open Go.Proofs.YtldgadmpclgfhaaGreat.Base Go.Proofs.YtldgadmpclgfhaaGreat.Mem Go.Proofs.YtldgadmpclgfhaaGreat.Data
set_option linter.unusedVariables false
set_option linter.unusedSimpArgs false
abbrev QT := Int × Int × Bool × Int
def wfQ (s : QT) : Prop := (Lit.int .i64 s.1).wf = true ∧ (Lit.int .i64 s.2.1).wf = true ∧ True ∧ (Lit.int .i64 s.2.2.2).wf = true
def rExit : Rp QT := rPair rInt (rPair rInt (rPair rBool rInt))
section
variable {H : Type} {enc : TypeId × Value → H} {w : World} {lo hi : Nat}
end
end Go.Proofs.YtldgadmpclgfhaaGreat.Exits
namespace Go.Proofs.YtldgadmpclgfhaaGreat.Guests
set_option maxHeartbeats 8000000
set_option maxRecDepth 100000
set_option maxRecDepth 100000
open Go.ChangeShapes Go.WideShapes Go.ChangeAt Go.RowKit
open Go.Proofs.YtldgadmpclgfhaaGreat.Base Go.Proofs.YtldgadmpclgfhaaGreat.Mem Go.Proofs.YtldgadmpclgfhaaGreat.Slots Go.Proofs.YtldgadmpclgfhaaGreat.Data Go.Proofs.YtldgadmpclgfhaaGreat.Ints Go.Proofs.YtldgadmpclgfhaaGreat.Inss Go.Proofs.YtldgadmpclgfhaaGreat.Ctls Go.Proofs.YtldgadmpclgfhaaGreat.Exits Go.Proofs.YtldgadmpclgfhaaGreat.Part
set_option linter.unusedVariables false
set_option linter.unusedSimpArgs false
structure gT where
 prog : List JT
 a : Int
 pc : Int
 wr : List Sl
 lv : List Sl
 t : CT
 pd : Int
 x : QT
 hl : Bool
 seen : List Int
def gV (g : gT) (P0 P1 P2 P3 : Value) : List Value := [P0, .int .i64 g.a, .int .i64 g.pc, P1, P2, .int .i64 g.t.1, .int .i64 g.t.2.1, .bool g.t.2.2, .int .i64 g.pd, .int .i64 g.x.1, .int .i64 g.x.2.1, .bool g.x.2.2.1, .int .i64 g.x.2.2.2, .bool g.hl, P3]
structure gR (w : World) (lo hi : Nat) (g : gT) (P0 P1 P2 P3 : Value) : Prop where
 r0 : SR w lo hi (jcells g.prog) g.prog.length P0
 r1 : SR w lo hi (scells g.wr) g.wr.length P1
 r2 : SR w lo hi (scells g.lv) g.lv.length P2
 r3 : SR w lo hi (ncells g.seen) g.seen.length P3
structure gO (w : World) (lo hi : Nat) (g : gT) (P0 P1 P2 P3 : Value) : Prop where
 r0 : SO w lo hi (jcells g.prog) g.prog.length P0
 r1 : SO w lo hi (scells g.wr) g.wr.length P1
 r2 : SO w lo hi (scells g.lv) g.lv.length P2
 r3 : SO w lo hi (ncells g.seen) g.seen.length P3
 d01 : ∀ k ∈ bl P0, k ∉ bl P1
 d02 : ∀ k ∈ bl P0, k ∉ bl P2
 d03 : ∀ k ∈ bl P0, k ∉ bl P3
 d12 : ∀ k ∈ bl P1, k ∉ bl P2
 d13 : ∀ k ∈ bl P1, k ∉ bl P3
 d23 : ∀ k ∈ bl P2, k ∉ bl P3
def gcap (g : gT) : Prop := g.prog.length ≤ 1048576 ∧ g.wr.length ≤ 1048576 ∧ g.lv.length ≤ 1048576 ∧ g.seen.length ≤ 1048576
section
variable {w w' : World} {lo hi lo' hi' : Nat} {g : gT} {P0 P1 P2 P3 : Value}
theorem gO.reads (h : gO w lo hi g P0 P1 P2 P3) : gR w lo hi g P0 P1 P2 P3 := ⟨h.r0.reads, h.r1.reads, h.r2.reads, h.r3.reads⟩
theorem gR.kept (h : gR w lo hi g P0 P1 P2 P3) (hb : ∀ k, lo ≤ k → k < hi → w'.heap[k]? = w.heap[k]?) : gR w' lo hi g P0 P1 P2 P3 := ⟨h.r0.kept hb, h.r1.kept hb, h.r2.kept hb, h.r3.kept hb⟩
theorem gR.wide (h : gR w lo hi g P0 P1 P2 P3) (a : lo' ≤ lo) (b : hi ≤ hi') : gR w lo' hi' g P0 P1 P2 P3 := ⟨h.r0.wide a b, h.r1.wide a b, h.r2.wide a b, h.r3.wide a b⟩
theorem gR.below {B : Nat} (h : gR w lo hi g P0 P1 P2 P3) (hb : Below B w w') (hB : hi ≤ B) : gR w' lo hi g P0 P1 P2 P3 := h.kept fun k _ h2 => hb.block k (by omega)
theorem gR.turned {lo2 hi2 : Nat} (h : gR w lo hi g P0 P1 P2 P3) (hb : ∀ k, k < w.heap.size → (k < lo2 ∨ hi2 ≤ k) → w'.heap[k]? = w.heap[k]?) (hh : hi ≤ w.heap.size) (hd : hi ≤ lo2 ∨ hi2 ≤ lo) : gR w' lo hi g P0 P1 P2 P3 := h.kept fun k h1 h2 => hb k (by omega) (by omega)
theorem gO.kept (h : gO w lo hi g P0 P1 P2 P3) (hb : ∀ k, lo ≤ k → k < hi → w'.heap[k]? = w.heap[k]?) : gO w' lo hi g P0 P1 P2 P3 := ⟨h.r0.kept hb, h.r1.kept hb, h.r2.kept hb, h.r3.kept hb, h.d01, h.d02, h.d03, h.d12, h.d13, h.d23⟩
theorem gO.wide (h : gO w lo hi g P0 P1 P2 P3) (a : lo' ≤ lo) (b : hi ≤ hi') : gO w lo' hi' g P0 P1 P2 P3 := ⟨h.r0.wide a b, h.r1.wide a b, h.r2.wide a b, h.r3.wide a b, h.d01, h.d02, h.d03, h.d12, h.d13, h.d23⟩
theorem gO.below {B : Nat} (h : gO w lo hi g P0 P1 P2 P3) (hb : Below B w w') (hB : hi ≤ B) : gO w' lo hi g P0 P1 P2 P3 := h.kept fun k _ h2 => hb.block k (by omega)
theorem gO.turned {lo2 hi2 : Nat} (h : gO w lo hi g P0 P1 P2 P3) (hb : ∀ k, k < w.heap.size → (k < lo2 ∨ hi2 ≤ k) → w'.heap[k]? = w.heap[k]?) (hh : hi ≤ w.heap.size) (hd : hi ≤ lo2 ∨ hi2 ≤ lo) : gO w' lo hi g P0 P1 P2 P3 := h.kept fun k h1 h2 => hb k (by omega) (by omega)
end
section
variable {w : World} {lo hi : Nat}
end
def wfGuest (g : gT) : Prop := (g.prog.length ≤ 9223372036854775807 ∧ wfJL g.prog) ∧ (Lit.int .i64 g.a).wf = true ∧ (Lit.int .i64 g.pc).wf = true ∧ (g.wr.length ≤ 9223372036854775807 ∧ ∀ s ∈ g.wr, (Lit.int .i64 s.1).wf = true ∧ (Lit.int .i64 s.2).wf = true) ∧ (g.lv.length ≤ 9223372036854775807 ∧ ∀ s ∈ g.lv, (Lit.int .i64 s.1).wf = true ∧ (Lit.int .i64 s.2).wf = true) ∧ wfC g.t ∧ (Lit.int .i64 g.pd).wf = true ∧ wfQ g.x ∧ True ∧ (g.seen.length ≤ 9223372036854775807 ∧ ∀ s ∈ g.seen, (Lit.int .i64 s).wf = true)
section
variable {H : Type} {enc : TypeId × Value → H}
end
end Go.Proofs.YtldgadmpclgfhaaGreat.Guests
namespace Go.Proofs.YtldgadmpclgfhaaGreat.Guests
set_option maxHeartbeats 8000000
set_option maxRecDepth 100000
set_option maxRecDepth 100000
open Go.ChangeShapes Go.WideShapes Go.ChangeAt Go.RowKit
open Go.Proofs.YtldgadmpclgfhaaGreat.Base Go.Proofs.YtldgadmpclgfhaaGreat.Mem Go.Proofs.YtldgadmpclgfhaaGreat.Data Go.Proofs.YtldgadmpclgfhaaGreat.Ctls Go.Proofs.YtldgadmpclgfhaaGreat.Exits Go.Proofs.YtldgadmpclgfhaaGreat.Stt
set_option linter.unusedVariables false
set_option linter.unusedSimpArgs false
def rG : Rp gT := rVia (rPair ((rLst 55 (rPair rInt rInt))) (rPair rInt (rPair rInt (rPair ((rLsw (rPair rInt rInt))) (rPair ((rLsw (rPair rInt rInt))) (rPair rCtl (rPair rInt (rPair rExit (rPair rBool ((rLst 3 rInt))))))))))) (fun g => (g.prog, g.a, g.pc, g.wr, g.lv, g.t, g.pd, g.x, g.hl, g.seen)) (fun k => ⟨k.1, k.2.1, k.2.2.1, k.2.2.2.1, k.2.2.2.2.1, k.2.2.2.2.2.1, k.2.2.2.2.2.2.1, k.2.2.2.2.2.2.2.1, k.2.2.2.2.2.2.2.2.1, k.2.2.2.2.2.2.2.2.2⟩)
theorem rG_len {g : gT} (h : rG.cap g) : g.prog.length ≤ 1048576 ∧ g.wr.length ≤ 1048576 ∧ g.lv.length ≤ 1048576 ∧ g.seen.length ≤ 1048576 := ⟨h.1.1, h.2.2.2.1.1, h.2.2.2.2.1.1, h.2.2.2.2.2.2.2.2.2.1⟩
theorem rG_rd {w : World} {lo hi : Nat} {g : gT} {cs : List Value} (h : rG.rd w lo hi g cs) : ∃ P0 P1 P2 P3, cs = [P0, .int .i64 g.a, .int .i64 g.pc, P1, P2, .int .i64 g.t.1, .int .i64 g.t.2.1, .bool g.t.2.2, .int .i64 g.pd, .int .i64 g.x.1, .int .i64 g.x.2.1, .bool g.x.2.2.1, .int .i64 g.x.2.2.2, .bool g.hl, P3] ∧ ((rLst 55 (rPair rInt rInt))).rd w lo hi g.prog [P0] ∧ ((rLsw (rPair rInt rInt))).rd w lo hi g.wr [P1] ∧ ((rLsw (rPair rInt rInt))).rd w lo hi g.lv [P2] ∧ ((rLst 3 rInt)).rd w lo hi g.seen [P3] := by
 obtain ⟨c0, s0, rfl, h0, g0⟩ := h
 obtain ⟨P0, rfl⟩ := lst_rd h0
 obtain ⟨c1, s1, rfl, h1, g1⟩ := g0
 obtain rfl := show _ = _ from h1
 obtain ⟨c2, s2, rfl, h2, g2⟩ := g1
 obtain rfl := show _ = _ from h2
 obtain ⟨c3, s3, rfl, h3, g3⟩ := g2
 obtain ⟨P1, rfl⟩ := lst_rd h3
 obtain ⟨c4, s4, rfl, h4, g4⟩ := g3
 obtain ⟨P2, rfl⟩ := lst_rd h4
 obtain ⟨c5, s5, rfl, h5, g5⟩ := g4
 obtain ⟨u5_0, v5_0, rfl, x5_0, q5_0⟩ := h5
 obtain rfl := show _ = _ from x5_0
 obtain ⟨u5_1, v5_1, rfl, x5_1, q5_1⟩ := q5_0
 obtain rfl := show _ = _ from x5_1
 obtain rfl := show _ = _ from q5_1
 obtain ⟨c6, s6, rfl, h6, g6⟩ := g5
 obtain rfl := show _ = _ from h6
 obtain ⟨c7, s7, rfl, h7, g7⟩ := g6
 obtain ⟨u7_0, v7_0, rfl, x7_0, q7_0⟩ := h7
 obtain rfl := show _ = _ from x7_0
 obtain ⟨u7_1, v7_1, rfl, x7_1, q7_1⟩ := q7_0
 obtain rfl := show _ = _ from x7_1
 obtain ⟨u7_2, v7_2, rfl, x7_2, q7_2⟩ := q7_1
 obtain rfl := show _ = _ from x7_2
 obtain rfl := show _ = _ from q7_2
 obtain ⟨c8, s8, rfl, h8, g8⟩ := g7
 obtain rfl := show _ = _ from h8
 obtain ⟨P3, rfl⟩ := lst_rd g8
 exact ⟨P0, P1, P2, P3, by simp, h0, h3, h4, g8⟩
theorem rG_own {w : World} {lo hi : Nat} {g : gT} {cs : List Value} {F : List Nat} (h : rG.own w lo hi g cs F) : ∃ P0 P1 P2 P3 F0 F1 F2 F3, cs = [P0, .int .i64 g.a, .int .i64 g.pc, P1, P2, .int .i64 g.t.1, .int .i64 g.t.2.1, .bool g.t.2.2, .int .i64 g.pd, .int .i64 g.x.1, .int .i64 g.x.2.1, .bool g.x.2.2.1, .int .i64 g.x.2.2.2, .bool g.hl, P3] ∧ F = F0 ++ (F1 ++ (F2 ++ F3)) ∧ ((rLst 55 (rPair rInt rInt))).own w lo hi g.prog [P0] F0 ∧ ((rLsw (rPair rInt rInt))).own w lo hi g.wr [P1] F1 ∧ ((rLsw (rPair rInt rInt))).own w lo hi g.lv [P2] F2 ∧ ((rLst 3 rInt)).own w lo hi g.seen [P3] F3 := by
 obtain ⟨c0, s0, G0, H0, rfl, rfl, h0, g0⟩ := h
 obtain ⟨P0, rfl⟩ := lst_own h0
 obtain ⟨c1, s1, G1, H1, rfl, rfl, h1, g1⟩ := g0
 obtain ⟨rfl, rfl⟩ := h1
 obtain ⟨c2, s2, G2, H2, rfl, rfl, h2, g2⟩ := g1
 obtain ⟨rfl, rfl⟩ := h2
 obtain ⟨c3, s3, G3, H3, rfl, rfl, h3, g3⟩ := g2
 obtain ⟨P1, rfl⟩ := lsw_own h3
 obtain ⟨c4, s4, G4, H4, rfl, rfl, h4, g4⟩ := g3
 obtain ⟨P2, rfl⟩ := lsw_own h4
 obtain ⟨c5, s5, G5, H5, rfl, rfl, h5, g5⟩ := g4
 obtain ⟨u5_0, v5_0, U5_0, V5_0, rfl, rfl, ⟨rfl, rfl⟩, q5_0⟩ := h5
 obtain ⟨u5_1, v5_1, U5_1, V5_1, rfl, rfl, ⟨rfl, rfl⟩, q5_1⟩ := q5_0
 obtain ⟨rfl, rfl⟩ := q5_1
 obtain ⟨c6, s6, G6, H6, rfl, rfl, h6, g6⟩ := g5
 obtain ⟨rfl, rfl⟩ := h6
 obtain ⟨c7, s7, G7, H7, rfl, rfl, h7, g7⟩ := g6
 obtain ⟨u7_0, v7_0, U7_0, V7_0, rfl, rfl, ⟨rfl, rfl⟩, q7_0⟩ := h7
 obtain ⟨u7_1, v7_1, U7_1, V7_1, rfl, rfl, ⟨rfl, rfl⟩, q7_1⟩ := q7_0
 obtain ⟨u7_2, v7_2, U7_2, V7_2, rfl, rfl, ⟨rfl, rfl⟩, q7_2⟩ := q7_1
 obtain ⟨rfl, rfl⟩ := q7_2
 obtain ⟨c8, s8, G8, H8, rfl, rfl, h8, g8⟩ := g7
 obtain ⟨rfl, rfl⟩ := h8
 obtain ⟨P3, rfl⟩ := lst_own g8
 exact ⟨P0, P1, P2, P3, G0, G3, G4, H8, by simp, by simp, h0, h3, h4, g8⟩
theorem rG_own_mk {w : World} {lo hi : Nat} {g : gT} {P0 P1 P2 P3 : Value} {F0 F1 F2 F3 : List Nat} (h0 : ((rLst 55 (rPair rInt rInt))).own w lo hi g.prog [P0] F0) (h1 : ((rLsw (rPair rInt rInt))).own w lo hi g.wr [P1] F1) (h2 : ((rLsw (rPair rInt rInt))).own w lo hi g.lv [P2] F2) (h3 : ((rLst 3 rInt)).own w lo hi g.seen [P3] F3) : rG.own w lo hi g [P0, .int .i64 g.a, .int .i64 g.pc, P1, P2, .int .i64 g.t.1, .int .i64 g.t.2.1, .bool g.t.2.2, .int .i64 g.pd, .int .i64 g.x.1, .int .i64 g.x.2.1, .bool g.x.2.2.1, .int .i64 g.x.2.2.2, .bool g.hl, P3] (F0 ++ (F1 ++ (F2 ++ F3))) := by
 have h : rG.own w lo hi g [P0, .int .i64 g.a, .int .i64 g.pc, P1, P2, .int .i64 g.t.1, .int .i64 g.t.2.1, .bool g.t.2.2, .int .i64 g.pd, .int .i64 g.x.1, .int .i64 g.x.2.1, .bool g.x.2.2.1, .int .i64 g.x.2.2.2, .bool g.hl, P3] _ := ⟨[_], _, F0, _, rfl, rfl, h0, ⟨[_], _, [], _, rfl, rfl, ⟨rfl, rfl⟩, ⟨[_], _, [], _, rfl, rfl, ⟨rfl, rfl⟩, ⟨[_], _, F1, _, rfl, rfl, h1, ⟨[_], _, F2, _, rfl, rfl, h2, ⟨[_, _, _], _, [], _, rfl, rfl, ⟨[_], _, [], [], rfl, rfl, ⟨rfl, rfl⟩, ⟨[_], _, [], [], rfl, rfl, ⟨rfl, rfl⟩, ⟨rfl, rfl⟩⟩⟩, ⟨[_], _, [], _, rfl, rfl, ⟨rfl, rfl⟩, ⟨[_, _, _, _], _, [], _, rfl, rfl, ⟨[_], _, [], [], rfl, rfl, ⟨rfl, rfl⟩, ⟨[_], _, [], [], rfl, rfl, ⟨rfl, rfl⟩, ⟨[_], _, [], [], rfl, rfl, ⟨rfl, rfl⟩, ⟨rfl, rfl⟩⟩⟩⟩, ⟨[_], _, [], _, rfl, rfl, ⟨rfl, rfl⟩, h3⟩⟩⟩⟩⟩⟩⟩⟩⟩
 simpa using h
theorem rG_open {w0 w : World} {lo hi : Nat} {g : gT} {cs : List Value} {F : List Nat} {T : List Res} (S : St w0 w (ow rG lo hi g cs F :: T)) : ∃ P0 P1 P2 P3 F0 F1 F2 F3, cs = [P0, .int .i64 g.a, .int .i64 g.pc, P1, P2, .int .i64 g.t.1, .int .i64 g.t.2.1, .bool g.t.2.2, .int .i64 g.pd, .int .i64 g.x.1, .int .i64 g.x.2.1, .bool g.x.2.2.1, .int .i64 g.x.2.2.2, .bool g.hl, P3] ∧ St w0 w (ow (rLst 55 (rPair rInt rInt)) lo hi g.prog [P0] F0 :: ow (rLsw (rPair rInt rInt)) lo hi g.wr [P1] F1 :: ow (rLsw (rPair rInt rInt)) lo hi g.lv [P2] F2 :: ow (rLst 3 rInt) lo hi g.seen [P3] F3 :: T) := by
 obtain ⟨hown, hnd⟩ := S.at_ 0 rfl
 have hl := S.lo 0 _ rfl
 have hh := S.hi 0 _ rfl
 obtain ⟨P0, P1, P2, P3, F0, F1, F2, F3, rfl, rfl, q0, q1, q2, q3⟩ := rG_own hown
 obtain ⟨m0, n0, d0⟩ := List.nodup_append.1 hnd
 obtain ⟨m1, n1, d1⟩ := List.nodup_append.1 n0
 obtain ⟨m2, n2, d2⟩ := List.nodup_append.1 n1
 have m3 := n2
 refine ⟨P0, P1, P2, P3, F0, F1, F2, F3, rfl, S.parts [ow (rLst 55 (rPair rInt rInt)) lo hi g.prog [P0] F0, ow (rLsw (rPair rInt rInt)) lo hi g.wr [P1] F1, ow (rLsw (rPair rInt rInt)) lo hi g.lv [P2] F2, ow (rLst 3 rInt) lo hi g.seen [P3] F3] ?_ ?_⟩
 ·
  intro s hs
  simp only [List.mem_cons, List.not_mem_nil, or_false] at hs
  rcases hs with rfl | rfl | rfl | rfl
  ·
   exact ⟨⟨q0, m0⟩, fun k hk => ⟨by simp [hk.1], hk.2⟩, hl, hh⟩
  ·
   exact ⟨⟨q1, m1⟩, fun k hk => ⟨by simp [hk.1], hk.2⟩, hl, hh⟩
  ·
   exact ⟨⟨q2, m2⟩, fun k hk => ⟨by simp [hk.1], hk.2⟩, hl, hh⟩
  ·
   exact ⟨⟨q3, m3⟩, fun k hk => ⟨by simp [hk.1], hk.2⟩, hl, hh⟩
 ·
  simp only [List.pairwise_cons, List.mem_cons, List.not_mem_nil, or_false, forall_eq_or_imp, forall_eq, List.Pairwise.nil, and_true, false_implies, implies_true, ow]
  exact ⟨⟨(fun k hk hk' => d0 k hk.1 k (by simp [hk'.1]) rfl), (fun k hk hk' => d0 k hk.1 k (by simp [hk'.1]) rfl), (fun k hk hk' => d0 k hk.1 k (by simp [hk'.1]) rfl)⟩, ⟨(fun k hk hk' => d1 k hk.1 k (by simp [hk'.1]) rfl), (fun k hk hk' => d1 k hk.1 k (by simp [hk'.1]) rfl)⟩, (fun k hk hk' => d2 k hk.1 k (by simp [hk'.1]) rfl)⟩
theorem rG_shut {w0 w : World} {g : gT} {L : List Res} {P0 P1 P2 P3 : Value} {F0 F1 F2 F3 : List Nat} {l0 k0 l1 k1 l2 k2 l3 k3 : Nat} (S : St w0 w L) (i0 : Nat) (e0 : L[i0]? = some (ow (rLst 55 (rPair rInt rInt)) l0 k0 g.prog [P0] F0)) (i1 : Nat) (e1 : L[i1]? = some (ow (rLsw (rPair rInt rInt)) l1 k1 g.wr [P1] F1)) (i2 : Nat) (e2 : L[i2]? = some (ow (rLsw (rPair rInt rInt)) l2 k2 g.lv [P2] F2)) (i3 : Nat) (e3 : L[i3]? = some (ow (rLst 3 rInt) l3 k3 g.seen [P3] F3)) (n01 : i0 ≠ i1) (n02 : i0 ≠ i2) (n03 : i0 ≠ i3) (n12 : i1 ≠ i2) (n13 : i1 ≠ i3) (n23 : i2 ≠ i3) : rG.own w w0.heap.size w.heap.size g [P0, .int .i64 g.a, .int .i64 g.pc, P1, P2, .int .i64 g.t.1, .int .i64 g.t.2.1, .bool g.t.2.2, .int .i64 g.pd, .int .i64 g.x.1, .int .i64 g.x.2.1, .bool g.x.2.2.1, .int .i64 g.x.2.2.2, .bool g.hl, P3] (F0 ++ (F1 ++ (F2 ++ F3))) ∧ (F0 ++ (F1 ++ (F2 ++ F3))).Nodup := by
 refine ⟨rG_own_mk (S.own i0 e0) (S.own i1 e1) (S.own i2 e2) (S.own i3 e3), ?_⟩
 exact (nodup_app (S.nodup i0 e0) (nodup_app (S.nodup i1 e1) (nodup_app (S.nodup i2 e2) (S.nodup i3 e3) (fun k hk => (S.disj i2 i3 e2 e3 n23 k hk))) (fun k hk => (not_app (S.disj i1 i2 e1 e2 n12 k hk) (S.disj i1 i3 e1 e3 n13 k hk)))) (fun k hk => (not_app (S.disj i0 i1 e0 e1 n01 k hk) (not_app (S.disj i0 i2 e0 e2 n02 k hk) (S.disj i0 i3 e0 e3 n03 k hk)))))
end Go.Proofs.YtldgadmpclgfhaaGreat.Guests
namespace Go.Proofs.YtldgadmpclgfhaaGreat.Kit
set_option maxHeartbeats 8000000
set_option maxRecDepth 100000
set_option maxRecDepth 100000
open Go.ChangeShapes Go.WideShapes Go.ChangeAt Go.RowKit Go.Deep
open Go.Proofs.YtldgadmpclgfhaaGreat.Base Go.Proofs.YtldgadmpclgfhaaGreat.Mem Go.Proofs.YtldgadmpclgfhaaGreat.Data Go.Proofs.YtldgadmpclgfhaaGreat.Stt Go.Proofs.YtldgadmpclgfhaaGreat.Guests Go.Proofs.YtldgadmpclgfhaaGreat.Ctls Go.Proofs.YtldgadmpclgfhaaGreat.Exits
set_option linter.unusedVariables false
set_option linter.unusedSimpArgs false
def wG : Rp gT := rVia (rPair ((rLsw (rPair rInt rInt))) (rPair rInt (rPair rInt (rPair ((rLsw (rPair rInt rInt))) (rPair ((rLsw (rPair rInt rInt))) (rPair rCtl (rPair rInt (rPair rExit (rPair rBool ((rLsw rInt))))))))))) (fun g => (g.prog, g.a, g.pc, g.wr, g.lv, g.t, g.pd, g.x, g.hl, g.seen)) (fun k => ⟨k.1, k.2.1, k.2.2.1, k.2.2.2.1, k.2.2.2.2.1, k.2.2.2.2.2.1, k.2.2.2.2.2.2.1, k.2.2.2.2.2.2.2.1, k.2.2.2.2.2.2.2.2.1, k.2.2.2.2.2.2.2.2.2⟩)
theorem wG_rd {w : World} {lo hi : Nat} {g : gT} {cs : List Value} (h : wG.rd w lo hi g cs) : ∃ P0 P1 P2 P3, cs = [P0, .int .i64 g.a, .int .i64 g.pc, P1, P2, .int .i64 g.t.1, .int .i64 g.t.2.1, .bool g.t.2.2, .int .i64 g.pd, .int .i64 g.x.1, .int .i64 g.x.2.1, .bool g.x.2.2.1, .int .i64 g.x.2.2.2, .bool g.hl, P3] ∧ ((rLsw (rPair rInt rInt))).rd w lo hi g.prog [P0] ∧ ((rLsw (rPair rInt rInt))).rd w lo hi g.wr [P1] ∧ ((rLsw (rPair rInt rInt))).rd w lo hi g.lv [P2] ∧ ((rLsw rInt)).rd w lo hi g.seen [P3] := by
 obtain ⟨c0, s0, rfl, h0, g0⟩ := h
 obtain ⟨P0, rfl⟩ := lst_rd h0
 obtain ⟨c1, s1, rfl, h1, g1⟩ := g0
 obtain rfl := show _ = _ from h1
 obtain ⟨c2, s2, rfl, h2, g2⟩ := g1
 obtain rfl := show _ = _ from h2
 obtain ⟨c3, s3, rfl, h3, g3⟩ := g2
 obtain ⟨P1, rfl⟩ := lst_rd h3
 obtain ⟨c4, s4, rfl, h4, g4⟩ := g3
 obtain ⟨P2, rfl⟩ := lst_rd h4
 obtain ⟨c5, s5, rfl, h5, g5⟩ := g4
 obtain ⟨u5_0, v5_0, rfl, x5_0, q5_0⟩ := h5
 obtain rfl := show _ = _ from x5_0
 obtain ⟨u5_1, v5_1, rfl, x5_1, q5_1⟩ := q5_0
 obtain rfl := show _ = _ from x5_1
 obtain rfl := show _ = _ from q5_1
 obtain ⟨c6, s6, rfl, h6, g6⟩ := g5
 obtain rfl := show _ = _ from h6
 obtain ⟨c7, s7, rfl, h7, g7⟩ := g6
 obtain ⟨u7_0, v7_0, rfl, x7_0, q7_0⟩ := h7
 obtain rfl := show _ = _ from x7_0
 obtain ⟨u7_1, v7_1, rfl, x7_1, q7_1⟩ := q7_0
 obtain rfl := show _ = _ from x7_1
 obtain ⟨u7_2, v7_2, rfl, x7_2, q7_2⟩ := q7_1
 obtain rfl := show _ = _ from x7_2
 obtain rfl := show _ = _ from q7_2
 obtain ⟨c8, s8, rfl, h8, g8⟩ := g7
 obtain rfl := show _ = _ from h8
 obtain ⟨P3, rfl⟩ := lst_rd g8
 exact ⟨P0, P1, P2, P3, by simp, h0, h3, h4, g8⟩
theorem wG_own {w : World} {lo hi : Nat} {g : gT} {cs : List Value} {F : List Nat} (h : wG.own w lo hi g cs F) : ∃ P0 P1 P2 P3 F0 F1 F2 F3, cs = [P0, .int .i64 g.a, .int .i64 g.pc, P1, P2, .int .i64 g.t.1, .int .i64 g.t.2.1, .bool g.t.2.2, .int .i64 g.pd, .int .i64 g.x.1, .int .i64 g.x.2.1, .bool g.x.2.2.1, .int .i64 g.x.2.2.2, .bool g.hl, P3] ∧ F = F0 ++ (F1 ++ (F2 ++ F3)) ∧ ((rLsw (rPair rInt rInt))).own w lo hi g.prog [P0] F0 ∧ ((rLsw (rPair rInt rInt))).own w lo hi g.wr [P1] F1 ∧ ((rLsw (rPair rInt rInt))).own w lo hi g.lv [P2] F2 ∧ ((rLsw rInt)).own w lo hi g.seen [P3] F3 := by
 obtain ⟨c0, s0, G0, H0, rfl, rfl, h0, g0⟩ := h
 obtain ⟨P0, rfl⟩ := lsw_own h0
 obtain ⟨c1, s1, G1, H1, rfl, rfl, h1, g1⟩ := g0
 obtain ⟨rfl, rfl⟩ := h1
 obtain ⟨c2, s2, G2, H2, rfl, rfl, h2, g2⟩ := g1
 obtain ⟨rfl, rfl⟩ := h2
 obtain ⟨c3, s3, G3, H3, rfl, rfl, h3, g3⟩ := g2
 obtain ⟨P1, rfl⟩ := lsw_own h3
 obtain ⟨c4, s4, G4, H4, rfl, rfl, h4, g4⟩ := g3
 obtain ⟨P2, rfl⟩ := lsw_own h4
 obtain ⟨c5, s5, G5, H5, rfl, rfl, h5, g5⟩ := g4
 obtain ⟨u5_0, v5_0, U5_0, V5_0, rfl, rfl, ⟨rfl, rfl⟩, q5_0⟩ := h5
 obtain ⟨u5_1, v5_1, U5_1, V5_1, rfl, rfl, ⟨rfl, rfl⟩, q5_1⟩ := q5_0
 obtain ⟨rfl, rfl⟩ := q5_1
 obtain ⟨c6, s6, G6, H6, rfl, rfl, h6, g6⟩ := g5
 obtain ⟨rfl, rfl⟩ := h6
 obtain ⟨c7, s7, G7, H7, rfl, rfl, h7, g7⟩ := g6
 obtain ⟨u7_0, v7_0, U7_0, V7_0, rfl, rfl, ⟨rfl, rfl⟩, q7_0⟩ := h7
 obtain ⟨u7_1, v7_1, U7_1, V7_1, rfl, rfl, ⟨rfl, rfl⟩, q7_1⟩ := q7_0
 obtain ⟨u7_2, v7_2, U7_2, V7_2, rfl, rfl, ⟨rfl, rfl⟩, q7_2⟩ := q7_1
 obtain ⟨rfl, rfl⟩ := q7_2
 obtain ⟨c8, s8, G8, H8, rfl, rfl, h8, g8⟩ := g7
 obtain ⟨rfl, rfl⟩ := h8
 obtain ⟨P3, rfl⟩ := lsw_own g8
 exact ⟨P0, P1, P2, P3, G0, G3, G4, H8, by simp, by simp, h0, h3, h4, g8⟩
theorem wG_rd_mk {w : World} {lo hi : Nat} {g : gT} {P0 P1 P2 P3 : Value} (h0 : ((rLsw (rPair rInt rInt))).rd w lo hi g.prog [P0]) (h1 : ((rLsw (rPair rInt rInt))).rd w lo hi g.wr [P1]) (h2 : ((rLsw (rPair rInt rInt))).rd w lo hi g.lv [P2]) (h3 : ((rLsw rInt)).rd w lo hi g.seen [P3]) : wG.rd w lo hi g [P0, .int .i64 g.a, .int .i64 g.pc, P1, P2, .int .i64 g.t.1, .int .i64 g.t.2.1, .bool g.t.2.2, .int .i64 g.pd, .int .i64 g.x.1, .int .i64 g.x.2.1, .bool g.x.2.2.1, .int .i64 g.x.2.2.2, .bool g.hl, P3] :=
 ⟨[_], _, rfl, h0, ⟨[_], _, rfl, rfl, ⟨[_], _, rfl, rfl, ⟨[_], _, rfl, h1, ⟨[_], _, rfl, h2, ⟨[_, _, _], _, rfl, ⟨[_], _, rfl, rfl, ⟨[_], _, rfl, rfl, rfl⟩⟩, ⟨[_], _, rfl, rfl, ⟨[_, _, _, _], _, rfl, ⟨[_], _, rfl, rfl, ⟨[_], _, rfl, rfl, ⟨[_], _, rfl, rfl, rfl⟩⟩⟩, ⟨[_], _, rfl, rfl, h3⟩⟩⟩⟩⟩⟩⟩⟩⟩
theorem wG_own_mk {w : World} {lo hi : Nat} {g : gT} {P0 P1 P2 P3 : Value} {F0 F1 F2 F3 : List Nat} (h0 : ((rLsw (rPair rInt rInt))).own w lo hi g.prog [P0] F0) (h1 : ((rLsw (rPair rInt rInt))).own w lo hi g.wr [P1] F1) (h2 : ((rLsw (rPair rInt rInt))).own w lo hi g.lv [P2] F2) (h3 : ((rLsw rInt)).own w lo hi g.seen [P3] F3) : wG.own w lo hi g [P0, .int .i64 g.a, .int .i64 g.pc, P1, P2, .int .i64 g.t.1, .int .i64 g.t.2.1, .bool g.t.2.2, .int .i64 g.pd, .int .i64 g.x.1, .int .i64 g.x.2.1, .bool g.x.2.2.1, .int .i64 g.x.2.2.2, .bool g.hl, P3] (F0 ++ (F1 ++ (F2 ++ F3))) := by
 have h : wG.own w lo hi g [P0, .int .i64 g.a, .int .i64 g.pc, P1, P2, .int .i64 g.t.1, .int .i64 g.t.2.1, .bool g.t.2.2, .int .i64 g.pd, .int .i64 g.x.1, .int .i64 g.x.2.1, .bool g.x.2.2.1, .int .i64 g.x.2.2.2, .bool g.hl, P3] _ := ⟨[_], _, F0, _, rfl, rfl, h0, ⟨[_], _, [], _, rfl, rfl, ⟨rfl, rfl⟩, ⟨[_], _, [], _, rfl, rfl, ⟨rfl, rfl⟩, ⟨[_], _, F1, _, rfl, rfl, h1, ⟨[_], _, F2, _, rfl, rfl, h2, ⟨[_, _, _], _, [], _, rfl, rfl, ⟨[_], _, [], [], rfl, rfl, ⟨rfl, rfl⟩, ⟨[_], _, [], [], rfl, rfl, ⟨rfl, rfl⟩, ⟨rfl, rfl⟩⟩⟩, ⟨[_], _, [], _, rfl, rfl, ⟨rfl, rfl⟩, ⟨[_, _, _, _], _, [], _, rfl, rfl, ⟨[_], _, [], [], rfl, rfl, ⟨rfl, rfl⟩, ⟨[_], _, [], [], rfl, rfl, ⟨rfl, rfl⟩, ⟨[_], _, [], [], rfl, rfl, ⟨rfl, rfl⟩, ⟨rfl, rfl⟩⟩⟩⟩, ⟨[_], _, [], _, rfl, rfl, ⟨rfl, rfl⟩, h3⟩⟩⟩⟩⟩⟩⟩⟩⟩
 simpa using h
theorem wG_shut {w0 w : World} {g : gT} {L : List Res} {P0 P1 P2 P3 : Value} {F0 F1 F2 F3 : List Nat} {l0 k0 l1 k1 l2 k2 l3 k3 : Nat} (S : St w0 w L) (i0 : Nat) (e0 : L[i0]? = some (ow (rLsw (rPair rInt rInt)) l0 k0 g.prog [P0] F0)) (i1 : Nat) (e1 : L[i1]? = some (ow (rLsw (rPair rInt rInt)) l1 k1 g.wr [P1] F1)) (i2 : Nat) (e2 : L[i2]? = some (ow (rLsw (rPair rInt rInt)) l2 k2 g.lv [P2] F2)) (i3 : Nat) (e3 : L[i3]? = some (ow (rLsw rInt) l3 k3 g.seen [P3] F3)) (n01 : i0 ≠ i1) (n02 : i0 ≠ i2) (n03 : i0 ≠ i3) (n12 : i1 ≠ i2) (n13 : i1 ≠ i3) (n23 : i2 ≠ i3) : wG.own w w0.heap.size w.heap.size g [P0, .int .i64 g.a, .int .i64 g.pc, P1, P2, .int .i64 g.t.1, .int .i64 g.t.2.1, .bool g.t.2.2, .int .i64 g.pd, .int .i64 g.x.1, .int .i64 g.x.2.1, .bool g.x.2.2.1, .int .i64 g.x.2.2.2, .bool g.hl, P3] (F0 ++ (F1 ++ (F2 ++ F3))) ∧ (F0 ++ (F1 ++ (F2 ++ F3))).Nodup := by
 refine ⟨wG_own_mk (S.own i0 e0) (S.own i1 e1) (S.own i2 e2) (S.own i3 e3), ?_⟩
 exact (nodup_app (S.nodup i0 e0) (nodup_app (S.nodup i1 e1) (nodup_app (S.nodup i2 e2) (S.nodup i3 e3) (fun k hk => (S.disj i2 i3 e2 e3 n23 k hk))) (fun k hk => (not_app (S.disj i1 i2 e1 e2 n12 k hk) (S.disj i1 i3 e1 e3 n13 k hk)))) (fun k hk => (not_app (S.disj i0 i1 e0 e1 n01 k hk) (not_app (S.disj i0 i2 e0 e2 n02 k hk) (S.disj i0 i3 e0 e3 n03 k hk)))))
theorem wG_open2 {w0 w : World} {lo hi : Nat} {g : gT} {cs : List Value} {F : List Nat} {T : List Res} (S : St w0 w (ow wG lo hi g cs F :: T)) : ∃ P0 P1 P2 P3 F0 F1 F2 F3, cs = [P0, .int .i64 g.a, .int .i64 g.pc, P1, P2, .int .i64 g.t.1, .int .i64 g.t.2.1, .bool g.t.2.2, .int .i64 g.pd, .int .i64 g.x.1, .int .i64 g.x.2.1, .bool g.x.2.2.1, .int .i64 g.x.2.2.2, .bool g.hl, P3] ∧ F = F0 ++ (F1 ++ (F2 ++ F3)) ∧ St w0 w (ow (rLsw (rPair rInt rInt)) lo hi g.prog [P0] F0 :: ow (rLsw (rPair rInt rInt)) lo hi g.wr [P1] F1 :: ow (rLsw (rPair rInt rInt)) lo hi g.lv [P2] F2 :: ow (rLsw rInt) lo hi g.seen [P3] F3 :: T) := by
 obtain ⟨hown, hnd⟩ := S.at_ 0 rfl
 have hl := S.lo 0 _ rfl
 have hh := S.hi 0 _ rfl
 obtain ⟨P0, P1, P2, P3, F0, F1, F2, F3, rfl, rfl, q0, q1, q2, q3⟩ := wG_own hown
 obtain ⟨m0, n0, d0⟩ := List.nodup_append.1 hnd
 obtain ⟨m1, n1, d1⟩ := List.nodup_append.1 n0
 obtain ⟨m2, n2, d2⟩ := List.nodup_append.1 n1
 have m3 := n2
 refine ⟨P0, P1, P2, P3, F0, F1, F2, F3, rfl, rfl, S.parts [ow (rLsw (rPair rInt rInt)) lo hi g.prog [P0] F0, ow (rLsw (rPair rInt rInt)) lo hi g.wr [P1] F1, ow (rLsw (rPair rInt rInt)) lo hi g.lv [P2] F2, ow (rLsw rInt) lo hi g.seen [P3] F3] ?_ ?_⟩
 ·
  intro s hs
  simp only [List.mem_cons, List.not_mem_nil, or_false] at hs
  rcases hs with rfl | rfl | rfl | rfl
  ·
   exact ⟨⟨q0, m0⟩, fun k hk => ⟨by simp [hk.1], hk.2⟩, hl, hh⟩
  ·
   exact ⟨⟨q1, m1⟩, fun k hk => ⟨by simp [hk.1], hk.2⟩, hl, hh⟩
  ·
   exact ⟨⟨q2, m2⟩, fun k hk => ⟨by simp [hk.1], hk.2⟩, hl, hh⟩
  ·
   exact ⟨⟨q3, m3⟩, fun k hk => ⟨by simp [hk.1], hk.2⟩, hl, hh⟩
 ·
  simp only [List.pairwise_cons, List.mem_cons, List.not_mem_nil, or_false, forall_eq_or_imp, forall_eq, List.Pairwise.nil, and_true, false_implies, implies_true, ow]
  exact ⟨⟨(fun k hk hk' => d0 k hk.1 k (by simp [hk'.1]) rfl), (fun k hk hk' => d0 k hk.1 k (by simp [hk'.1]) rfl), (fun k hk hk' => d0 k hk.1 k (by simp [hk'.1]) rfl)⟩, ⟨(fun k hk hk' => d1 k hk.1 k (by simp [hk'.1]) rfl), (fun k hk hk' => d1 k hk.1 k (by simp [hk'.1]) rfl)⟩, (fun k hk hk' => d2 k hk.1 k (by simp [hk'.1]) rfl)⟩
theorem wG_shut2 {w0 w : World} {lo hi : Nat} {g : gT} {P0 P1 P2 P3 : Value} {F0 F1 F2 F3 : List Nat} {T : List Res} (S : St w0 w (ow (rLsw (rPair rInt rInt)) lo hi g.prog [P0] F0 :: ow (rLsw (rPair rInt rInt)) lo hi g.wr [P1] F1 :: ow (rLsw (rPair rInt rInt)) lo hi g.lv [P2] F2 :: ow (rLsw rInt) lo hi g.seen [P3] F3 :: T)) : St w0 w (ow wG lo hi g [P0, .int .i64 g.a, .int .i64 g.pc, P1, P2, .int .i64 g.t.1, .int .i64 g.t.2.1, .bool g.t.2.2, .int .i64 g.pd, .int .i64 g.x.1, .int .i64 g.x.2.1, .bool g.x.2.2.1, .int .i64 g.x.2.2.2, .bool g.hl, P3] (F0 ++ (F1 ++ (F2 ++ F3))) :: T) := by
 have hnd := (wG_shut (g := g) S 0 rfl 1 rfl 2 rfl 3 rfl (by decide) (by decide) (by decide) (by decide) (by decide) (by decide)).2
 refine Sx.St.merge (rs := [ow (rLsw (rPair rInt rInt)) lo hi g.prog [P0] F0, ow (rLsw (rPair rInt rInt)) lo hi g.wr [P1] F1, ow (rLsw (rPair rInt rInt)) lo hi g.lv [P2] F2, ow (rLsw rInt) lo hi g.seen [P3] F3]) S (ow wG lo hi g [P0, .int .i64 g.a, .int .i64 g.pc, P1, P2, .int .i64 g.t.1, .int .i64 g.t.2.1, .bool g.t.2.2, .int .i64 g.pd, .int .i64 g.x.1, .int .i64 g.x.2.1, .bool g.x.2.2.1, .int .i64 g.x.2.2.2, .bool g.hl, P3] (F0 ++ (F1 ++ (F2 ++ F3)))) ⟨wG_own_mk (S.at_ 0 rfl).1 (S.at_ 1 rfl).1 (S.at_ 2 rfl).1 (S.at_ 3 rfl).1, hnd⟩ (fun k hk => ?_) (S.lo 0 _ rfl : w0.heap.size ≤ lo) (S.hi 0 _ rfl : hi ≤ w.heap.size)
 obtain ⟨hk, hb⟩ := hk
 simp only [List.mem_append] at hk
 rcases hk with h | h | h | h
 ·
  exact ⟨_, List.mem_cons_self, h, hb⟩
 ·
  exact ⟨_, List.mem_cons_of_mem _ (List.mem_cons_self), h, hb⟩
 ·
  exact ⟨_, List.mem_cons_of_mem _ (List.mem_cons_of_mem _ (List.mem_cons_self)), h, hb⟩
 ·
  exact ⟨_, List.mem_cons_of_mem _ (List.mem_cons_of_mem _ (List.mem_cons_of_mem _ (List.mem_cons_self))), h, hb⟩
theorem own_zero_Guest (w : World) (lo hi : Nat) : wG.own w lo hi ({ prog := [], a := 0, pc := 0, wr := [], lv := [], t := (0, 0, false), pd := 0, x := (0, 0, false, 0), hl := false, seen := [] } : gT) [.slice none 0 0, .int .i64 0, .int .i64 0, .slice none 0 0, .slice none 0 0, .int .i64 0, .int .i64 0, .bool false, .int .i64 0, .int .i64 0, .int .i64 0, .bool false, .int .i64 0, .bool false, .slice none 0 0] [] := by
 have h := wG_own_mk (w := w) (lo := lo) (hi := hi) (g := ({ prog := [], a := 0, pc := 0, wr := [], lv := [], t := (0, 0, false), pd := 0, x := (0, 0, false, 0), hl := false, seen := [] } : gT)) (P0 := .slice none 0 0) (F0 := []) (P1 := .slice none 0 0) (F1 := []) (P2 := .slice none 0 0) (F2 := []) (P3 := .slice none 0 0) (F3 := []) (own_nil _ _ _) (own_nil _ _ _) (own_nil _ _ _) (own_nil _ _ _)
 exact h
theorem open_zero_Guest {w : World} {lo hi : Nat} {es : List Value} {F : List Nat} (h : wG.own w lo hi ({ prog := [], a := 0, pc := 0, wr := [], lv := [], t := (0, 0, false), pd := 0, x := (0, 0, false, 0), hl := false, seen := [] } : gT) es F) : ∃ A0 A1 A2 A3 c0 c1 c2 c3, es = [.slice A0 0 c0, .int .i64 ({ prog := [], a := 0, pc := 0, wr := [], lv := [], t := (0, 0, false), pd := 0, x := (0, 0, false, 0), hl := false, seen := [] } : gT).a, .int .i64 ({ prog := [], a := 0, pc := 0, wr := [], lv := [], t := (0, 0, false), pd := 0, x := (0, 0, false, 0), hl := false, seen := [] } : gT).pc, .slice A1 0 c1, .slice A2 0 c2, .int .i64 ({ prog := [], a := 0, pc := 0, wr := [], lv := [], t := (0, 0, false), pd := 0, x := (0, 0, false, 0), hl := false, seen := [] } : gT).t.1, .int .i64 ({ prog := [], a := 0, pc := 0, wr := [], lv := [], t := (0, 0, false), pd := 0, x := (0, 0, false, 0), hl := false, seen := [] } : gT).t.2.1, .bool ({ prog := [], a := 0, pc := 0, wr := [], lv := [], t := (0, 0, false), pd := 0, x := (0, 0, false, 0), hl := false, seen := [] } : gT).t.2.2, .int .i64 ({ prog := [], a := 0, pc := 0, wr := [], lv := [], t := (0, 0, false), pd := 0, x := (0, 0, false, 0), hl := false, seen := [] } : gT).pd, .int .i64 ({ prog := [], a := 0, pc := 0, wr := [], lv := [], t := (0, 0, false), pd := 0, x := (0, 0, false, 0), hl := false, seen := [] } : gT).x.1, .int .i64 ({ prog := [], a := 0, pc := 0, wr := [], lv := [], t := (0, 0, false), pd := 0, x := (0, 0, false, 0), hl := false, seen := [] } : gT).x.2.1, .bool ({ prog := [], a := 0, pc := 0, wr := [], lv := [], t := (0, 0, false), pd := 0, x := (0, 0, false, 0), hl := false, seen := [] } : gT).x.2.2.1, .int .i64 ({ prog := [], a := 0, pc := 0, wr := [], lv := [], t := (0, 0, false), pd := 0, x := (0, 0, false, 0), hl := false, seen := [] } : gT).x.2.2.2, .bool ({ prog := [], a := 0, pc := 0, wr := [], lv := [], t := (0, 0, false), pd := 0, x := (0, 0, false, 0), hl := false, seen := [] } : gT).hl, .slice A3 0 c3] := by
 obtain ⟨P0, P1, P2, P3, F0, F1, F2, F3, rfl, -, q0, q1, q2, q3⟩ := wG_own h
 obtain ⟨A0, c0, e0, -⟩ := lst_val ((rLsw _).reads q0)
 subst e0
 obtain ⟨A1, c1, e1, -⟩ := lst_val ((rLsw _).reads q1)
 subst e1
 obtain ⟨A2, c2, e2, -⟩ := lst_val ((rLsw _).reads q2)
 subst e2
 obtain ⟨A3, c3, e3, -⟩ := lst_val ((rLsw _).reads q3)
 subst e3
 exact ⟨A0, A1, A2, A3, c0, c1, c2, c3, rfl⟩
end Go.Proofs.YtldgadmpclgfhaaGreat.Kit
namespace Go.Proofs.YtldgadmpclgfhaaGreat.Kit
set_option maxHeartbeats 8000000
set_option maxRecDepth 100000
set_option maxRecDepth 100000
open Go.ChangeShapes Go.WideShapes Go.ChangeAt Go.RowKit Go.Deep
open Go.Proofs.YtldgadmpclgfhaaGreat.Base Go.Proofs.YtldgadmpclgfhaaGreat.Mem Go.Proofs.YtldgadmpclgfhaaGreat.Data Go.Proofs.YtldgadmpclgfhaaGreat.Stt Go.Proofs.YtldgadmpclgfhaaGreat.Guests Go.Proofs.YtldgadmpclgfhaaGreat.Ctls Go.Proofs.YtldgadmpclgfhaaGreat.Exits
set_option linter.unusedVariables false
set_option linter.unusedSimpArgs false
structure bT where
 mem : List (List Int)
 gs : List gT
 outs : List Int
 pd : Int
def wB : Rp bT := rVia (rPair ((rLsw (rLsw rInt))) (rPair ((rLsw wG)) (rPair ((rLsw rInt)) (rInt)))) (fun g => (g.mem, g.gs, g.outs, g.pd)) (fun k => ⟨k.1, k.2.1, k.2.2.1, k.2.2.2⟩)
theorem wB_rd {w : World} {lo hi : Nat} {g : bT} {cs : List Value} (h : wB.rd w lo hi g cs) : ∃ P0 P1 P2, cs = [P0, P1, P2, .int .i64 g.pd] ∧ ((rLsw (rLsw rInt))).rd w lo hi g.mem [P0] ∧ ((rLsw wG)).rd w lo hi g.gs [P1] ∧ ((rLsw rInt)).rd w lo hi g.outs [P2] := by
 obtain ⟨c0, s0, rfl, h0, g0⟩ := h
 obtain ⟨P0, rfl⟩ := lst_rd h0
 obtain ⟨c1, s1, rfl, h1, g1⟩ := g0
 obtain ⟨P1, rfl⟩ := lst_rd h1
 obtain ⟨c2, s2, rfl, h2, g2⟩ := g1
 obtain ⟨P2, rfl⟩ := lst_rd h2
 obtain rfl := show _ = _ from g2
 exact ⟨P0, P1, P2, by simp, h0, h1, h2⟩
theorem wB_rd_mk {w : World} {lo hi : Nat} {g : bT} {P0 P1 P2 : Value} (h0 : ((rLsw (rLsw rInt))).rd w lo hi g.mem [P0]) (h1 : ((rLsw wG)).rd w lo hi g.gs [P1]) (h2 : ((rLsw rInt)).rd w lo hi g.outs [P2]) : wB.rd w lo hi g [P0, P1, P2, .int .i64 g.pd] :=
 ⟨[_], _, rfl, h0, ⟨[_], _, rfl, h1, ⟨[_], _, rfl, h2, rfl⟩⟩⟩
theorem wB_own_mk {w : World} {lo hi : Nat} {g : bT} {P0 P1 P2 : Value} {F0 F1 F2 : List Nat} (h0 : ((rLsw (rLsw rInt))).own w lo hi g.mem [P0] F0) (h1 : ((rLsw wG)).own w lo hi g.gs [P1] F1) (h2 : ((rLsw rInt)).own w lo hi g.outs [P2] F2) : wB.own w lo hi g [P0, P1, P2, .int .i64 g.pd] (F0 ++ (F1 ++ F2)) := by
 have h : wB.own w lo hi g [P0, P1, P2, .int .i64 g.pd] _ := ⟨[_], _, F0, _, rfl, rfl, h0, ⟨[_], _, F1, _, rfl, rfl, h1, ⟨[_], _, F2, _, rfl, rfl, h2, ⟨rfl, rfl⟩⟩⟩⟩
 simpa using h
theorem wB_shut {w0 w : World} {g : bT} {L : List Res} {P0 P1 P2 : Value} {F0 F1 F2 : List Nat} {l0 k0 l1 k1 l2 k2 : Nat} (S : St w0 w L) (i0 : Nat) (e0 : L[i0]? = some (ow (rLsw (rLsw rInt)) l0 k0 g.mem [P0] F0)) (i1 : Nat) (e1 : L[i1]? = some (ow (rLsw wG) l1 k1 g.gs [P1] F1)) (i2 : Nat) (e2 : L[i2]? = some (ow (rLsw rInt) l2 k2 g.outs [P2] F2)) (n01 : i0 ≠ i1) (n02 : i0 ≠ i2) (n12 : i1 ≠ i2) : wB.own w w0.heap.size w.heap.size g [P0, P1, P2, .int .i64 g.pd] (F0 ++ (F1 ++ F2)) ∧ (F0 ++ (F1 ++ F2)).Nodup := by
 refine ⟨wB_own_mk (S.own i0 e0) (S.own i1 e1) (S.own i2 e2), ?_⟩
 exact (nodup_app (S.nodup i0 e0) (nodup_app (S.nodup i1 e1) (S.nodup i2 e2) (fun k hk => (S.disj i1 i2 e1 e2 n12 k hk))) (fun k hk => (not_app (S.disj i0 i1 e0 e1 n01 k hk) (S.disj i0 i2 e0 e2 n02 k hk))))
end Go.Proofs.YtldgadmpclgfhaaGreat.Kit
namespace Go.Proofs.YtldgadmpclgfhaaGreat.Irqs
set_option maxHeartbeats 8000000
set_option maxRecDepth 100000
set_option maxRecDepth 100000
open Go.ChangeShapes Go.WideShapes Go.ChangeAt Go.RowKit
open Go.Proofs.YtldgadmpclgfhaaGreat.Base Go.Proofs.YtldgadmpclgfhaaGreat.Mem
set_option linter.unusedVariables false
set_option linter.unusedSimpArgs false
def pend (p : Int) : Bool := inB p 0 255
theorem spec_pend (p : Int) (w : World) : Calls Tryz.prog 60 #[.int .i64 p] w fun e w' => e = .returned (.bool (pend p)) ∧ w = w' := by
 have K := Lib.hid (fun V : World => spec_in p 0 255 V)
 unfold pend
 generalize inB p 0 255 = x at K ⊢
 go_enter Tryz.func60, Tryz.ntmps60
 go_wp2_with fail
 refine (K.out _).mono ?_
 rintro e w' ⟨rfl, rfl⟩
 go_wp2_with fail
 go_ret
 exact ⟨rfl, rfl⟩
end Go.Proofs.YtldgadmpclgfhaaGreat.Irqs
namespace Go.Proofs.YtldgadmpclgfhaaGreat.Slots
set_option maxHeartbeats 8000000
set_option maxRecDepth 100000
set_option maxRecDepth 100000
open Go.ChangeShapes Go.WideShapes Go.ChangeAt Go.RowKit
open Go.Proofs.YtldgadmpclgfhaaGreat.Base Go.Proofs.YtldgadmpclgfhaaGreat.Mem Go.Proofs.YtldgadmpclgfhaaGreat.Ints
theorem Tryz.infoNum : (Tryz.prog.info? 3).map (fun i => (i.zero, i.size, i.bytes)) = some (some (.int .i64 0), 1, 8) := by kernel_rfl
def UsesPost (w : World) (u : List Int) (e : Ending) (w' : World) : Prop :=
 ∃ A n c, e = .returned (.slice A n c) ∧ u.length = n ∧ Owned w' w.heap.size w'.heap.size A (ncells u) ∧ Below w.heap.size w w'
end Go.Proofs.YtldgadmpclgfhaaGreat.Slots
namespace Go.Proofs.YtldgadmpclgfhaaGreat.Ctls
set_option maxHeartbeats 8000000
set_option maxRecDepth 100000
set_option maxRecDepth 100000
open Go.ChangeShapes Go.WideShapes Go.ChangeAt Go.RowKit
open Go.Proofs.YtldgadmpclgfhaaGreat.Base Go.Proofs.YtldgadmpclgfhaaGreat.Mem Go.Proofs.YtldgadmpclgfhaaGreat.Data Go.Proofs.YtldgadmpclgfhaaGreat.Ints Go.Proofs.YtldgadmpclgfhaaGreat.Slots
set_option linter.unusedVariables false
set_option linter.unusedSimpArgs false
def ctlF (s : CT) : List Int :=
 (if inB s.1 0 3 = true then [] else [1]) ++ ((if inB s.2.1 0 255 = true then [] else [2]) ++ ((if s.2.1 ≠ 0 ∧ s.2.2 = false then [3] else []) ++ (if s.1 = 2 ∧ s.2.1 ≠ 0 then [4] else [])))
def ctlOk (s : CT) : Bool := (ctlF s).length == 0
theorem spec_ctlF (a b : Int) (o : Bool) (w : World) :
  Calls Tryz.prog 114 #[.agg #[.int .i64 a, .int .i64 b, .bool o]] w (UsesPost w (ctlF (a, b, o))) := by
 obtain ⟨i0, hi0, hz0, hz1, hz2⟩ := info_parts Tryz.infoNum
 have hb0 : Below w.heap.size w (w.alloc (.cells #[.int .i64 a, .int .i64 b, .bool o] 35)) := (Below.refl _ _).alloc (Nat.le_refl _) _
 have t0 := Var.new w [.int .i64 a, .int .i64 b, .bool o] 35
 change Var (w.alloc (.cells #[.int .i64 a, .int .i64 b, .bool o] 35)) w.heap.size [.int .i64 a, .int .i64 b, .bool o] at t0
 have hz : w.heap.size + 1 ≤ (w.alloc (.cells #[.int .i64 a, .int .i64 b, .bool o] 35)).heap.size := by simp
 have K0 := fun V : World => spec_in a 0 3 V
 have K1 := fun V : World => spec_in b 0 255 V
 have hq : w.heap.size + 1 = (w.alloc (.cells #[.int .i64 a, .int .i64 b, .bool o] 35)).heap.size := by simp
 have HQ := Lib.hid hq
 clear hq
 by_cases ha2 : a = 2
 ·
  subst ha2
  have h0 : inB 2 0 3 = true := rfl
  have ha : (2 : Int) = 2 := rfl
  by_cases hb2 : b = 0
  ·
   subst hb2
   have h1 : inB 0 0 255 = true := rfl
   have hb : (0 : Int) = 0 := rfl
   have HL := Lib.hid (show ctlF (2, 0, o) = [] from by unfold ctlF; dsimp only; rw [h0, h1]; simp [hb, ha])
   rw [h0] at K0
   rw [h1] at K1
   have HK0 := Lib.hid K0
   have HK1 := Lib.hid K1
   clear K0 K1 h0 h1
   go_enter Tryz.func114, Tryz.ntmps114
   go_wp2_with fail
   rw [HQ.out]
   clear HQ
   generalize w.alloc (.cells #[.int .i64 2, .int .i64 0, .bool o] 35) = W0 at t0 hb0 hz ⊢
   have HO0 := Lib.hid (World.ownsRow_made (e := 3) (size := 1) W0 #[] 0 (Nat.le_refl _) (Nat.zero_le _) rfl : (W0.alloc (.cells #[] 3)).ownsRow W0.heap.size 3 1 (.slice (some ⟨W0.heap.size, 0, none⟩) 0 0) 0 (ncells []))
   have HB0 := Lib.hid (show Below W0.heap.size W0 (W0.alloc (.cells #[] 3)) from (Below.refl _ _).alloc (Nat.le_refl _) _)
   generalize W0.alloc (.cells #[] 3) = w0 at HO0 HB0 ⊢
   have v0 := (Var.below t0 HB0.out hz).cell 0 (v := .int .i64 2) rfl
   have v1 := (Var.below t0 HB0.out hz).cell 1 (v := .int .i64 0) rfl
   have v2 := (Var.below t0 HB0.out hz).cell 2 (v := .bool o) rfl
   refine (HK0.out _).mono ?_
   rintro e w' ⟨rfl, rfl⟩
   go_wp2_with fail
   refine (HK1.out _).mono ?_
   rintro e w' ⟨rfl, rfl⟩
   go_wp2_with fail
   go_ret
   rw [HL.out]
   exact ⟨_, 0, _, rfl, rfl, ⟨(Owned.of_row HO0.out).1.wide (by omega) (Nat.le_refl _), (Owned.of_row HO0.out).2⟩, btr hb0 HB0.out⟩
  ·
   have hb : ¬ b = 0 := hb2
   have hb' : (b != 0) = true := by simpa using hb2
   cases h1 : inB b 0 255 <;> cases o
   ·
    have HL := Lib.hid (show ctlF (2, b, false) = [2, 3, 4] from by unfold ctlF; dsimp only; rw [h0, h1]; simp [hb, ha])
    rw [h0] at K0
    rw [h1] at K1
    have HK0 := Lib.hid K0
    have HK1 := Lib.hid K1
    clear K0 K1 h0 h1
    go_enter Tryz.func114, Tryz.ntmps114
    go_wp2_with fail
    rw [HQ.out]
    clear HQ
    generalize w.alloc (.cells #[.int .i64 2, .int .i64 b, .bool false] 35) = W0 at t0 hb0 hz ⊢
    have HO0 := Lib.hid (World.ownsRow_made (e := 3) (size := 1) W0 #[] 0 (Nat.le_refl _) (Nat.zero_le _) rfl : (W0.alloc (.cells #[] 3)).ownsRow W0.heap.size 3 1 (.slice (some ⟨W0.heap.size, 0, none⟩) 0 0) 0 (ncells []))
    have HB0 := Lib.hid (show Below W0.heap.size W0 (W0.alloc (.cells #[] 3)) from (Below.refl _ _).alloc (Nat.le_refl _) _)
    generalize W0.alloc (.cells #[] 3) = w0 at HO0 HB0 ⊢
    have v0 := (Var.below t0 HB0.out hz).cell 0 (v := .int .i64 2) rfl
    have v1 := (Var.below t0 HB0.out hz).cell 1 (v := .int .i64 b) rfl
    have v2 := (Var.below t0 HB0.out hz).cell 2 (v := .bool false) rfl
    refine (HK0.out _).mono ?_
    rintro e w' ⟨rfl, rfl⟩
    go_wp2_with fail
    refine (HK1.out _).mono ?_
    rintro e w' ⟨rfl, rfl⟩
    go_wp2_with (first | (at_builtin; have hbs := HB0.out.size; have hown := HO0.out; refine wpList_append_lies _ rfl _ _ 28 rfl W0.heap.size 3 i0 _ 1 8 Tryz.underlying28 hi0 hz0 hz1 hz2 rfl (by omega) (.slice (some ⟨W0.heap.size, 0, none⟩) 0 0) 0 _ rfl (hown.alloc _) ⟨w0.heap.size, 0, none⟩ 1 1 [.int .i64 2] rfl rfl (World.news_of_block (heap_alloc_new w0 _)) (by simp [Value.oneCell']) (by omega) (by simp only [maxLen]; omega) (by omega) (by simp; omega) (w0.heap.size + 1) (by simp) ?_; intro g1 cap1 w1 hown2 hgrow hat hg2; have HO1 := Lib.hid (show w1.ownsRow W0.heap.size 3 1 (.slice (some ⟨g1, 0, none⟩) 1 cap1) 1 (ncells [2]) from by simpa [ncells] using hown2); have HB1 := Lib.hid (show Below W0.heap.size W0 w1 from (HB0.out.alloc hbs _).grown hgrow (by first | omega | (simp; omega)) (fun j hj => (hown.lt j hj).1)); clear hown2 hgrow hat hg2 hown hbs v0 v1 v2 HO0 HB0; have v0 := (Var.below t0 HB1.out hz).cell 0 (v := .int .i64 2) rfl; have v1 := (Var.below t0 HB1.out hz).cell 1 (v := .int .i64 b) rfl; have v2 := (Var.below t0 HB1.out hz).cell 2 (v := .bool false) rfl) | (at_builtin; have hbs := HB1.out.size; have hown := HO1.out; refine wpList_append_lies _ rfl _ _ 28 rfl W0.heap.size 3 i0 _ 1 8 Tryz.underlying28 hi0 hz0 hz1 hz2 rfl (by omega) (.slice (some ⟨g1, 0, none⟩) 1 cap1) 1 _ rfl (hown.alloc _) ⟨w1.heap.size, 0, none⟩ 1 1 [.int .i64 3] rfl rfl (World.news_of_block (heap_alloc_new w1 _)) (by simp [Value.oneCell']) (by omega) (by simp only [maxLen]; omega) (by omega) (by simp; omega) (w1.heap.size + 1) (by simp) ?_; intro g2 cap2 w2 hown2 hgrow hat hg2; have HO2 := Lib.hid (show w2.ownsRow W0.heap.size 3 1 (.slice (some ⟨g2, 0, none⟩) 2 cap2) 2 (ncells [2, 3]) from by simpa [ncells] using hown2); have HB2 := Lib.hid (show Below W0.heap.size W0 w2 from (HB1.out.alloc hbs _).grown hgrow (by first | omega | (simp; omega)) (fun j hj => (hown.lt j hj).1)); clear hown2 hgrow hat hg2 hown hbs v0 v1 v2 HO1 HB1; have v0 := (Var.below t0 HB2.out hz).cell 0 (v := .int .i64 2) rfl; have v1 := (Var.below t0 HB2.out hz).cell 1 (v := .int .i64 b) rfl; have v2 := (Var.below t0 HB2.out hz).cell 2 (v := .bool false) rfl) | (at_builtin; have hbs := HB2.out.size; have hown := HO2.out; refine wpList_append_lies _ rfl _ _ 28 rfl W0.heap.size 3 i0 _ 1 8 Tryz.underlying28 hi0 hz0 hz1 hz2 rfl (by omega) (.slice (some ⟨g2, 0, none⟩) 2 cap2) 2 _ rfl (hown.alloc _) ⟨w2.heap.size, 0, none⟩ 1 1 [.int .i64 4] rfl rfl (World.news_of_block (heap_alloc_new w2 _)) (by simp [Value.oneCell']) (by omega) (by simp only [maxLen]; omega) (by omega) (by simp; omega) (w2.heap.size + 1) (by simp) ?_; intro g3 cap3 w3 hown2 hgrow hat hg2; have HO3 := Lib.hid (show w3.ownsRow W0.heap.size 3 1 (.slice (some ⟨g3, 0, none⟩) 3 cap3) 3 (ncells [2, 3, 4]) from by simpa [ncells] using hown2); have HB3 := Lib.hid (show Below W0.heap.size W0 w3 from (HB2.out.alloc hbs _).grown hgrow (by first | omega | (simp; omega)) (fun j hj => (hown.lt j hj).1)); clear hown2 hgrow hat hg2 hown hbs v0 v1 v2 HO2 HB2; have v0 := (Var.below t0 HB3.out hz).cell 0 (v := .int .i64 2) rfl; have v1 := (Var.below t0 HB3.out hz).cell 1 (v := .int .i64 b) rfl; have v2 := (Var.below t0 HB3.out hz).cell 2 (v := .bool false) rfl))
    go_ret
    rw [HL.out]
    exact ⟨_, 3, _, rfl, rfl, ⟨(Owned.of_row HO3.out).1.wide (by omega) (Nat.le_refl _), (Owned.of_row HO3.out).2⟩, btr hb0 HB3.out⟩
   ·
    have HL := Lib.hid (show ctlF (2, b, true) = [2, 4] from by unfold ctlF; dsimp only; rw [h0, h1]; simp [hb, ha])
    rw [h0] at K0
    rw [h1] at K1
    have HK0 := Lib.hid K0
    have HK1 := Lib.hid K1
    clear K0 K1 h0 h1
    go_enter Tryz.func114, Tryz.ntmps114
    go_wp2_with fail
    rw [HQ.out]
    clear HQ
    generalize w.alloc (.cells #[.int .i64 2, .int .i64 b, .bool true] 35) = W0 at t0 hb0 hz ⊢
    have HO0 := Lib.hid (World.ownsRow_made (e := 3) (size := 1) W0 #[] 0 (Nat.le_refl _) (Nat.zero_le _) rfl : (W0.alloc (.cells #[] 3)).ownsRow W0.heap.size 3 1 (.slice (some ⟨W0.heap.size, 0, none⟩) 0 0) 0 (ncells []))
    have HB0 := Lib.hid (show Below W0.heap.size W0 (W0.alloc (.cells #[] 3)) from (Below.refl _ _).alloc (Nat.le_refl _) _)
    generalize W0.alloc (.cells #[] 3) = w0 at HO0 HB0 ⊢
    have v0 := (Var.below t0 HB0.out hz).cell 0 (v := .int .i64 2) rfl
    have v1 := (Var.below t0 HB0.out hz).cell 1 (v := .int .i64 b) rfl
    have v2 := (Var.below t0 HB0.out hz).cell 2 (v := .bool true) rfl
    refine (HK0.out _).mono ?_
    rintro e w' ⟨rfl, rfl⟩
    go_wp2_with fail
    refine (HK1.out _).mono ?_
    rintro e w' ⟨rfl, rfl⟩
    go_wp2_with (first | (at_builtin; have hbs := HB0.out.size; have hown := HO0.out; refine wpList_append_lies _ rfl _ _ 28 rfl W0.heap.size 3 i0 _ 1 8 Tryz.underlying28 hi0 hz0 hz1 hz2 rfl (by omega) (.slice (some ⟨W0.heap.size, 0, none⟩) 0 0) 0 _ rfl (hown.alloc _) ⟨w0.heap.size, 0, none⟩ 1 1 [.int .i64 2] rfl rfl (World.news_of_block (heap_alloc_new w0 _)) (by simp [Value.oneCell']) (by omega) (by simp only [maxLen]; omega) (by omega) (by simp; omega) (w0.heap.size + 1) (by simp) ?_; intro g1 cap1 w1 hown2 hgrow hat hg2; have HO1 := Lib.hid (show w1.ownsRow W0.heap.size 3 1 (.slice (some ⟨g1, 0, none⟩) 1 cap1) 1 (ncells [2]) from by simpa [ncells] using hown2); have HB1 := Lib.hid (show Below W0.heap.size W0 w1 from (HB0.out.alloc hbs _).grown hgrow (by first | omega | (simp; omega)) (fun j hj => (hown.lt j hj).1)); clear hown2 hgrow hat hg2 hown hbs v0 v1 v2 HO0 HB0; have v0 := (Var.below t0 HB1.out hz).cell 0 (v := .int .i64 2) rfl; have v1 := (Var.below t0 HB1.out hz).cell 1 (v := .int .i64 b) rfl; have v2 := (Var.below t0 HB1.out hz).cell 2 (v := .bool true) rfl) | (at_builtin; have hbs := HB1.out.size; have hown := HO1.out; refine wpList_append_lies _ rfl _ _ 28 rfl W0.heap.size 3 i0 _ 1 8 Tryz.underlying28 hi0 hz0 hz1 hz2 rfl (by omega) (.slice (some ⟨g1, 0, none⟩) 1 cap1) 1 _ rfl (hown.alloc _) ⟨w1.heap.size, 0, none⟩ 1 1 [.int .i64 4] rfl rfl (World.news_of_block (heap_alloc_new w1 _)) (by simp [Value.oneCell']) (by omega) (by simp only [maxLen]; omega) (by omega) (by simp; omega) (w1.heap.size + 1) (by simp) ?_; intro g2 cap2 w2 hown2 hgrow hat hg2; have HO2 := Lib.hid (show w2.ownsRow W0.heap.size 3 1 (.slice (some ⟨g2, 0, none⟩) 2 cap2) 2 (ncells [2, 4]) from by simpa [ncells] using hown2); have HB2 := Lib.hid (show Below W0.heap.size W0 w2 from (HB1.out.alloc hbs _).grown hgrow (by first | omega | (simp; omega)) (fun j hj => (hown.lt j hj).1)); clear hown2 hgrow hat hg2 hown hbs v0 v1 v2 HO1 HB1; have v0 := (Var.below t0 HB2.out hz).cell 0 (v := .int .i64 2) rfl; have v1 := (Var.below t0 HB2.out hz).cell 1 (v := .int .i64 b) rfl; have v2 := (Var.below t0 HB2.out hz).cell 2 (v := .bool true) rfl))
    go_ret
    rw [HL.out]
    exact ⟨_, 2, _, rfl, rfl, ⟨(Owned.of_row HO2.out).1.wide (by omega) (Nat.le_refl _), (Owned.of_row HO2.out).2⟩, btr hb0 HB2.out⟩
   ·
    have HL := Lib.hid (show ctlF (2, b, false) = [3, 4] from by unfold ctlF; dsimp only; rw [h0, h1]; simp [hb, ha])
    rw [h0] at K0
    rw [h1] at K1
    have HK0 := Lib.hid K0
    have HK1 := Lib.hid K1
    clear K0 K1 h0 h1
    go_enter Tryz.func114, Tryz.ntmps114
    go_wp2_with fail
    rw [HQ.out]
    clear HQ
    generalize w.alloc (.cells #[.int .i64 2, .int .i64 b, .bool false] 35) = W0 at t0 hb0 hz ⊢
    have HO0 := Lib.hid (World.ownsRow_made (e := 3) (size := 1) W0 #[] 0 (Nat.le_refl _) (Nat.zero_le _) rfl : (W0.alloc (.cells #[] 3)).ownsRow W0.heap.size 3 1 (.slice (some ⟨W0.heap.size, 0, none⟩) 0 0) 0 (ncells []))
    have HB0 := Lib.hid (show Below W0.heap.size W0 (W0.alloc (.cells #[] 3)) from (Below.refl _ _).alloc (Nat.le_refl _) _)
    generalize W0.alloc (.cells #[] 3) = w0 at HO0 HB0 ⊢
    have v0 := (Var.below t0 HB0.out hz).cell 0 (v := .int .i64 2) rfl
    have v1 := (Var.below t0 HB0.out hz).cell 1 (v := .int .i64 b) rfl
    have v2 := (Var.below t0 HB0.out hz).cell 2 (v := .bool false) rfl
    refine (HK0.out _).mono ?_
    rintro e w' ⟨rfl, rfl⟩
    go_wp2_with fail
    refine (HK1.out _).mono ?_
    rintro e w' ⟨rfl, rfl⟩
    go_wp2_with (first | (at_builtin; have hbs := HB0.out.size; have hown := HO0.out; refine wpList_append_lies _ rfl _ _ 28 rfl W0.heap.size 3 i0 _ 1 8 Tryz.underlying28 hi0 hz0 hz1 hz2 rfl (by omega) (.slice (some ⟨W0.heap.size, 0, none⟩) 0 0) 0 _ rfl (hown.alloc _) ⟨w0.heap.size, 0, none⟩ 1 1 [.int .i64 3] rfl rfl (World.news_of_block (heap_alloc_new w0 _)) (by simp [Value.oneCell']) (by omega) (by simp only [maxLen]; omega) (by omega) (by simp; omega) (w0.heap.size + 1) (by simp) ?_; intro g1 cap1 w1 hown2 hgrow hat hg2; have HO1 := Lib.hid (show w1.ownsRow W0.heap.size 3 1 (.slice (some ⟨g1, 0, none⟩) 1 cap1) 1 (ncells [3]) from by simpa [ncells] using hown2); have HB1 := Lib.hid (show Below W0.heap.size W0 w1 from (HB0.out.alloc hbs _).grown hgrow (by first | omega | (simp; omega)) (fun j hj => (hown.lt j hj).1)); clear hown2 hgrow hat hg2 hown hbs v0 v1 v2 HO0 HB0; have v0 := (Var.below t0 HB1.out hz).cell 0 (v := .int .i64 2) rfl; have v1 := (Var.below t0 HB1.out hz).cell 1 (v := .int .i64 b) rfl; have v2 := (Var.below t0 HB1.out hz).cell 2 (v := .bool false) rfl) | (at_builtin; have hbs := HB1.out.size; have hown := HO1.out; refine wpList_append_lies _ rfl _ _ 28 rfl W0.heap.size 3 i0 _ 1 8 Tryz.underlying28 hi0 hz0 hz1 hz2 rfl (by omega) (.slice (some ⟨g1, 0, none⟩) 1 cap1) 1 _ rfl (hown.alloc _) ⟨w1.heap.size, 0, none⟩ 1 1 [.int .i64 4] rfl rfl (World.news_of_block (heap_alloc_new w1 _)) (by simp [Value.oneCell']) (by omega) (by simp only [maxLen]; omega) (by omega) (by simp; omega) (w1.heap.size + 1) (by simp) ?_; intro g2 cap2 w2 hown2 hgrow hat hg2; have HO2 := Lib.hid (show w2.ownsRow W0.heap.size 3 1 (.slice (some ⟨g2, 0, none⟩) 2 cap2) 2 (ncells [3, 4]) from by simpa [ncells] using hown2); have HB2 := Lib.hid (show Below W0.heap.size W0 w2 from (HB1.out.alloc hbs _).grown hgrow (by first | omega | (simp; omega)) (fun j hj => (hown.lt j hj).1)); clear hown2 hgrow hat hg2 hown hbs v0 v1 v2 HO1 HB1; have v0 := (Var.below t0 HB2.out hz).cell 0 (v := .int .i64 2) rfl; have v1 := (Var.below t0 HB2.out hz).cell 1 (v := .int .i64 b) rfl; have v2 := (Var.below t0 HB2.out hz).cell 2 (v := .bool false) rfl))
    go_ret
    rw [HL.out]
    exact ⟨_, 2, _, rfl, rfl, ⟨(Owned.of_row HO2.out).1.wide (by omega) (Nat.le_refl _), (Owned.of_row HO2.out).2⟩, btr hb0 HB2.out⟩
   ·
    have HL := Lib.hid (show ctlF (2, b, true) = [4] from by unfold ctlF; dsimp only; rw [h0, h1]; simp [hb, ha])
    rw [h0] at K0
    rw [h1] at K1
    have HK0 := Lib.hid K0
    have HK1 := Lib.hid K1
    clear K0 K1 h0 h1
    go_enter Tryz.func114, Tryz.ntmps114
    go_wp2_with fail
    rw [HQ.out]
    clear HQ
    generalize w.alloc (.cells #[.int .i64 2, .int .i64 b, .bool true] 35) = W0 at t0 hb0 hz ⊢
    have HO0 := Lib.hid (World.ownsRow_made (e := 3) (size := 1) W0 #[] 0 (Nat.le_refl _) (Nat.zero_le _) rfl : (W0.alloc (.cells #[] 3)).ownsRow W0.heap.size 3 1 (.slice (some ⟨W0.heap.size, 0, none⟩) 0 0) 0 (ncells []))
    have HB0 := Lib.hid (show Below W0.heap.size W0 (W0.alloc (.cells #[] 3)) from (Below.refl _ _).alloc (Nat.le_refl _) _)
    generalize W0.alloc (.cells #[] 3) = w0 at HO0 HB0 ⊢
    have v0 := (Var.below t0 HB0.out hz).cell 0 (v := .int .i64 2) rfl
    have v1 := (Var.below t0 HB0.out hz).cell 1 (v := .int .i64 b) rfl
    have v2 := (Var.below t0 HB0.out hz).cell 2 (v := .bool true) rfl
    refine (HK0.out _).mono ?_
    rintro e w' ⟨rfl, rfl⟩
    go_wp2_with fail
    refine (HK1.out _).mono ?_
    rintro e w' ⟨rfl, rfl⟩
    go_wp2_with ((at_builtin; have hbs := HB0.out.size; have hown := HO0.out; refine wpList_append_lies _ rfl _ _ 28 rfl W0.heap.size 3 i0 _ 1 8 Tryz.underlying28 hi0 hz0 hz1 hz2 rfl (by omega) (.slice (some ⟨W0.heap.size, 0, none⟩) 0 0) 0 _ rfl (hown.alloc _) ⟨w0.heap.size, 0, none⟩ 1 1 [.int .i64 4] rfl rfl (World.news_of_block (heap_alloc_new w0 _)) (by simp [Value.oneCell']) (by omega) (by simp only [maxLen]; omega) (by omega) (by simp; omega) (w0.heap.size + 1) (by simp) ?_; intro g1 cap1 w1 hown2 hgrow hat hg2; have HO1 := Lib.hid (show w1.ownsRow W0.heap.size 3 1 (.slice (some ⟨g1, 0, none⟩) 1 cap1) 1 (ncells [4]) from by simpa [ncells] using hown2); have HB1 := Lib.hid (show Below W0.heap.size W0 w1 from (HB0.out.alloc hbs _).grown hgrow (by first | omega | (simp; omega)) (fun j hj => (hown.lt j hj).1)); clear hown2 hgrow hat hg2 hown hbs v0 v1 v2 HO0 HB0; have v0 := (Var.below t0 HB1.out hz).cell 0 (v := .int .i64 2) rfl; have v1 := (Var.below t0 HB1.out hz).cell 1 (v := .int .i64 b) rfl; have v2 := (Var.below t0 HB1.out hz).cell 2 (v := .bool true) rfl))
    go_ret
    rw [HL.out]
    exact ⟨_, 1, _, rfl, rfl, ⟨(Owned.of_row HO1.out).1.wide (by omega) (Nat.le_refl _), (Owned.of_row HO1.out).2⟩, btr hb0 HB1.out⟩
 ·
  have ha : ¬ a = 2 := ha2
  have ha' : (a == 2) = false := by simpa using ha2
  cases h0 : inB a 0 3
  ·
   by_cases hb2 : b = 0
   ·
    subst hb2
    have h1 : inB 0 0 255 = true := rfl
    have hb : (0 : Int) = 0 := rfl
    have HL := Lib.hid (show ctlF (a, 0, o) = [1] from by unfold ctlF; dsimp only; rw [h0, h1]; simp [hb, ha])
    rw [h0] at K0
    rw [h1] at K1
    have HK0 := Lib.hid K0
    have HK1 := Lib.hid K1
    clear K0 K1 h0 h1
    go_enter Tryz.func114, Tryz.ntmps114
    go_wp2_with fail
    rw [HQ.out]
    clear HQ
    generalize w.alloc (.cells #[.int .i64 a, .int .i64 0, .bool o] 35) = W0 at t0 hb0 hz ⊢
    have HO0 := Lib.hid (World.ownsRow_made (e := 3) (size := 1) W0 #[] 0 (Nat.le_refl _) (Nat.zero_le _) rfl : (W0.alloc (.cells #[] 3)).ownsRow W0.heap.size 3 1 (.slice (some ⟨W0.heap.size, 0, none⟩) 0 0) 0 (ncells []))
    have HB0 := Lib.hid (show Below W0.heap.size W0 (W0.alloc (.cells #[] 3)) from (Below.refl _ _).alloc (Nat.le_refl _) _)
    generalize W0.alloc (.cells #[] 3) = w0 at HO0 HB0 ⊢
    have v0 := (Var.below t0 HB0.out hz).cell 0 (v := .int .i64 a) rfl
    have v1 := (Var.below t0 HB0.out hz).cell 1 (v := .int .i64 0) rfl
    have v2 := (Var.below t0 HB0.out hz).cell 2 (v := .bool o) rfl
    refine (HK0.out _).mono ?_
    rintro e w' ⟨rfl, rfl⟩
    go_wp2_with ((at_builtin; have hbs := HB0.out.size; have hown := HO0.out; refine wpList_append_lies _ rfl _ _ 28 rfl W0.heap.size 3 i0 _ 1 8 Tryz.underlying28 hi0 hz0 hz1 hz2 rfl (by omega) (.slice (some ⟨W0.heap.size, 0, none⟩) 0 0) 0 _ rfl (hown.alloc _) ⟨w0.heap.size, 0, none⟩ 1 1 [.int .i64 1] rfl rfl (World.news_of_block (heap_alloc_new w0 _)) (by simp [Value.oneCell']) (by omega) (by simp only [maxLen]; omega) (by omega) (by simp; omega) (w0.heap.size + 1) (by simp) ?_; intro g1 cap1 w1 hown2 hgrow hat hg2; have HO1 := Lib.hid (show w1.ownsRow W0.heap.size 3 1 (.slice (some ⟨g1, 0, none⟩) 1 cap1) 1 (ncells [1]) from by simpa [ncells] using hown2); have HB1 := Lib.hid (show Below W0.heap.size W0 w1 from (HB0.out.alloc hbs _).grown hgrow (by first | omega | (simp; omega)) (fun j hj => (hown.lt j hj).1)); clear hown2 hgrow hat hg2 hown hbs v0 v1 v2 HO0 HB0; have v0 := (Var.below t0 HB1.out hz).cell 0 (v := .int .i64 a) rfl; have v1 := (Var.below t0 HB1.out hz).cell 1 (v := .int .i64 0) rfl; have v2 := (Var.below t0 HB1.out hz).cell 2 (v := .bool o) rfl))
    refine (HK1.out _).mono ?_
    rintro e w' ⟨rfl, rfl⟩
    go_wp2_with fail
    go_ret
    rw [HL.out]
    exact ⟨_, 1, _, rfl, rfl, ⟨(Owned.of_row HO1.out).1.wide (by omega) (Nat.le_refl _), (Owned.of_row HO1.out).2⟩, btr hb0 HB1.out⟩
   ·
    have hb : ¬ b = 0 := hb2
    have hb' : (b != 0) = true := by simpa using hb2
    cases h1 : inB b 0 255 <;> cases o
    ·
     have HL := Lib.hid (show ctlF (a, b, false) = [1, 2, 3] from by unfold ctlF; dsimp only; rw [h0, h1]; simp [hb, ha])
     rw [h0] at K0
     rw [h1] at K1
     have HK0 := Lib.hid K0
     have HK1 := Lib.hid K1
     clear K0 K1 h0 h1
     go_enter Tryz.func114, Tryz.ntmps114
     go_wp2_with fail
     rw [HQ.out]
     clear HQ
     generalize w.alloc (.cells #[.int .i64 a, .int .i64 b, .bool false] 35) = W0 at t0 hb0 hz ⊢
     have HO0 := Lib.hid (World.ownsRow_made (e := 3) (size := 1) W0 #[] 0 (Nat.le_refl _) (Nat.zero_le _) rfl : (W0.alloc (.cells #[] 3)).ownsRow W0.heap.size 3 1 (.slice (some ⟨W0.heap.size, 0, none⟩) 0 0) 0 (ncells []))
     have HB0 := Lib.hid (show Below W0.heap.size W0 (W0.alloc (.cells #[] 3)) from (Below.refl _ _).alloc (Nat.le_refl _) _)
     generalize W0.alloc (.cells #[] 3) = w0 at HO0 HB0 ⊢
     have v0 := (Var.below t0 HB0.out hz).cell 0 (v := .int .i64 a) rfl
     have v1 := (Var.below t0 HB0.out hz).cell 1 (v := .int .i64 b) rfl
     have v2 := (Var.below t0 HB0.out hz).cell 2 (v := .bool false) rfl
     refine (HK0.out _).mono ?_
     rintro e w' ⟨rfl, rfl⟩
     go_wp2_with ((at_builtin; have hbs := HB0.out.size; have hown := HO0.out; refine wpList_append_lies _ rfl _ _ 28 rfl W0.heap.size 3 i0 _ 1 8 Tryz.underlying28 hi0 hz0 hz1 hz2 rfl (by omega) (.slice (some ⟨W0.heap.size, 0, none⟩) 0 0) 0 _ rfl (hown.alloc _) ⟨w0.heap.size, 0, none⟩ 1 1 [.int .i64 1] rfl rfl (World.news_of_block (heap_alloc_new w0 _)) (by simp [Value.oneCell']) (by omega) (by simp only [maxLen]; omega) (by omega) (by simp; omega) (w0.heap.size + 1) (by simp) ?_; intro g1 cap1 w1 hown2 hgrow hat hg2; have HO1 := Lib.hid (show w1.ownsRow W0.heap.size 3 1 (.slice (some ⟨g1, 0, none⟩) 1 cap1) 1 (ncells [1]) from by simpa [ncells] using hown2); have HB1 := Lib.hid (show Below W0.heap.size W0 w1 from (HB0.out.alloc hbs _).grown hgrow (by first | omega | (simp; omega)) (fun j hj => (hown.lt j hj).1)); clear hown2 hgrow hat hg2 hown hbs v0 v1 v2 HO0 HB0; have v0 := (Var.below t0 HB1.out hz).cell 0 (v := .int .i64 a) rfl; have v1 := (Var.below t0 HB1.out hz).cell 1 (v := .int .i64 b) rfl; have v2 := (Var.below t0 HB1.out hz).cell 2 (v := .bool false) rfl))
     refine (HK1.out _).mono ?_
     rintro e w' ⟨rfl, rfl⟩
     go_wp2_with (first | (at_builtin; have hbs := HB1.out.size; have hown := HO1.out; refine wpList_append_lies _ rfl _ _ 28 rfl W0.heap.size 3 i0 _ 1 8 Tryz.underlying28 hi0 hz0 hz1 hz2 rfl (by omega) (.slice (some ⟨g1, 0, none⟩) 1 cap1) 1 _ rfl (hown.alloc _) ⟨w1.heap.size, 0, none⟩ 1 1 [.int .i64 2] rfl rfl (World.news_of_block (heap_alloc_new w1 _)) (by simp [Value.oneCell']) (by omega) (by simp only [maxLen]; omega) (by omega) (by simp; omega) (w1.heap.size + 1) (by simp) ?_; intro g2 cap2 w2 hown2 hgrow hat hg2; have HO2 := Lib.hid (show w2.ownsRow W0.heap.size 3 1 (.slice (some ⟨g2, 0, none⟩) 2 cap2) 2 (ncells [1, 2]) from by simpa [ncells] using hown2); have HB2 := Lib.hid (show Below W0.heap.size W0 w2 from (HB1.out.alloc hbs _).grown hgrow (by first | omega | (simp; omega)) (fun j hj => (hown.lt j hj).1)); clear hown2 hgrow hat hg2 hown hbs v0 v1 v2 HO1 HB1; have v0 := (Var.below t0 HB2.out hz).cell 0 (v := .int .i64 a) rfl; have v1 := (Var.below t0 HB2.out hz).cell 1 (v := .int .i64 b) rfl; have v2 := (Var.below t0 HB2.out hz).cell 2 (v := .bool false) rfl) | (at_builtin; have hbs := HB2.out.size; have hown := HO2.out; refine wpList_append_lies _ rfl _ _ 28 rfl W0.heap.size 3 i0 _ 1 8 Tryz.underlying28 hi0 hz0 hz1 hz2 rfl (by omega) (.slice (some ⟨g2, 0, none⟩) 2 cap2) 2 _ rfl (hown.alloc _) ⟨w2.heap.size, 0, none⟩ 1 1 [.int .i64 3] rfl rfl (World.news_of_block (heap_alloc_new w2 _)) (by simp [Value.oneCell']) (by omega) (by simp only [maxLen]; omega) (by omega) (by simp; omega) (w2.heap.size + 1) (by simp) ?_; intro g3 cap3 w3 hown2 hgrow hat hg2; have HO3 := Lib.hid (show w3.ownsRow W0.heap.size 3 1 (.slice (some ⟨g3, 0, none⟩) 3 cap3) 3 (ncells [1, 2, 3]) from by simpa [ncells] using hown2); have HB3 := Lib.hid (show Below W0.heap.size W0 w3 from (HB2.out.alloc hbs _).grown hgrow (by first | omega | (simp; omega)) (fun j hj => (hown.lt j hj).1)); clear hown2 hgrow hat hg2 hown hbs v0 v1 v2 HO2 HB2; have v0 := (Var.below t0 HB3.out hz).cell 0 (v := .int .i64 a) rfl; have v1 := (Var.below t0 HB3.out hz).cell 1 (v := .int .i64 b) rfl; have v2 := (Var.below t0 HB3.out hz).cell 2 (v := .bool false) rfl))
     go_ret
     rw [HL.out]
     exact ⟨_, 3, _, rfl, rfl, ⟨(Owned.of_row HO3.out).1.wide (by omega) (Nat.le_refl _), (Owned.of_row HO3.out).2⟩, btr hb0 HB3.out⟩
    ·
     have HL := Lib.hid (show ctlF (a, b, true) = [1, 2] from by unfold ctlF; dsimp only; rw [h0, h1]; simp [hb, ha])
     rw [h0] at K0
     rw [h1] at K1
     have HK0 := Lib.hid K0
     have HK1 := Lib.hid K1
     clear K0 K1 h0 h1
     go_enter Tryz.func114, Tryz.ntmps114
     go_wp2_with fail
     rw [HQ.out]
     clear HQ
     generalize w.alloc (.cells #[.int .i64 a, .int .i64 b, .bool true] 35) = W0 at t0 hb0 hz ⊢
     have HO0 := Lib.hid (World.ownsRow_made (e := 3) (size := 1) W0 #[] 0 (Nat.le_refl _) (Nat.zero_le _) rfl : (W0.alloc (.cells #[] 3)).ownsRow W0.heap.size 3 1 (.slice (some ⟨W0.heap.size, 0, none⟩) 0 0) 0 (ncells []))
     have HB0 := Lib.hid (show Below W0.heap.size W0 (W0.alloc (.cells #[] 3)) from (Below.refl _ _).alloc (Nat.le_refl _) _)
     generalize W0.alloc (.cells #[] 3) = w0 at HO0 HB0 ⊢
     have v0 := (Var.below t0 HB0.out hz).cell 0 (v := .int .i64 a) rfl
     have v1 := (Var.below t0 HB0.out hz).cell 1 (v := .int .i64 b) rfl
     have v2 := (Var.below t0 HB0.out hz).cell 2 (v := .bool true) rfl
     refine (HK0.out _).mono ?_
     rintro e w' ⟨rfl, rfl⟩
     go_wp2_with ((at_builtin; have hbs := HB0.out.size; have hown := HO0.out; refine wpList_append_lies _ rfl _ _ 28 rfl W0.heap.size 3 i0 _ 1 8 Tryz.underlying28 hi0 hz0 hz1 hz2 rfl (by omega) (.slice (some ⟨W0.heap.size, 0, none⟩) 0 0) 0 _ rfl (hown.alloc _) ⟨w0.heap.size, 0, none⟩ 1 1 [.int .i64 1] rfl rfl (World.news_of_block (heap_alloc_new w0 _)) (by simp [Value.oneCell']) (by omega) (by simp only [maxLen]; omega) (by omega) (by simp; omega) (w0.heap.size + 1) (by simp) ?_; intro g1 cap1 w1 hown2 hgrow hat hg2; have HO1 := Lib.hid (show w1.ownsRow W0.heap.size 3 1 (.slice (some ⟨g1, 0, none⟩) 1 cap1) 1 (ncells [1]) from by simpa [ncells] using hown2); have HB1 := Lib.hid (show Below W0.heap.size W0 w1 from (HB0.out.alloc hbs _).grown hgrow (by first | omega | (simp; omega)) (fun j hj => (hown.lt j hj).1)); clear hown2 hgrow hat hg2 hown hbs v0 v1 v2 HO0 HB0; have v0 := (Var.below t0 HB1.out hz).cell 0 (v := .int .i64 a) rfl; have v1 := (Var.below t0 HB1.out hz).cell 1 (v := .int .i64 b) rfl; have v2 := (Var.below t0 HB1.out hz).cell 2 (v := .bool true) rfl))
     refine (HK1.out _).mono ?_
     rintro e w' ⟨rfl, rfl⟩
     go_wp2_with ((at_builtin; have hbs := HB1.out.size; have hown := HO1.out; refine wpList_append_lies _ rfl _ _ 28 rfl W0.heap.size 3 i0 _ 1 8 Tryz.underlying28 hi0 hz0 hz1 hz2 rfl (by omega) (.slice (some ⟨g1, 0, none⟩) 1 cap1) 1 _ rfl (hown.alloc _) ⟨w1.heap.size, 0, none⟩ 1 1 [.int .i64 2] rfl rfl (World.news_of_block (heap_alloc_new w1 _)) (by simp [Value.oneCell']) (by omega) (by simp only [maxLen]; omega) (by omega) (by simp; omega) (w1.heap.size + 1) (by simp) ?_; intro g2 cap2 w2 hown2 hgrow hat hg2; have HO2 := Lib.hid (show w2.ownsRow W0.heap.size 3 1 (.slice (some ⟨g2, 0, none⟩) 2 cap2) 2 (ncells [1, 2]) from by simpa [ncells] using hown2); have HB2 := Lib.hid (show Below W0.heap.size W0 w2 from (HB1.out.alloc hbs _).grown hgrow (by first | omega | (simp; omega)) (fun j hj => (hown.lt j hj).1)); clear hown2 hgrow hat hg2 hown hbs v0 v1 v2 HO1 HB1; have v0 := (Var.below t0 HB2.out hz).cell 0 (v := .int .i64 a) rfl; have v1 := (Var.below t0 HB2.out hz).cell 1 (v := .int .i64 b) rfl; have v2 := (Var.below t0 HB2.out hz).cell 2 (v := .bool true) rfl))
     go_ret
     rw [HL.out]
     exact ⟨_, 2, _, rfl, rfl, ⟨(Owned.of_row HO2.out).1.wide (by omega) (Nat.le_refl _), (Owned.of_row HO2.out).2⟩, btr hb0 HB2.out⟩
    ·
     have HL := Lib.hid (show ctlF (a, b, false) = [1, 3] from by unfold ctlF; dsimp only; rw [h0, h1]; simp [hb, ha])
     rw [h0] at K0
     rw [h1] at K1
     have HK0 := Lib.hid K0
     have HK1 := Lib.hid K1
     clear K0 K1 h0 h1
     go_enter Tryz.func114, Tryz.ntmps114
     go_wp2_with fail
     rw [HQ.out]
     clear HQ
     generalize w.alloc (.cells #[.int .i64 a, .int .i64 b, .bool false] 35) = W0 at t0 hb0 hz ⊢
     have HO0 := Lib.hid (World.ownsRow_made (e := 3) (size := 1) W0 #[] 0 (Nat.le_refl _) (Nat.zero_le _) rfl : (W0.alloc (.cells #[] 3)).ownsRow W0.heap.size 3 1 (.slice (some ⟨W0.heap.size, 0, none⟩) 0 0) 0 (ncells []))
     have HB0 := Lib.hid (show Below W0.heap.size W0 (W0.alloc (.cells #[] 3)) from (Below.refl _ _).alloc (Nat.le_refl _) _)
     generalize W0.alloc (.cells #[] 3) = w0 at HO0 HB0 ⊢
     have v0 := (Var.below t0 HB0.out hz).cell 0 (v := .int .i64 a) rfl
     have v1 := (Var.below t0 HB0.out hz).cell 1 (v := .int .i64 b) rfl
     have v2 := (Var.below t0 HB0.out hz).cell 2 (v := .bool false) rfl
     refine (HK0.out _).mono ?_
     rintro e w' ⟨rfl, rfl⟩
     go_wp2_with ((at_builtin; have hbs := HB0.out.size; have hown := HO0.out; refine wpList_append_lies _ rfl _ _ 28 rfl W0.heap.size 3 i0 _ 1 8 Tryz.underlying28 hi0 hz0 hz1 hz2 rfl (by omega) (.slice (some ⟨W0.heap.size, 0, none⟩) 0 0) 0 _ rfl (hown.alloc _) ⟨w0.heap.size, 0, none⟩ 1 1 [.int .i64 1] rfl rfl (World.news_of_block (heap_alloc_new w0 _)) (by simp [Value.oneCell']) (by omega) (by simp only [maxLen]; omega) (by omega) (by simp; omega) (w0.heap.size + 1) (by simp) ?_; intro g1 cap1 w1 hown2 hgrow hat hg2; have HO1 := Lib.hid (show w1.ownsRow W0.heap.size 3 1 (.slice (some ⟨g1, 0, none⟩) 1 cap1) 1 (ncells [1]) from by simpa [ncells] using hown2); have HB1 := Lib.hid (show Below W0.heap.size W0 w1 from (HB0.out.alloc hbs _).grown hgrow (by first | omega | (simp; omega)) (fun j hj => (hown.lt j hj).1)); clear hown2 hgrow hat hg2 hown hbs v0 v1 v2 HO0 HB0; have v0 := (Var.below t0 HB1.out hz).cell 0 (v := .int .i64 a) rfl; have v1 := (Var.below t0 HB1.out hz).cell 1 (v := .int .i64 b) rfl; have v2 := (Var.below t0 HB1.out hz).cell 2 (v := .bool false) rfl))
     refine (HK1.out _).mono ?_
     rintro e w' ⟨rfl, rfl⟩
     go_wp2_with ((at_builtin; have hbs := HB1.out.size; have hown := HO1.out; refine wpList_append_lies _ rfl _ _ 28 rfl W0.heap.size 3 i0 _ 1 8 Tryz.underlying28 hi0 hz0 hz1 hz2 rfl (by omega) (.slice (some ⟨g1, 0, none⟩) 1 cap1) 1 _ rfl (hown.alloc _) ⟨w1.heap.size, 0, none⟩ 1 1 [.int .i64 3] rfl rfl (World.news_of_block (heap_alloc_new w1 _)) (by simp [Value.oneCell']) (by omega) (by simp only [maxLen]; omega) (by omega) (by simp; omega) (w1.heap.size + 1) (by simp) ?_; intro g2 cap2 w2 hown2 hgrow hat hg2; have HO2 := Lib.hid (show w2.ownsRow W0.heap.size 3 1 (.slice (some ⟨g2, 0, none⟩) 2 cap2) 2 (ncells [1, 3]) from by simpa [ncells] using hown2); have HB2 := Lib.hid (show Below W0.heap.size W0 w2 from (HB1.out.alloc hbs _).grown hgrow (by first | omega | (simp; omega)) (fun j hj => (hown.lt j hj).1)); clear hown2 hgrow hat hg2 hown hbs v0 v1 v2 HO1 HB1; have v0 := (Var.below t0 HB2.out hz).cell 0 (v := .int .i64 a) rfl; have v1 := (Var.below t0 HB2.out hz).cell 1 (v := .int .i64 b) rfl; have v2 := (Var.below t0 HB2.out hz).cell 2 (v := .bool false) rfl))
     go_ret
     rw [HL.out]
     exact ⟨_, 2, _, rfl, rfl, ⟨(Owned.of_row HO2.out).1.wide (by omega) (Nat.le_refl _), (Owned.of_row HO2.out).2⟩, btr hb0 HB2.out⟩
    ·
     have HL := Lib.hid (show ctlF (a, b, true) = [1] from by unfold ctlF; dsimp only; rw [h0, h1]; simp [hb, ha])
     rw [h0] at K0
     rw [h1] at K1
     have HK0 := Lib.hid K0
     have HK1 := Lib.hid K1
     clear K0 K1 h0 h1
     go_enter Tryz.func114, Tryz.ntmps114
     go_wp2_with fail
     rw [HQ.out]
     clear HQ
     generalize w.alloc (.cells #[.int .i64 a, .int .i64 b, .bool true] 35) = W0 at t0 hb0 hz ⊢
     have HO0 := Lib.hid (World.ownsRow_made (e := 3) (size := 1) W0 #[] 0 (Nat.le_refl _) (Nat.zero_le _) rfl : (W0.alloc (.cells #[] 3)).ownsRow W0.heap.size 3 1 (.slice (some ⟨W0.heap.size, 0, none⟩) 0 0) 0 (ncells []))
     have HB0 := Lib.hid (show Below W0.heap.size W0 (W0.alloc (.cells #[] 3)) from (Below.refl _ _).alloc (Nat.le_refl _) _)
     generalize W0.alloc (.cells #[] 3) = w0 at HO0 HB0 ⊢
     have v0 := (Var.below t0 HB0.out hz).cell 0 (v := .int .i64 a) rfl
     have v1 := (Var.below t0 HB0.out hz).cell 1 (v := .int .i64 b) rfl
     have v2 := (Var.below t0 HB0.out hz).cell 2 (v := .bool true) rfl
     refine (HK0.out _).mono ?_
     rintro e w' ⟨rfl, rfl⟩
     go_wp2_with ((at_builtin; have hbs := HB0.out.size; have hown := HO0.out; refine wpList_append_lies _ rfl _ _ 28 rfl W0.heap.size 3 i0 _ 1 8 Tryz.underlying28 hi0 hz0 hz1 hz2 rfl (by omega) (.slice (some ⟨W0.heap.size, 0, none⟩) 0 0) 0 _ rfl (hown.alloc _) ⟨w0.heap.size, 0, none⟩ 1 1 [.int .i64 1] rfl rfl (World.news_of_block (heap_alloc_new w0 _)) (by simp [Value.oneCell']) (by omega) (by simp only [maxLen]; omega) (by omega) (by simp; omega) (w0.heap.size + 1) (by simp) ?_; intro g1 cap1 w1 hown2 hgrow hat hg2; have HO1 := Lib.hid (show w1.ownsRow W0.heap.size 3 1 (.slice (some ⟨g1, 0, none⟩) 1 cap1) 1 (ncells [1]) from by simpa [ncells] using hown2); have HB1 := Lib.hid (show Below W0.heap.size W0 w1 from (HB0.out.alloc hbs _).grown hgrow (by first | omega | (simp; omega)) (fun j hj => (hown.lt j hj).1)); clear hown2 hgrow hat hg2 hown hbs v0 v1 v2 HO0 HB0; have v0 := (Var.below t0 HB1.out hz).cell 0 (v := .int .i64 a) rfl; have v1 := (Var.below t0 HB1.out hz).cell 1 (v := .int .i64 b) rfl; have v2 := (Var.below t0 HB1.out hz).cell 2 (v := .bool true) rfl))
     refine (HK1.out _).mono ?_
     rintro e w' ⟨rfl, rfl⟩
     go_wp2_with fail
     go_ret
     rw [HL.out]
     exact ⟨_, 1, _, rfl, rfl, ⟨(Owned.of_row HO1.out).1.wide (by omega) (Nat.le_refl _), (Owned.of_row HO1.out).2⟩, btr hb0 HB1.out⟩
  ·
   by_cases hb2 : b = 0
   ·
    subst hb2
    have h1 : inB 0 0 255 = true := rfl
    have hb : (0 : Int) = 0 := rfl
    have HL := Lib.hid (show ctlF (a, 0, o) = [] from by unfold ctlF; dsimp only; rw [h0, h1]; simp [hb, ha])
    rw [h0] at K0
    rw [h1] at K1
    have HK0 := Lib.hid K0
    have HK1 := Lib.hid K1
    clear K0 K1 h0 h1
    go_enter Tryz.func114, Tryz.ntmps114
    go_wp2_with fail
    rw [HQ.out]
    clear HQ
    generalize w.alloc (.cells #[.int .i64 a, .int .i64 0, .bool o] 35) = W0 at t0 hb0 hz ⊢
    have HO0 := Lib.hid (World.ownsRow_made (e := 3) (size := 1) W0 #[] 0 (Nat.le_refl _) (Nat.zero_le _) rfl : (W0.alloc (.cells #[] 3)).ownsRow W0.heap.size 3 1 (.slice (some ⟨W0.heap.size, 0, none⟩) 0 0) 0 (ncells []))
    have HB0 := Lib.hid (show Below W0.heap.size W0 (W0.alloc (.cells #[] 3)) from (Below.refl _ _).alloc (Nat.le_refl _) _)
    generalize W0.alloc (.cells #[] 3) = w0 at HO0 HB0 ⊢
    have v0 := (Var.below t0 HB0.out hz).cell 0 (v := .int .i64 a) rfl
    have v1 := (Var.below t0 HB0.out hz).cell 1 (v := .int .i64 0) rfl
    have v2 := (Var.below t0 HB0.out hz).cell 2 (v := .bool o) rfl
    refine (HK0.out _).mono ?_
    rintro e w' ⟨rfl, rfl⟩
    go_wp2_with fail
    refine (HK1.out _).mono ?_
    rintro e w' ⟨rfl, rfl⟩
    go_wp2_with fail
    go_ret
    rw [HL.out]
    exact ⟨_, 0, _, rfl, rfl, ⟨(Owned.of_row HO0.out).1.wide (by omega) (Nat.le_refl _), (Owned.of_row HO0.out).2⟩, btr hb0 HB0.out⟩
   ·
    have hb : ¬ b = 0 := hb2
    have hb' : (b != 0) = true := by simpa using hb2
    cases h1 : inB b 0 255 <;> cases o
    ·
     have HL := Lib.hid (show ctlF (a, b, false) = [2, 3] from by unfold ctlF; dsimp only; rw [h0, h1]; simp [hb, ha])
     rw [h0] at K0
     rw [h1] at K1
     have HK0 := Lib.hid K0
     have HK1 := Lib.hid K1
     clear K0 K1 h0 h1
     go_enter Tryz.func114, Tryz.ntmps114
     go_wp2_with fail
     rw [HQ.out]
     clear HQ
     generalize w.alloc (.cells #[.int .i64 a, .int .i64 b, .bool false] 35) = W0 at t0 hb0 hz ⊢
     have HO0 := Lib.hid (World.ownsRow_made (e := 3) (size := 1) W0 #[] 0 (Nat.le_refl _) (Nat.zero_le _) rfl : (W0.alloc (.cells #[] 3)).ownsRow W0.heap.size 3 1 (.slice (some ⟨W0.heap.size, 0, none⟩) 0 0) 0 (ncells []))
     have HB0 := Lib.hid (show Below W0.heap.size W0 (W0.alloc (.cells #[] 3)) from (Below.refl _ _).alloc (Nat.le_refl _) _)
     generalize W0.alloc (.cells #[] 3) = w0 at HO0 HB0 ⊢
     have v0 := (Var.below t0 HB0.out hz).cell 0 (v := .int .i64 a) rfl
     have v1 := (Var.below t0 HB0.out hz).cell 1 (v := .int .i64 b) rfl
     have v2 := (Var.below t0 HB0.out hz).cell 2 (v := .bool false) rfl
     refine (HK0.out _).mono ?_
     rintro e w' ⟨rfl, rfl⟩
     go_wp2_with fail
     refine (HK1.out _).mono ?_
     rintro e w' ⟨rfl, rfl⟩
     go_wp2_with (first | (at_builtin; have hbs := HB0.out.size; have hown := HO0.out; refine wpList_append_lies _ rfl _ _ 28 rfl W0.heap.size 3 i0 _ 1 8 Tryz.underlying28 hi0 hz0 hz1 hz2 rfl (by omega) (.slice (some ⟨W0.heap.size, 0, none⟩) 0 0) 0 _ rfl (hown.alloc _) ⟨w0.heap.size, 0, none⟩ 1 1 [.int .i64 2] rfl rfl (World.news_of_block (heap_alloc_new w0 _)) (by simp [Value.oneCell']) (by omega) (by simp only [maxLen]; omega) (by omega) (by simp; omega) (w0.heap.size + 1) (by simp) ?_; intro g1 cap1 w1 hown2 hgrow hat hg2; have HO1 := Lib.hid (show w1.ownsRow W0.heap.size 3 1 (.slice (some ⟨g1, 0, none⟩) 1 cap1) 1 (ncells [2]) from by simpa [ncells] using hown2); have HB1 := Lib.hid (show Below W0.heap.size W0 w1 from (HB0.out.alloc hbs _).grown hgrow (by first | omega | (simp; omega)) (fun j hj => (hown.lt j hj).1)); clear hown2 hgrow hat hg2 hown hbs v0 v1 v2 HO0 HB0; have v0 := (Var.below t0 HB1.out hz).cell 0 (v := .int .i64 a) rfl; have v1 := (Var.below t0 HB1.out hz).cell 1 (v := .int .i64 b) rfl; have v2 := (Var.below t0 HB1.out hz).cell 2 (v := .bool false) rfl) | (at_builtin; have hbs := HB1.out.size; have hown := HO1.out; refine wpList_append_lies _ rfl _ _ 28 rfl W0.heap.size 3 i0 _ 1 8 Tryz.underlying28 hi0 hz0 hz1 hz2 rfl (by omega) (.slice (some ⟨g1, 0, none⟩) 1 cap1) 1 _ rfl (hown.alloc _) ⟨w1.heap.size, 0, none⟩ 1 1 [.int .i64 3] rfl rfl (World.news_of_block (heap_alloc_new w1 _)) (by simp [Value.oneCell']) (by omega) (by simp only [maxLen]; omega) (by omega) (by simp; omega) (w1.heap.size + 1) (by simp) ?_; intro g2 cap2 w2 hown2 hgrow hat hg2; have HO2 := Lib.hid (show w2.ownsRow W0.heap.size 3 1 (.slice (some ⟨g2, 0, none⟩) 2 cap2) 2 (ncells [2, 3]) from by simpa [ncells] using hown2); have HB2 := Lib.hid (show Below W0.heap.size W0 w2 from (HB1.out.alloc hbs _).grown hgrow (by first | omega | (simp; omega)) (fun j hj => (hown.lt j hj).1)); clear hown2 hgrow hat hg2 hown hbs v0 v1 v2 HO1 HB1; have v0 := (Var.below t0 HB2.out hz).cell 0 (v := .int .i64 a) rfl; have v1 := (Var.below t0 HB2.out hz).cell 1 (v := .int .i64 b) rfl; have v2 := (Var.below t0 HB2.out hz).cell 2 (v := .bool false) rfl))
     go_ret
     rw [HL.out]
     exact ⟨_, 2, _, rfl, rfl, ⟨(Owned.of_row HO2.out).1.wide (by omega) (Nat.le_refl _), (Owned.of_row HO2.out).2⟩, btr hb0 HB2.out⟩
    ·
     have HL := Lib.hid (show ctlF (a, b, true) = [2] from by unfold ctlF; dsimp only; rw [h0, h1]; simp [hb, ha])
     rw [h0] at K0
     rw [h1] at K1
     have HK0 := Lib.hid K0
     have HK1 := Lib.hid K1
     clear K0 K1 h0 h1
     go_enter Tryz.func114, Tryz.ntmps114
     go_wp2_with fail
     rw [HQ.out]
     clear HQ
     generalize w.alloc (.cells #[.int .i64 a, .int .i64 b, .bool true] 35) = W0 at t0 hb0 hz ⊢
     have HO0 := Lib.hid (World.ownsRow_made (e := 3) (size := 1) W0 #[] 0 (Nat.le_refl _) (Nat.zero_le _) rfl : (W0.alloc (.cells #[] 3)).ownsRow W0.heap.size 3 1 (.slice (some ⟨W0.heap.size, 0, none⟩) 0 0) 0 (ncells []))
     have HB0 := Lib.hid (show Below W0.heap.size W0 (W0.alloc (.cells #[] 3)) from (Below.refl _ _).alloc (Nat.le_refl _) _)
     generalize W0.alloc (.cells #[] 3) = w0 at HO0 HB0 ⊢
     have v0 := (Var.below t0 HB0.out hz).cell 0 (v := .int .i64 a) rfl
     have v1 := (Var.below t0 HB0.out hz).cell 1 (v := .int .i64 b) rfl
     have v2 := (Var.below t0 HB0.out hz).cell 2 (v := .bool true) rfl
     refine (HK0.out _).mono ?_
     rintro e w' ⟨rfl, rfl⟩
     go_wp2_with fail
     refine (HK1.out _).mono ?_
     rintro e w' ⟨rfl, rfl⟩
     go_wp2_with ((at_builtin; have hbs := HB0.out.size; have hown := HO0.out; refine wpList_append_lies _ rfl _ _ 28 rfl W0.heap.size 3 i0 _ 1 8 Tryz.underlying28 hi0 hz0 hz1 hz2 rfl (by omega) (.slice (some ⟨W0.heap.size, 0, none⟩) 0 0) 0 _ rfl (hown.alloc _) ⟨w0.heap.size, 0, none⟩ 1 1 [.int .i64 2] rfl rfl (World.news_of_block (heap_alloc_new w0 _)) (by simp [Value.oneCell']) (by omega) (by simp only [maxLen]; omega) (by omega) (by simp; omega) (w0.heap.size + 1) (by simp) ?_; intro g1 cap1 w1 hown2 hgrow hat hg2; have HO1 := Lib.hid (show w1.ownsRow W0.heap.size 3 1 (.slice (some ⟨g1, 0, none⟩) 1 cap1) 1 (ncells [2]) from by simpa [ncells] using hown2); have HB1 := Lib.hid (show Below W0.heap.size W0 w1 from (HB0.out.alloc hbs _).grown hgrow (by first | omega | (simp; omega)) (fun j hj => (hown.lt j hj).1)); clear hown2 hgrow hat hg2 hown hbs v0 v1 v2 HO0 HB0; have v0 := (Var.below t0 HB1.out hz).cell 0 (v := .int .i64 a) rfl; have v1 := (Var.below t0 HB1.out hz).cell 1 (v := .int .i64 b) rfl; have v2 := (Var.below t0 HB1.out hz).cell 2 (v := .bool true) rfl))
     go_ret
     rw [HL.out]
     exact ⟨_, 1, _, rfl, rfl, ⟨(Owned.of_row HO1.out).1.wide (by omega) (Nat.le_refl _), (Owned.of_row HO1.out).2⟩, btr hb0 HB1.out⟩
    ·
     have HL := Lib.hid (show ctlF (a, b, false) = [3] from by unfold ctlF; dsimp only; rw [h0, h1]; simp [hb, ha])
     rw [h0] at K0
     rw [h1] at K1
     have HK0 := Lib.hid K0
     have HK1 := Lib.hid K1
     clear K0 K1 h0 h1
     go_enter Tryz.func114, Tryz.ntmps114
     go_wp2_with fail
     rw [HQ.out]
     clear HQ
     generalize w.alloc (.cells #[.int .i64 a, .int .i64 b, .bool false] 35) = W0 at t0 hb0 hz ⊢
     have HO0 := Lib.hid (World.ownsRow_made (e := 3) (size := 1) W0 #[] 0 (Nat.le_refl _) (Nat.zero_le _) rfl : (W0.alloc (.cells #[] 3)).ownsRow W0.heap.size 3 1 (.slice (some ⟨W0.heap.size, 0, none⟩) 0 0) 0 (ncells []))
     have HB0 := Lib.hid (show Below W0.heap.size W0 (W0.alloc (.cells #[] 3)) from (Below.refl _ _).alloc (Nat.le_refl _) _)
     generalize W0.alloc (.cells #[] 3) = w0 at HO0 HB0 ⊢
     have v0 := (Var.below t0 HB0.out hz).cell 0 (v := .int .i64 a) rfl
     have v1 := (Var.below t0 HB0.out hz).cell 1 (v := .int .i64 b) rfl
     have v2 := (Var.below t0 HB0.out hz).cell 2 (v := .bool false) rfl
     refine (HK0.out _).mono ?_
     rintro e w' ⟨rfl, rfl⟩
     go_wp2_with fail
     refine (HK1.out _).mono ?_
     rintro e w' ⟨rfl, rfl⟩
     go_wp2_with ((at_builtin; have hbs := HB0.out.size; have hown := HO0.out; refine wpList_append_lies _ rfl _ _ 28 rfl W0.heap.size 3 i0 _ 1 8 Tryz.underlying28 hi0 hz0 hz1 hz2 rfl (by omega) (.slice (some ⟨W0.heap.size, 0, none⟩) 0 0) 0 _ rfl (hown.alloc _) ⟨w0.heap.size, 0, none⟩ 1 1 [.int .i64 3] rfl rfl (World.news_of_block (heap_alloc_new w0 _)) (by simp [Value.oneCell']) (by omega) (by simp only [maxLen]; omega) (by omega) (by simp; omega) (w0.heap.size + 1) (by simp) ?_; intro g1 cap1 w1 hown2 hgrow hat hg2; have HO1 := Lib.hid (show w1.ownsRow W0.heap.size 3 1 (.slice (some ⟨g1, 0, none⟩) 1 cap1) 1 (ncells [3]) from by simpa [ncells] using hown2); have HB1 := Lib.hid (show Below W0.heap.size W0 w1 from (HB0.out.alloc hbs _).grown hgrow (by first | omega | (simp; omega)) (fun j hj => (hown.lt j hj).1)); clear hown2 hgrow hat hg2 hown hbs v0 v1 v2 HO0 HB0; have v0 := (Var.below t0 HB1.out hz).cell 0 (v := .int .i64 a) rfl; have v1 := (Var.below t0 HB1.out hz).cell 1 (v := .int .i64 b) rfl; have v2 := (Var.below t0 HB1.out hz).cell 2 (v := .bool false) rfl))
     go_ret
     rw [HL.out]
     exact ⟨_, 1, _, rfl, rfl, ⟨(Owned.of_row HO1.out).1.wide (by omega) (Nat.le_refl _), (Owned.of_row HO1.out).2⟩, btr hb0 HB1.out⟩
    ·
     have HL := Lib.hid (show ctlF (a, b, true) = [] from by unfold ctlF; dsimp only; rw [h0, h1]; simp [hb, ha])
     rw [h0] at K0
     rw [h1] at K1
     have HK0 := Lib.hid K0
     have HK1 := Lib.hid K1
     clear K0 K1 h0 h1
     go_enter Tryz.func114, Tryz.ntmps114
     go_wp2_with fail
     rw [HQ.out]
     clear HQ
     generalize w.alloc (.cells #[.int .i64 a, .int .i64 b, .bool true] 35) = W0 at t0 hb0 hz ⊢
     have HO0 := Lib.hid (World.ownsRow_made (e := 3) (size := 1) W0 #[] 0 (Nat.le_refl _) (Nat.zero_le _) rfl : (W0.alloc (.cells #[] 3)).ownsRow W0.heap.size 3 1 (.slice (some ⟨W0.heap.size, 0, none⟩) 0 0) 0 (ncells []))
     have HB0 := Lib.hid (show Below W0.heap.size W0 (W0.alloc (.cells #[] 3)) from (Below.refl _ _).alloc (Nat.le_refl _) _)
     generalize W0.alloc (.cells #[] 3) = w0 at HO0 HB0 ⊢
     have v0 := (Var.below t0 HB0.out hz).cell 0 (v := .int .i64 a) rfl
     have v1 := (Var.below t0 HB0.out hz).cell 1 (v := .int .i64 b) rfl
     have v2 := (Var.below t0 HB0.out hz).cell 2 (v := .bool true) rfl
     refine (HK0.out _).mono ?_
     rintro e w' ⟨rfl, rfl⟩
     go_wp2_with fail
     refine (HK1.out _).mono ?_
     rintro e w' ⟨rfl, rfl⟩
     go_wp2_with fail
     go_ret
     rw [HL.out]
     exact ⟨_, 0, _, rfl, rfl, ⟨(Owned.of_row HO0.out).1.wide (by omega) (Nat.le_refl _), (Owned.of_row HO0.out).2⟩, btr hb0 HB0.out⟩
end Go.Proofs.YtldgadmpclgfhaaGreat.Ctls
namespace Go.Proofs.YtldgadmpclgfhaaGreat.Ctls
set_option maxHeartbeats 8000000
set_option maxRecDepth 100000
set_option maxRecDepth 100000
open Go.ChangeShapes Go.WideShapes Go.ChangeAt Go.RowKit
open Go.Proofs.YtldgadmpclgfhaaGreat.Base Go.Proofs.YtldgadmpclgfhaaGreat.Mem Go.Proofs.YtldgadmpclgfhaaGreat.Data Go.Proofs.YtldgadmpclgfhaaGreat.Ints Go.Proofs.YtldgadmpclgfhaaGreat.Slots
set_option linter.unusedVariables false
set_option linter.unusedSimpArgs false
theorem spec_ctlOk (a b : Int) (o : Bool) (w : World) :
  Calls Tryz.prog 94 #[.agg #[.int .i64 a, .int .i64 b, .bool o]] w fun e w' => e = .returned (.bool (ctlOk (a, b, o))) ∧ Below w.heap.size w w' := by
 have hb0 : Below w.heap.size w (w.alloc (.cells #[.int .i64 a, .int .i64 b, .bool o] 35)) := (Below.refl _ _).alloc (Nat.le_refl _) _
 have HK := Lib.hid (fun V : World => spec_ctlF a b o V)
 have HB := Lib.hid hb0
 clear hb0
 go_enter Tryz.func94, Tryz.ntmps94
 go_wp2_with fail
 refine (HK.out _).mono ?_
 rintro e w1 ⟨A, n, c, rfl, hl, _, hb1⟩
 have HB1 := Lib.hid (btr HB.out hb1)
 have HV := Lib.hid (show ctlOk (a, b, o) = (n == 0) from by unfold ctlOk; rw [hl])
 clear hb1 hl
 by_cases h0 : n = 0
 ·
  subst h0
  go_wp2_with fail
  go_ret
  exact ⟨by rw [HV.out]; rfl, HB1.out⟩
 ·
  have h0' : ((n : Int) == 0) = false := by simpa using h0
  have h0'' : (n == 0) = false := by simpa using h0
  go_wp2_with fail
  go_ret
  exact ⟨by rw [HV.out, h0'']; rfl, HB1.out⟩
end Go.Proofs.YtldgadmpclgfhaaGreat.Ctls
namespace Go.Proofs.YtldgadmpclgfhaaGreat.Exits
set_option maxHeartbeats 8000000
set_option maxRecDepth 100000
set_option maxRecDepth 100000
open Go.ChangeShapes Go.WideShapes Go.ChangeAt Go.RowKit
open Go.Proofs.YtldgadmpclgfhaaGreat.Base Go.Proofs.YtldgadmpclgfhaaGreat.Mem Go.Proofs.YtldgadmpclgfhaaGreat.Data
set_option linter.unusedVariables false
set_option linter.unusedSimpArgs false
def exitOk (s : QT) : Bool :=
 if s.1 = 0 ∨ s.1 = 4 then (s.2.1 == 0) && (!s.2.2.1) && (s.2.2.2 == 0)
 else if s.1 = 1 then inB s.2.1 0 3 && (s.2.2.2 == 0)
 else if s.1 = 2 ∨ s.1 = 3 then inB s.2.2.2 0 99 && (s.2.1 == 0) && (!s.2.2.1)
 else false
def ExitP (w : World) (s : QT) (e : Ending) (w' : World) : Prop := e = .returned (.agg #[.int .i64 s.1, .int .i64 s.2.1, .bool s.2.2.1, .int .i64 s.2.2.2]) ∧ Below w.heap.size w w'
theorem kind_cases (k : Int) : k = 0 ∨ k = 4 ∨ k = 1 ∨ k = 2 ∨ k = 3 ∨ ((k == 0) = false ∧ (k == 1) = false ∧ (k == 2) = false ∧ (k == 3) = false ∧ (k == 4) = false) := by
 simp only [beq_eq_false_iff_ne, ne_eq]
 omega
theorem exitOk_else {k p n : Int} {w : Bool} (h : (k == 0) = false ∧ (k == 1) = false ∧ (k == 2) = false ∧ (k == 3) = false ∧ (k == 4) = false) : exitOk (k, p, w, n) = false := by
 simp only [beq_eq_false_iff_ne, ne_eq] at h
 simp [exitOk, h]
theorem spec_exitOk (k p : Int) (q : Bool) (n : Int) (w : World) :
  Calls Tryz.prog 95 #[.agg #[.int .i64 k, .int .i64 p, .bool q, .int .i64 n]] w fun e w' => e = .returned (.bool (exitOk (k, p, q, n))) ∧ Below w.heap.size w w' := by
 have K1 := Lib.hid (fun V : World => spec_in p 0 3 V)
 have K2 := Lib.hid (fun V : World => spec_in n 0 99 V)
 have HB := Lib.hid ((Below.refl w.heap.size w).alloc (Nat.le_refl _) (.cells #[.int .i64 k, .int .i64 p, .bool q, .int .i64 n] 37))
 rcases kind_cases k with rfl | rfl | rfl | rfl | rfl | h
 ·
  by_cases hp : p = 0 <;> by_cases hn : n = 0 <;> cases q
  ·
   subst hp
   subst hn
   have HV := Lib.hid (show exitOk (0, 0, false, 0) = true from by simp [exitOk])
   go_enter Tryz.func95, Tryz.ntmps95
   go_wp2_with fail
   go_ret
   exact ⟨by rw [HV.out]; rfl, HB.out⟩
  ·
   subst hp
   subst hn
   have HV := Lib.hid (show exitOk (0, 0, true, 0) = false from by simp [exitOk])
   go_enter Tryz.func95, Tryz.ntmps95
   go_wp2_with fail
   go_ret
   exact ⟨by rw [HV.out]; rfl, HB.out⟩
  ·
   subst hp
   have hn' : (n == 0) = false := by simpa using hn
   have HV := Lib.hid (show exitOk (0, 0, false, n) = false from by simp [exitOk, hn])
   go_enter Tryz.func95, Tryz.ntmps95
   go_wp2_with fail
   go_ret
   exact ⟨by rw [HV.out]; rfl, HB.out⟩
  ·
   subst hp
   have hn' : (n == 0) = false := by simpa using hn
   have HV := Lib.hid (show exitOk (0, 0, true, n) = false from by simp [exitOk, hn])
   go_enter Tryz.func95, Tryz.ntmps95
   go_wp2_with fail
   go_ret
   exact ⟨by rw [HV.out]; rfl, HB.out⟩
  ·
   have hp' : (p == 0) = false := by simpa using hp
   subst hn
   have HV := Lib.hid (show exitOk (0, p, false, 0) = false from by simp [exitOk, hp])
   go_enter Tryz.func95, Tryz.ntmps95
   go_wp2_with fail
   go_ret
   exact ⟨by rw [HV.out]; rfl, HB.out⟩
  ·
   have hp' : (p == 0) = false := by simpa using hp
   subst hn
   have HV := Lib.hid (show exitOk (0, p, true, 0) = false from by simp [exitOk, hp])
   go_enter Tryz.func95, Tryz.ntmps95
   go_wp2_with fail
   go_ret
   exact ⟨by rw [HV.out]; rfl, HB.out⟩
  ·
   have hp' : (p == 0) = false := by simpa using hp
   have hn' : (n == 0) = false := by simpa using hn
   have HV := Lib.hid (show exitOk (0, p, false, n) = false from by simp [exitOk, hp, hn])
   go_enter Tryz.func95, Tryz.ntmps95
   go_wp2_with fail
   go_ret
   exact ⟨by rw [HV.out]; rfl, HB.out⟩
  ·
   have hp' : (p == 0) = false := by simpa using hp
   have hn' : (n == 0) = false := by simpa using hn
   have HV := Lib.hid (show exitOk (0, p, true, n) = false from by simp [exitOk, hp, hn])
   go_enter Tryz.func95, Tryz.ntmps95
   go_wp2_with fail
   go_ret
   exact ⟨by rw [HV.out]; rfl, HB.out⟩
 ·
  by_cases hp : p = 0 <;> by_cases hn : n = 0 <;> cases q
  ·
   subst hp
   subst hn
   have HV := Lib.hid (show exitOk (4, 0, false, 0) = true from by simp [exitOk])
   go_enter Tryz.func95, Tryz.ntmps95
   go_wp2_with fail
   go_ret
   exact ⟨by rw [HV.out]; rfl, HB.out⟩
  ·
   subst hp
   subst hn
   have HV := Lib.hid (show exitOk (4, 0, true, 0) = false from by simp [exitOk])
   go_enter Tryz.func95, Tryz.ntmps95
   go_wp2_with fail
   go_ret
   exact ⟨by rw [HV.out]; rfl, HB.out⟩
  ·
   subst hp
   have hn' : (n == 0) = false := by simpa using hn
   have HV := Lib.hid (show exitOk (4, 0, false, n) = false from by simp [exitOk, hn])
   go_enter Tryz.func95, Tryz.ntmps95
   go_wp2_with fail
   go_ret
   exact ⟨by rw [HV.out]; rfl, HB.out⟩
  ·
   subst hp
   have hn' : (n == 0) = false := by simpa using hn
   have HV := Lib.hid (show exitOk (4, 0, true, n) = false from by simp [exitOk, hn])
   go_enter Tryz.func95, Tryz.ntmps95
   go_wp2_with fail
   go_ret
   exact ⟨by rw [HV.out]; rfl, HB.out⟩
  ·
   have hp' : (p == 0) = false := by simpa using hp
   subst hn
   have HV := Lib.hid (show exitOk (4, p, false, 0) = false from by simp [exitOk, hp])
   go_enter Tryz.func95, Tryz.ntmps95
   go_wp2_with fail
   go_ret
   exact ⟨by rw [HV.out]; rfl, HB.out⟩
  ·
   have hp' : (p == 0) = false := by simpa using hp
   subst hn
   have HV := Lib.hid (show exitOk (4, p, true, 0) = false from by simp [exitOk, hp])
   go_enter Tryz.func95, Tryz.ntmps95
   go_wp2_with fail
   go_ret
   exact ⟨by rw [HV.out]; rfl, HB.out⟩
  ·
   have hp' : (p == 0) = false := by simpa using hp
   have hn' : (n == 0) = false := by simpa using hn
   have HV := Lib.hid (show exitOk (4, p, false, n) = false from by simp [exitOk, hp, hn])
   go_enter Tryz.func95, Tryz.ntmps95
   go_wp2_with fail
   go_ret
   exact ⟨by rw [HV.out]; rfl, HB.out⟩
  ·
   have hp' : (p == 0) = false := by simpa using hp
   have hn' : (n == 0) = false := by simpa using hn
   have HV := Lib.hid (show exitOk (4, p, true, n) = false from by simp [exitOk, hp, hn])
   go_enter Tryz.func95, Tryz.ntmps95
   go_wp2_with fail
   go_ret
   exact ⟨by rw [HV.out]; rfl, HB.out⟩
 ·
  have hv : exitOk (1, p, q, n) = (inB p 0 3 && (n == 0)) := rfl
  generalize inB p 0 3 = x at K1 hv
  by_cases hn : n = 0 <;> cases x
  ·
   subst hn
   have HV := Lib.hid hv
   clear hv
   go_enter Tryz.func95, Tryz.ntmps95
   go_wp2_with fail
   refine (K1.out _).mono ?_
   rintro e w' ⟨rfl, rfl⟩
   go_wp2_with fail
   go_ret
   exact ⟨by rw [HV.out]; rfl, HB.out⟩
  ·
   subst hn
   have HV := Lib.hid hv
   clear hv
   go_enter Tryz.func95, Tryz.ntmps95
   go_wp2_with fail
   refine (K1.out _).mono ?_
   rintro e w' ⟨rfl, rfl⟩
   go_wp2_with fail
   go_ret
   exact ⟨by rw [HV.out]; rfl, HB.out⟩
  ·
   have hn' : (n == 0) = false := by simpa using hn
   rw [hn'] at hv
   have HV := Lib.hid hv
   clear hv
   go_enter Tryz.func95, Tryz.ntmps95
   go_wp2_with fail
   refine (K1.out _).mono ?_
   rintro e w' ⟨rfl, rfl⟩
   go_wp2_with fail
   go_ret
   exact ⟨by rw [HV.out]; rfl, HB.out⟩
  ·
   have hn' : (n == 0) = false := by simpa using hn
   rw [hn'] at hv
   have HV := Lib.hid hv
   clear hv
   go_enter Tryz.func95, Tryz.ntmps95
   go_wp2_with fail
   refine (K1.out _).mono ?_
   rintro e w' ⟨rfl, rfl⟩
   go_wp2_with fail
   go_ret
   exact ⟨by rw [HV.out]; rfl, HB.out⟩
 ·
  have hv : exitOk (2, p, q, n) = (inB n 0 99 && (p == 0) && (!q)) := rfl
  generalize inB n 0 99 = x at K2 hv
  by_cases hp : p = 0 <;> cases x <;> cases q
  ·
   subst hp
   have HV := Lib.hid hv
   clear hv
   go_enter Tryz.func95, Tryz.ntmps95
   go_wp2_with fail
   refine (K2.out _).mono ?_
   rintro e w' ⟨rfl, rfl⟩
   go_wp2_with fail
   go_ret
   exact ⟨by rw [HV.out]; rfl, HB.out⟩
  ·
   subst hp
   have HV := Lib.hid hv
   clear hv
   go_enter Tryz.func95, Tryz.ntmps95
   go_wp2_with fail
   refine (K2.out _).mono ?_
   rintro e w' ⟨rfl, rfl⟩
   go_wp2_with fail
   go_ret
   exact ⟨by rw [HV.out]; rfl, HB.out⟩
  ·
   subst hp
   have HV := Lib.hid hv
   clear hv
   go_enter Tryz.func95, Tryz.ntmps95
   go_wp2_with fail
   refine (K2.out _).mono ?_
   rintro e w' ⟨rfl, rfl⟩
   go_wp2_with fail
   go_ret
   exact ⟨by rw [HV.out]; rfl, HB.out⟩
  ·
   subst hp
   have HV := Lib.hid hv
   clear hv
   go_enter Tryz.func95, Tryz.ntmps95
   go_wp2_with fail
   refine (K2.out _).mono ?_
   rintro e w' ⟨rfl, rfl⟩
   go_wp2_with fail
   go_ret
   exact ⟨by rw [HV.out]; rfl, HB.out⟩
  ·
   have hp' : (p == 0) = false := by simpa using hp
   rw [hp'] at hv
   have HV := Lib.hid hv
   clear hv
   go_enter Tryz.func95, Tryz.ntmps95
   go_wp2_with fail
   refine (K2.out _).mono ?_
   rintro e w' ⟨rfl, rfl⟩
   go_wp2_with fail
   go_ret
   exact ⟨by rw [HV.out]; rfl, HB.out⟩
  ·
   have hp' : (p == 0) = false := by simpa using hp
   rw [hp'] at hv
   have HV := Lib.hid hv
   clear hv
   go_enter Tryz.func95, Tryz.ntmps95
   go_wp2_with fail
   refine (K2.out _).mono ?_
   rintro e w' ⟨rfl, rfl⟩
   go_wp2_with fail
   go_ret
   exact ⟨by rw [HV.out]; rfl, HB.out⟩
  ·
   have hp' : (p == 0) = false := by simpa using hp
   rw [hp'] at hv
   have HV := Lib.hid hv
   clear hv
   go_enter Tryz.func95, Tryz.ntmps95
   go_wp2_with fail
   refine (K2.out _).mono ?_
   rintro e w' ⟨rfl, rfl⟩
   go_wp2_with fail
   go_ret
   exact ⟨by rw [HV.out]; rfl, HB.out⟩
  ·
   have hp' : (p == 0) = false := by simpa using hp
   rw [hp'] at hv
   have HV := Lib.hid hv
   clear hv
   go_enter Tryz.func95, Tryz.ntmps95
   go_wp2_with fail
   refine (K2.out _).mono ?_
   rintro e w' ⟨rfl, rfl⟩
   go_wp2_with fail
   go_ret
   exact ⟨by rw [HV.out]; rfl, HB.out⟩
 ·
  have hv : exitOk (3, p, q, n) = (inB n 0 99 && (p == 0) && (!q)) := rfl
  generalize inB n 0 99 = x at K2 hv
  by_cases hp : p = 0 <;> cases x <;> cases q
  ·
   subst hp
   have HV := Lib.hid hv
   clear hv
   go_enter Tryz.func95, Tryz.ntmps95
   go_wp2_with fail
   refine (K2.out _).mono ?_
   rintro e w' ⟨rfl, rfl⟩
   go_wp2_with fail
   go_ret
   exact ⟨by rw [HV.out]; rfl, HB.out⟩
  ·
   subst hp
   have HV := Lib.hid hv
   clear hv
   go_enter Tryz.func95, Tryz.ntmps95
   go_wp2_with fail
   refine (K2.out _).mono ?_
   rintro e w' ⟨rfl, rfl⟩
   go_wp2_with fail
   go_ret
   exact ⟨by rw [HV.out]; rfl, HB.out⟩
  ·
   subst hp
   have HV := Lib.hid hv
   clear hv
   go_enter Tryz.func95, Tryz.ntmps95
   go_wp2_with fail
   refine (K2.out _).mono ?_
   rintro e w' ⟨rfl, rfl⟩
   go_wp2_with fail
   go_ret
   exact ⟨by rw [HV.out]; rfl, HB.out⟩
  ·
   subst hp
   have HV := Lib.hid hv
   clear hv
   go_enter Tryz.func95, Tryz.ntmps95
   go_wp2_with fail
   refine (K2.out _).mono ?_
   rintro e w' ⟨rfl, rfl⟩
   go_wp2_with fail
   go_ret
   exact ⟨by rw [HV.out]; rfl, HB.out⟩
  ·
   have hp' : (p == 0) = false := by simpa using hp
   rw [hp'] at hv
   have HV := Lib.hid hv
   clear hv
   go_enter Tryz.func95, Tryz.ntmps95
   go_wp2_with fail
   refine (K2.out _).mono ?_
   rintro e w' ⟨rfl, rfl⟩
   go_wp2_with fail
   go_ret
   exact ⟨by rw [HV.out]; rfl, HB.out⟩
  ·
   have hp' : (p == 0) = false := by simpa using hp
   rw [hp'] at hv
   have HV := Lib.hid hv
   clear hv
   go_enter Tryz.func95, Tryz.ntmps95
   go_wp2_with fail
   refine (K2.out _).mono ?_
   rintro e w' ⟨rfl, rfl⟩
   go_wp2_with fail
   go_ret
   exact ⟨by rw [HV.out]; rfl, HB.out⟩
  ·
   have hp' : (p == 0) = false := by simpa using hp
   rw [hp'] at hv
   have HV := Lib.hid hv
   clear hv
   go_enter Tryz.func95, Tryz.ntmps95
   go_wp2_with fail
   refine (K2.out _).mono ?_
   rintro e w' ⟨rfl, rfl⟩
   go_wp2_with fail
   go_ret
   exact ⟨by rw [HV.out]; rfl, HB.out⟩
  ·
   have hp' : (p == 0) = false := by simpa using hp
   rw [hp'] at hv
   have HV := Lib.hid hv
   clear hv
   go_enter Tryz.func95, Tryz.ntmps95
   go_wp2_with fail
   refine (K2.out _).mono ?_
   rintro e w' ⟨rfl, rfl⟩
   go_wp2_with fail
   go_ret
   exact ⟨by rw [HV.out]; rfl, HB.out⟩
 ·
  have HV := Lib.hid (exitOk_else (p := p) (n := n) (w := q) h)
  obtain ⟨h0, h1, h2, h3, h4⟩ := h
  go_enter Tryz.func95, Tryz.ntmps95
  go_wp2_with fail
  go_ret
  exact ⟨by rw [HV.out]; rfl, HB.out⟩
theorem spec_fault (p : Int) (q : Bool) (w : World) :
  Calls Tryz.prog 118 #[.int .i64 p, .bool q] w (ExitP w (1, p, q, 0)) := by
 go_enter Tryz.func118, Tryz.ntmps118
 go_wp2_with fail
 exact bodyPost_ret (v := .agg #[.int .i64 1, .int .i64 p, .bool q, .int .i64 0]) (by simp [results, Tryz.results118, go_sem]) rfl ⟨rfl, (Below.refl _ _).alloc (Nat.le_refl _) _⟩
theorem spec_call (n : Int) (w : World) :
  Calls Tryz.prog 119 #[.int .i64 n] w (ExitP w (2, 0, false, n)) := by
 go_enter Tryz.func119, Tryz.ntmps119
 go_wp2_with fail
 exact bodyPost_ret (v := .agg #[.int .i64 2, .int .i64 0, .bool false, .int .i64 n]) (by simp [results, Tryz.results119, go_sem]) rfl ⟨rfl, (Below.refl _ _).alloc (Nat.le_refl _) _⟩
theorem spec_out (n : Int) (w : World) :
  Calls Tryz.prog 120 #[.int .i64 n] w (ExitP w (3, 0, false, n)) := by
 go_enter Tryz.func120, Tryz.ntmps120
 go_wp2_with fail
 exact bodyPost_ret (v := .agg #[.int .i64 3, .int .i64 0, .bool false, .int .i64 n]) (by simp [results, Tryz.results120, go_sem]) rfl ⟨rfl, (Below.refl _ _).alloc (Nat.le_refl _) _⟩
end Go.Proofs.YtldgadmpclgfhaaGreat.Exits
namespace Go.Proofs.YtldgadmpclgfhaaGreat.Guests
set_option maxHeartbeats 8000000
set_option maxRecDepth 100000
set_option maxRecDepth 100000
open Go.ChangeShapes Go.WideShapes Go.ChangeAt Go.RowKit
open Go.Proofs.YtldgadmpclgfhaaGreat.Base Go.Proofs.YtldgadmpclgfhaaGreat.Mem Go.Proofs.YtldgadmpclgfhaaGreat.Slots Go.Proofs.YtldgadmpclgfhaaGreat.Data Go.Proofs.YtldgadmpclgfhaaGreat.Ints Go.Proofs.YtldgadmpclgfhaaGreat.Inss Go.Proofs.YtldgadmpclgfhaaGreat.Ctls Go.Proofs.YtldgadmpclgfhaaGreat.Exits Go.Proofs.YtldgadmpclgfhaaGreat.Part Go.Proofs.YtldgadmpclgfhaaGreat.Guests
open Go.Proofs.YtldgadmpclgfhaaGreat.Irqs
set_option linter.unusedVariables false
set_option linter.unusedSimpArgs false
theorem gR.with {w : World} {lo hi : Nat} {g h : gT} {P0 P1 P2 P3 : Value} (r : gR w lo hi g P0 P1 P2 P3) (e0 : h.prog = g.prog) (e1 : h.wr = g.wr) (e2 : h.lv = g.lv) (e3 : h.seen = g.seen) : gR w lo hi h P0 P1 P2 P3 :=
 ⟨by rw [e0]; exact r.r0, by rw [e1]; exact r.r1, by rw [e2]; exact r.r2, by rw [e3]; exact r.r3⟩
theorem gO.with {w : World} {lo hi : Nat} {g h : gT} {P0 P1 P2 P3 : Value} (r : gO w lo hi g P0 P1 P2 P3) (e0 : h.prog = g.prog) (e1 : h.wr = g.wr) (e2 : h.lv = g.lv) (e3 : h.seen = g.seen) : gO w lo hi h P0 P1 P2 P3 :=
 ⟨by rw [e0]; exact r.r0, by rw [e1]; exact r.r1, by rw [e2]; exact r.r2, by rw [e3]; exact r.r3, r.d01, r.d02, r.d03, r.d12, r.d13, r.d23⟩
theorem gO.far {w : World} {lo hi : Nat} {g : gT} {P0 P1 P2 P3 : Value} (r : gO w lo hi g P0 P1 P2 P3) {z : Nat} (hz : z < lo ∨ hi ≤ z) (i : Nat) (u : Value) : gO (w.setCell ⟨z, i, none⟩ u) lo hi g P0 P1 P2 P3 :=
 r.kept fun k h1 h2 => Below.heap_setCell w ⟨z, i, none⟩ u k (by show k ≠ z; omega)
end Go.Proofs.YtldgadmpclgfhaaGreat.Guests
namespace Go.Proofs.YtldgadmpclgfhaaGreat.Slots
set_option maxHeartbeats 8000000
set_option maxRecDepth 100000
set_option maxRecDepth 100000
open Go.ChangeShapes Go.WideShapes Go.ChangeAt Go.RowKit
open Go.Proofs.YtldgadmpclgfhaaGreat.Base Go.Proofs.YtldgadmpclgfhaaGreat.Mem Go.Proofs.YtldgadmpclgfhaaGreat.Ints
theorem impl_no (w : World) :
  Calls Tryz.prog 126 #[] w fun e w' => e = .returned (.agg #[.int .i64 (-1), .int .i64 0]) ∧ Below w.heap.size w w' := by
 go_enter Tryz.func126, Tryz.ntmps126
 go_wp2
 exact bodyPost_ret (v := .agg #[.int .i64 (-1), .int .i64 0]) (by simp [results, Tryz.results126, go_sem]) rfl ⟨rfl, (Below.refl _ _).alloc (Nat.le_refl _) _⟩
theorem spec_no (w : World) :
  Calls Tryz.prog 106 #[] w fun e w' => e = .returned (.agg #[.int .i64 (-1), .int .i64 0]) ∧ Below w.heap.size w w' := by
 go_enter Tryz.func106, Tryz.ntmps106
 go_wp2
 exact bodyPost_ret (v := .agg #[.int .i64 (-1), .int .i64 0]) (by simp [results, Tryz.results106, go_sem]) rfl ⟨rfl, (Below.refl _ _).alloc (Nat.le_refl _) _⟩
theorem impl_rok (r : Int) (w : World) (hr : (Lit.int .i64 r).wf = true) :
  Calls Tryz.prog 133 #[.int .i64 r] w fun e w' => e = .returned (.bool (Rights.rok r)) ∧ w = w' := by
 have h := Lib.hid (Rights.andNot3 hr)
 clear hr
 go_enter Tryz.func133, Tryz.ntmps133
 go_wp2
 go_ret
 rw [h.out]
 exact ⟨rfl, rfl⟩
theorem boxed (w : World) (u v : Value) (T : TypeId) : (w.alloc (.cells #[u, v] T)).cell? ⟨w.heap.size, 0, none⟩ = some u ∧ (w.alloc (.cells #[u, v] T)).cell? ⟨w.heap.size, 1, none⟩ = some v ∧ Below w.heap.size w (w.alloc (.cells #[u, v] T)) ∧ w.heap.size < (w.alloc (.cells #[u, v] T)).heap.size :=
 ⟨cell_of_row _ _ 0 _ _ _ (heap_alloc_new w _), cell_of_row _ _ 1 _ _ _ (heap_alloc_new w _), (Below.refl _ _).alloc (Nat.le_refl _) _, by simp⟩
def OkPost (w : World) (x : Bool) (e : Ending) (w' : World) : Prop := e = .returned (.bool x) ∧ Below w.heap.size w w'
theorem okS_cases (p r pages : Int) : (p = -1 ∧ r = 0 ∧ okS p r pages = true) ∨ (((p = -1 ∧ r ≠ 0) ∨ p ≠ -1) ∧
  ((¬ 0 ≤ p ∧ okS p r pages = false) ∨ (0 ≤ p ∧ ¬ p < pages ∧ okS p r pages = false) ∨ (0 ≤ p ∧ p < pages ∧ r = 0 ∧ okS p r pages = false) ∨
   (0 ≤ p ∧ p < pages ∧ r ≠ 0 ∧ Rights.rok r = false ∧ okS p r pages = false) ∨ (0 ≤ p ∧ p < pages ∧ r ≠ 0 ∧ Rights.rok r = true ∧ okS p r pages = true))) := by
 simp only [okS, decide_eq_true_eq, decide_eq_false_iff_not, Rights.rok_iff, Rights.rok_false]
 omega
theorem impl_okS (p r pages : Int) (w : World) (hr : (Lit.int .i64 r).wf = true) :
  Calls Tryz.prog 125 #[.agg #[.int .i64 p, .int .i64 r], .int .i64 pages] w (OkPost w (okS p r pages)) := by
 have HR := Lib.hid hr
 clear hr
 obtain ⟨k0, k1, hW, hsz⟩ := boxed w (.int .i64 p) (.int .i64 r) 108
 rcases okS_cases p r pages with ⟨rfl, rfl, h⟩ | ⟨hno, hh⟩
 ·
  rw [h]; clear h
  go_enter Tryz.func125, Tryz.ntmps125
  go_wp2_with fail
  generalize w.alloc (.cells #[.int .i64 (-1), .int .i64 0] 108) = W at k0 k1 hW hsz ⊢
  refine wp_region_noPanic ?_
  go_region_held (fun w' => w'.cell? ⟨w.heap.size, 0, none⟩ = some (.int .i64 (-1)) ∧ w'.cell? ⟨w.heap.size, 1, none⟩ = some (.int .i64 0))
   (first | exact ⟨k0, k1⟩ | exact ⟨(hb1.cell (p := ⟨w.heap.size, 0, none⟩) hsz).trans k0, (hb1.cell (p := ⟨w.heap.size, 1, none⟩) hsz).trans k1⟩)
   (first | (go_at_call 126; refine (impl_no _).mono ?_; rintro e w1 ⟨rfl, hb1⟩))
  refine NoPanic.normal ?_
  have hbw : Below w.heap.size w w1 := hW.drew.trans (hb1.mono hW.size)
  clear hb1 k0 k1
  go_wp2_with fail
  go_ret
  exact ⟨rfl, hbw⟩
 ·
  rcases hno with ⟨rfl, h0⟩ | h0
  ·
   have h0' : (r == 0) = false := by simpa using h0
   have h : okS (-1) r pages = false := by simp [okS, h0]
   rw [h]; clear h hh h0
   go_enter Tryz.func125, Tryz.ntmps125
   go_wp2_with fail
   generalize w.alloc (.cells #[.int .i64 (-1), .int .i64 r] 108) = W at k0 k1 hW hsz ⊢
   refine wp_region_noPanic ?_
   go_region_held (fun w' => w'.cell? ⟨w.heap.size, 0, none⟩ = some (.int .i64 (-1)) ∧ w'.cell? ⟨w.heap.size, 1, none⟩ = some (.int .i64 r))
    (first | exact ⟨k0, k1⟩ | exact ⟨(hb1.cell (p := ⟨w.heap.size, 0, none⟩) hsz).trans k0, (hb1.cell (p := ⟨w.heap.size, 1, none⟩) hsz).trans k1⟩)
    (first | (go_at_call 126; refine (impl_no _).mono ?_; rintro e w1 ⟨rfl, hb1⟩))
   refine NoPanic.normal ?_
   have hbw : Below w.heap.size w w1 := hW.drew.trans (hb1.mono hW.size)
   have j0 : w1.cell? ⟨w.heap.size, 0, none⟩ = some (.int .i64 (-1)) := (hb1.cell (p := ⟨w.heap.size, 0, none⟩) hsz).trans k0
   clear hb1 k0 k1
   go_wp2_with fail
   go_ret
   exact ⟨rfl, hbw⟩
  ·
   have h0' : (p == -1) = false := by simpa using h0
   clear h0
   go_enter Tryz.func125, Tryz.ntmps125
   go_wp2_with fail
   generalize w.alloc (.cells #[.int .i64 p, .int .i64 r] 108) = W at k0 k1 hW hsz ⊢
   refine wp_region_noPanic ?_
   go_region_held (fun w' => w'.cell? ⟨w.heap.size, 0, none⟩ = some (.int .i64 p) ∧ w'.cell? ⟨w.heap.size, 1, none⟩ = some (.int .i64 r))
    (first | exact ⟨k0, k1⟩ | exact ⟨(hb1.cell (p := ⟨w.heap.size, 0, none⟩) hsz).trans k0, (hb1.cell (p := ⟨w.heap.size, 1, none⟩) hsz).trans k1⟩)
    (first | (go_at_call 126; refine (impl_no _).mono ?_; rintro e w1 ⟨rfl, hb1⟩))
   refine NoPanic.normal ?_
   have hbw : Below w.heap.size w w1 := hW.drew.trans (hb1.mono hW.size)
   have j0 : w1.cell? ⟨w.heap.size, 0, none⟩ = some (.int .i64 p) := (hb1.cell (p := ⟨w.heap.size, 0, none⟩) hsz).trans k0
   have j1 : w1.cell? ⟨w.heap.size, 1, none⟩ = some (.int .i64 r) := (hb1.cell (p := ⟨w.heap.size, 1, none⟩) hsz).trans k1
   have HB := Lib.hid hbw
   clear hb1 k0 k1 hbw
   rcases hh with ⟨h1, h⟩ | ⟨h1, h2, h⟩ | ⟨h1, h2, rfl, h⟩ | ⟨h1, h2, h3, h4, h⟩ | ⟨h1, h2, h3, h4, h⟩
   ·
    have HH := Lib.hid h
    clear h
    go_wp2_with fail
    go_ret
    exact ⟨by rw [HH.out]; rfl, HB.out⟩
   ·
    have HH := Lib.hid h
    clear h
    go_wp2_with fail
    go_ret
    exact ⟨by rw [HH.out]; rfl, HB.out⟩
   ·
    have HH := Lib.hid h
    clear h
    go_wp2_with fail
    go_ret
    exact ⟨by rw [HH.out]; rfl, HB.out⟩
   ·
    have HH := Lib.hid h
    have h3' : (r != 0) = true := by simpa using h3
    have K := fun V : World => impl_rok r V HR.out
    rw [h4] at K
    have HK := Lib.hid K
    clear K h4 h3 h
    go_wp2_with fail
    refine (HK.out _).mono ?_
    rintro e w' ⟨rfl, rfl⟩
    go_wp2_with fail
    go_ret
    exact ⟨by rw [HH.out]; rfl, HB.out⟩
   ·
    have HH := Lib.hid h
    have h3' : (r != 0) = true := by simpa using h3
    have K := fun V : World => impl_rok r V HR.out
    rw [h4] at K
    have HK := Lib.hid K
    clear K h4 h3 h
    go_wp2_with fail
    refine (HK.out _).mono ?_
    rintro e w' ⟨rfl, rfl⟩
    go_wp2_with fail
    go_ret
    exact ⟨by rw [HH.out]; rfl, HB.out⟩
end Go.Proofs.YtldgadmpclgfhaaGreat.Slots
namespace Go.Proofs.YtldgadmpclgfhaaGreat.Slots
set_option maxHeartbeats 8000000
set_option maxRecDepth 100000
set_option maxRecDepth 100000
open Go.ChangeShapes Go.WideShapes Go.ChangeAt Go.RowKit
open Go.Proofs.YtldgadmpclgfhaaGreat.Base Go.Proofs.YtldgadmpclgfhaaGreat.Mem Go.Proofs.YtldgadmpclgfhaaGreat.Ints
set_option linter.unusedVariables false
theorem scells_set : ∀ (l : List Sl) (k : Nat) (_ : k < l.length) (x y : Int), scells (l.set k (x, y)) = ((scells l).set (k * 2) (.int .i64 x)).set (k * 2 + 1) (.int .i64 y)
 | p :: l, 0, _, x, y => by simp [scells]
 | p :: l, k + 1, h, x, y => by
  have := scells_set l k (by simpa using h) x y
  rw [show (k + 1) * 2 = k * 2 + 1 + 1 by omega]
  simp [scells, this]
end Go.Proofs.YtldgadmpclgfhaaGreat.Slots
namespace Go.Proofs.YtldgadmpclgfhaaGreat.BroughtW
set_option maxHeartbeats 8000000
set_option maxRecDepth 100000
set_option maxRecDepth 100000
open Go.ChangeShapes Go.WideShapes Go.ChangeAt Go.RowKit
def brought (n l m : Int) : Int := if m < l ∨ n < l then l else if m < n then m else n
theorem ret_int {k : IntKind} {a b : Int} (h : a = b) : Ending.returned (.int k a) = .returned (.int k b) := by rw [h]
theorem impl_any (n l m : Int) (w : World) :
  Calls Tryz.prog 63 #[.int .i64 n, .int .i64 l, .int .i64 m] w fun e w' => e = .returned (.int .i64 (brought n l m)) ∧ w = w' := by
 go_enter Tryz.func63, Tryz.ntmps63
 go_wp2
 all_goals
  go_ret
  refine ⟨ret_int ?_, rfl⟩
  unfold brought
  repeat' split
  all_goals (repeat' split at *)
  all_goals omega
end Go.Proofs.YtldgadmpclgfhaaGreat.BroughtW
namespace Go.Proofs.YtldgadmpclgfhaaGreat.Slots
set_option maxHeartbeats 8000000
set_option maxRecDepth 100000
set_option maxRecDepth 100000
open Go.ChangeShapes Go.WideShapes Go.ChangeAt Go.RowKit
open Go.Proofs.YtldgadmpclgfhaaGreat.Base Go.Proofs.YtldgadmpclgfhaaGreat.Mem Go.Proofs.YtldgadmpclgfhaaGreat.Ints
set_option linter.unusedVariables false
theorem results_cell {fn : Func} {P : Program} {w : World} {t : Tmp} {ty : TypeId} {tmps : Array Value} {ad : Addr} {v : Value} (h : fn.results = #[.cell t ty]) (hp : tmps.getD t undef = .pointer (some ad)) (hl : (loadVar ty ad).run P w = .ok v w) :
  (results fn tmps).run P w = .ok v w := by
 have hp' : tmps[t]?.getD undef = .pointer (some ad) := by simpa using hp
 simp [results, h, hp', asAddr, hl]
theorem bset {B b : Nat} {a : World} (hb : B ≤ b) : ∀ (vs : List Value) (o : Nat) (w : World), Below B a w → Below B a (w.setCells b o vs)
 | [], _, _, h => h
 | v :: r, o, w, h => bset hb r (o + 1) _ (h.setCell (p := ⟨b, o, none⟩) hb v)
theorem range_of_row {w : World} {base g n c size : Nat} {e : TypeId} {xs : List Value} (h : w.ownsRow base e size (.slice (some ⟨g, 0, none⟩) n c) n xs) : w.rangeAt g 0 xs := fun j v hv => by
 have := h.cells (g := g) rfl j v hv
 rw [Addr.add_lit] at this
 exact this
theorem there_of_row {w : World} {base g n c size : Nat} {e : TypeId} {xs : List Value} (h : w.ownsRow base e size (.slice (some ⟨g, 0, none⟩) n c) n xs) : w.there g 0 xs.length := fun j hj => by
 refine ⟨?_, by rw [Nat.zero_add]; exact h.frozenAt j⟩
 have := range_of_row h j _ (List.getElem?_eq_getElem hj)
 rw [this]; rfl
def zero48 : Array Value := (scells (List.replicate 24 (0, 0))).toArray
theorem nosL_take (k : Nat) (h : k ≤ 24) : (nosL 24).take k = nosL k := by unfold nosL; rw [List.take_replicate, Nat.min_eq_left h]
theorem nosL_len (k : Nat) : (nosL k).length = k := by simp [nosL]
theorem nosL_step (k : Nat) (h : k < 24) : (nosL 24).take (k + 1) = (nosL 24).take k ++ [(-1, 0)] := by
 rw [nosL_take _ h, nosL_take _ (by omega)]
 exact List.replicate_succ'
theorem infoArr : (Tryz.prog.info? 130).map (·.size) = some 48 := by kernel_rfl
theorem nos48 : (scells (nosL 24)).length = 48 := rfl
theorem empty_any (w : World) :
  Calls Tryz.prog 115 #[] w fun e w' => e = .returned (.agg (scells (nosL 24)).toArray) ∧ Below w.heap.size w w' := by
 have hr1 : ((w.alloc (.cells zero48 130)).alloc (.cells zero48 130)).ownsRow w.heap.size 130 2 (.slice (some ⟨w.heap.size + 1, 0, none⟩) 24 24) 24 zero48.toList := by
  have := World.ownsRow_lit (base := w.heap.size) (e := 130) (size := 2) (w.alloc (.cells zero48 130)) zero48 24 (by simp) (by decide) rfl
  simpa using this
 have hr0 : ((w.alloc (.cells zero48 130)).alloc (.cells zero48 130)).ownsRow w.heap.size 130 2 (.slice (some ⟨w.heap.size, 0, none⟩) 24 24) 24 zero48.toList :=
  (World.ownsRow_lit (base := w.heap.size) (e := 130) (size := 2) w zero48 24 (Nat.le_refl _) (by decide) rfl).alloc _
 have hb0 : Below w.heap.size w ((w.alloc (.cells zero48 130)).alloc (.cells zero48 130)) := ((Below.refl _ _).alloc (Nat.le_refl _) _).alloc (by simp) _
 have H0 := Lib.hid (And.intro hr0 (And.intro hr1 hb0))
 clear hr0 hr1 hb0
 go_enter Tryz.func115, Tryz.ntmps115
 go_wp2
 go_loopw [2, 3] (fun _ i wr => ∃ (k : Nat) (xs : List Value), k ≤ 24 ∧ i = .int .i64 k ∧ xs.take (k * 2) = scells ((nosL 24).take k) ∧ wr.ownsRow w.heap.size 130 2 (.slice (some ⟨w.heap.size + 1, 0, none⟩) 24 24) 24 xs ∧
  wr.ownsRow w.heap.size 130 2 (.slice (some ⟨w.heap.size, 0, none⟩) 24 24) 24 zero48.toList ∧ Below w.heap.size w wr) (fun _ i _ => 24 - (intOf i).toNat)
 case atStart => exact ⟨0, _, Nat.zero_le _, rfl, rfl, H0.out.2.1, H0.out.1, H0.out.2.2⟩
 case round =>
  obtain ⟨k, xs, hk, rfl, hxs, hown, hres, hb⟩ := hrel
  have HX := Lib.hid hxs
  clear hxs
  by_cases hlt : k < 24
  ·
   have hi0 : (0 : Int) ≤ (k : Int) := Int.natCast_nonneg _
   have hi1 : (k : Int) < 24 := by omega
   go_wp2_with (go_at_call 126; refine (impl_no _).mono ?_; rintro e w1 ⟨rfl, hb1⟩; have hown1 := hown.kept (grown_of_below hb1 none) (.inr (by simp [Value.ownBlock])); obtain ⟨⟨u1, e1⟩, ⟨u2, e2⟩, f1, f2⟩ := row_two hown1 hlt)
   have hres1 := hres.kept (grown_of_below hb1 none) (.inr (by simp [Value.ownBlock]))
   have hrow := row_set2 hown1 k (.int .i64 (-1)) (.int .i64 0)
   have hres2 := ((hres1.kept (hown1.stored (k * 2) (.int .i64 (-1))).2 (.inr (by simp [Value.ownBlock]))).kept ((hown1.stored (k * 2) (.int .i64 (-1))).1.stored (k * 2 + 1) (.int .i64 0)).2 (.inr (by simp [Value.ownBlock])))
   have hbw2 : Below w.heap.size w ((w1.setCell ⟨w.heap.size + 1, k * 2, none⟩ (.int .i64 (-1))).setCell ⟨w.heap.size + 1, k * 2 + 1, none⟩ (.int .i64 0)) :=
    ((hb.trans (hb1.mono hb.size)).setCell (p := ⟨w.heap.size + 1, k * 2, none⟩) (Nat.le_succ _) _).setCell (p := ⟨w.heap.size + 1, k * 2 + 1, none⟩) (Nat.le_succ _) _
   have hts := take_set2 (x := -1) (y := 0) HX.out (by have := hown1.1; omega) (nosL_step k hlt)
   go_roundw
   case rel => exact ⟨k + 1, _, by omega, by go_num, hts, hrow, hres2, hbw2⟩
   case measure => simp [intOf]; omega
  ·
   have hkn : k = 24 := by omega
   subst hkn
   have hx : xs = scells (nosL 24) := by
    have h1 := HX.out
    have h2 := hown.1
    rw [List.take_of_length_le (by omega), List.take_of_length_le (by rw [nosL_len]; exact Nat.le_refl _)] at h1
    exact h1
   subst hx
   have hr := range_of_row hown
   have ht : wr.there w.heap.size 0 48 := there_of_row hres
   have ht' : wr.there w.heap.size 0 48 := there_of_row hres
   have hone := all_oneCell_toArray (scells_one (nosL 24))
   have HR := Lib.hid (And.intro hr (And.intro ht (And.intro hone ht')))
   clear hr ht hone ht' hown hres
   go_wp2_with (first
    | (refine wpList_load_mid rfl 130 _ rfl (w.heap.size + 1) 0 rfl (scells (nosL 24)) _ HR.out.1 Tryz.underlying130 rfl infoArr ?_)
    | (refine wpList_store_mid rfl 130 _ _ rfl w.heap.size 0 (scells (nosL 24)).toArray rfl rfl HR.out.2.1 infoArr HR.out.2.2.1 ?_))
   exact bodyPost_ret (v := .agg (scells (nosL 24)).toArray) (results_cell rfl rfl (run_loadVar_mid _ w.heap.size 0 _ (scells (nosL 24)) _ (World.rangeAt_setCells_same _ _ _ _ HR.out.2.2.2) Tryz.underlying130 rfl infoArr)) rfl ⟨rfl, bset (Nat.le_refl _) _ _ _ hb⟩
theorem brought24 (n : Int) : ∃ m : Nat, m ≤ 24 ∧ BroughtW.brought n 0 24 = m := by
 unfold BroughtW.brought
 by_cases h : n < 0
 ·
  exact ⟨0, by omega, by rw [if_pos (Or.inr h)]; rfl⟩
 ·
  by_cases h2 : 24 < n
  ·
   exact ⟨24, by omega, by rw [if_neg (by omega), if_pos h2]; rfl⟩
  ·
   exact ⟨n.toNat, by omega, by rw [if_neg (by omega), if_neg h2]; omega⟩
def newN (n : Int) : Nat := (BroughtW.brought n 0 24).toNat
theorem newN_le (n : Int) : newN n ≤ 24 := by
 obtain ⟨m, h1, h2⟩ := brought24 n
 unfold newN
 rw [h2]; omega
theorem newN_eq (n : Int) : BroughtW.brought n 0 24 = (newN n : Int) := by
 obtain ⟨m, h1, h2⟩ := brought24 n
 unfold newN
 rw [h2]; omega
theorem scells_pre {l m : List Sl} {j : Nat} {u : Value} (h : (scells l)[j]? = some u) : (scells (l ++ m))[j]? = some u := by
 rw [scells_append, List.getElem?_append_left (List.getElem?_eq_some_iff.1 h).1]
 exact h
theorem arr_there (w : World) (cs : Array Value) (T : TypeId) (hcs : cs.size = 48) : (w.alloc (.cells cs T)).there w.heap.size 0 48 := fun j hj => by
 refine ⟨?_, by rw [Nat.zero_add]; exact frozen_of_row _ _ _ _ _ (heap_alloc_new w _)⟩
 rw [Nat.zero_add, cell_of_row _ _ j _ _ _ (heap_alloc_new w _), Array.getElem?_eq_getElem (by omega)]; rfl
theorem arr_owned {w : World} {m : Nat} (hm : m ≤ 24) (cs : Array Value) (T : TypeId) (hcs : cs.size = 48) :
  Owned ((w.alloc (.cells cs T)).setCells w.heap.size 0 (scells (nosL 24))) w.heap.size ((w.alloc (.cells cs T)).setCells w.heap.size 0 (scells (nosL 24))).heap.size (some ⟨w.heap.size, 0, none⟩) (scells (nosL m)) := by
 have ht : (w.alloc (.cells cs T)).there w.heap.size 0 (scells (nosL 24)).length := fun j hj => by
  rw [nos48] at hj
  refine ⟨?_, by rw [Nat.zero_add]; exact frozen_of_row _ _ _ _ _ (heap_alloc_new w _)⟩
  rw [Nat.zero_add, cell_of_row _ _ j _ _ _ (heap_alloc_new w _), Array.getElem?_eq_getElem (by omega)]; rfl
 have hr := World.rangeAt_setCells_same _ _ _ _ ht
 have hsz : w.heap.size < ((w.alloc (.cells cs T)).setCells w.heap.size 0 (scells (nosL 24))).heap.size := by
  have h1 := (bset (Nat.zero_le w.heap.size) (scells (nosL 24)) 0 (w.alloc (.cells cs T)) (Below.refl 0 (w.alloc (.cells cs T)))).size
  simp at h1
  omega
 have hpre : nosL 24 = nosL m ++ nosL (24 - m) := by
  unfold nosL
  rw [List.replicate_append_replicate]
  congr 1
  omega
 refine ⟨fun j u hu => ⟨w.heap.size, 0, rfl, Nat.le_refl _, hsz, hr j u (by rw [hpre]; exact scells_pre hu)⟩, fun b off e _ j => ?_⟩
 cases e
 rw [World.frozen?_setCells]
 exact frozen_of_row _ _ _ _ _ (heap_alloc_new w _)
theorem store_arr {ops : Array Oper} {rest : List Oper} {op : Oper} {a : Act} {w1 : World} {Q : Exit → Act → World → Prop} (hgd : op.guard = none) (x y : Operand) (ho : op.op = .store 130 x y) (cs0 : Array Value) (h0 : cs0.size = 48)
  (cs : List Value) (hcs : cs = scells (nosL 24)) (hx : a.eval x = .pointer (some ⟨w1.heap.size, 0, none⟩)) (hy : a.eval y = .agg cs.toArray)
  (h : ∀ W, (∀ m, m ≤ 24 → Owned W w1.heap.size W.heap.size (some ⟨w1.heap.size, 0, none⟩) (scells (nosL m))) → Below w1.heap.size w1 W → wpList Tryz.prog ops Q rest (a.put op.dst undef) W) :
  wpList Tryz.prog ops Q (op :: rest) a (w1.alloc (.cells cs0 130)) := by
 subst hcs
 refine wpList_store_mid hgd _ x y ho w1.heap.size 0 (scells (nosL 24)).toArray hx hy (arr_there _ _ _ h0) infoArr (all_oneCell_toArray (scells_one _)) ?_
 exact h _ (fun m hm => arr_owned hm cs0 _ h0) (bset (Nat.le_refl _) _ _ _ ((Below.refl _ _).alloc (Nat.le_refl _) _))
theorem empty_some (w : World) :
  Calls Tryz.prog 115 #[] w fun e w' => ∃ cs : List Value, Hid (cs = scells (nosL 24)) ∧ e = .returned (.agg cs.toArray) ∧ Below w.heap.size w w' :=
 (empty_any w).mono fun _ _ ⟨he, hb⟩ => ⟨_, rfl, he, hb⟩
theorem impl_new (n : Int) (w : World) : Calls Tryz.prog 98 #[.int .i64 n] w (RowPost w (newN n) (nosL (newN n))) := by
 have hK := fun V : World => BroughtW.impl_any n 0 24 V
 rw [newN_eq n] at hK
 have hm := newN_le n
 generalize newN n = m at hK hm ⊢
 have HK := Lib.hid hK
 clear hK
 go_enter Tryz.func98, Tryz.ntmps98
 go_wp2_with fail
 refine (empty_some _).mono ?_
 rintro e w1 ⟨cs, HCS, rfl, hb1⟩
 go_wp2_with ((with_reducible refine store_arr rfl _ _ rfl _ rfl cs HCS.out rfl rfl ?_); intro W hW hbW; have HW := Lib.hid (And.intro hW hbW); clear hW hbW)
 refine (HK.out _).mono ?_
 rintro e w' ⟨rfl, rfl⟩
 have hm0 : (0 : Int) ≤ (m : Int) := Int.natCast_nonneg _
 have hm1 : (m : Int) ≤ 24 := by omega
 go_wp2_with fail
 go_ret
 have ho : Owned W w.heap.size W.heap.size (some ⟨w1.heap.size, 0, none⟩) (scells (nosL m)) := (HW.out.1 m hm).wide hb1.size (Nat.le_refl _)
 exact ⟨⟨w1.heap.size, 0, none⟩, m, by simp, Nat.le_refl _, ho, btr hb1 HW.out.2⟩
theorem Tryz.infoSlot2 : (Tryz.prog.info? 108).map (fun i => (i.zero, i.size, i.bytes)) = some (some (.agg #[.int .i64 0, .int .i64 0]), 2, 16) := by kernel_rfl
theorem nosL_snoc (k : Nat) : nosL (k + 1) = nosL k ++ [(-1, 0)] := List.replicate_succ'
theorem spec_brought (n : Int) (w : World) :
  Calls Tryz.prog 83 #[.int .i64 n, .int .i64 0, .int .i64 24] w fun e w' => e = .returned (.int .i64 (BroughtW.brought n 0 24)) ∧ w = w' := by
 by_cases h2 : n < 0
 ·
  have hb : BroughtW.brought n 0 24 = 0 := by unfold BroughtW.brought; rw [if_pos (Or.inr h2)]
  rw [hb]; clear hb
  go_enter Tryz.func83, Tryz.ntmps83
  go_wp2
  go_ret
  exact ⟨rfl, rfl⟩
 ·
  by_cases h3 : 24 < n
  ·
   have hb : BroughtW.brought n 0 24 = 24 := by unfold BroughtW.brought; rw [if_neg (by omega), if_pos h3]
   rw [hb]; clear hb
   go_enter Tryz.func83, Tryz.ntmps83
   go_wp2
   go_ret
   exact ⟨rfl, rfl⟩
  ·
   have hb : BroughtW.brought n 0 24 = n := by unfold BroughtW.brought; rw [if_neg (by omega), if_neg h3]
   rw [hb]; clear hb
   go_enter Tryz.func83, Tryz.ntmps83
   go_wp2
   go_ret
   exact ⟨rfl, rfl⟩
theorem spec_new (n : Int) (w : World) : Calls Tryz.prog 84 #[.int .i64 n] w (RowPost w (newN n) (nosL (newN n))) := by
 obtain ⟨i0, hi0, hz0, hz1, hz2⟩ := info_parts Tryz.infoSlot2
 have hK := fun V : World => spec_brought n V
 rw [newN_eq n] at hK
 have hm := newN_le n
 generalize newN n = m at hK hm ⊢
 have HK := Lib.hid hK
 clear hK
 go_enter Tryz.func84, Tryz.ntmps84
 go_wp2_with fail
 refine (HK.out _).mono ?_
 rintro e w' ⟨rfl, rfl⟩
 go_wp2_with fail
 go_loopw [3, 4] (fun v i wr => ∃ (k g cap q : Nat), k + q = m ∧ i = .int .i64 q ∧ v = .slice (some ⟨g, 0, none⟩) k cap ∧ wr.ownsRow w.heap.size 108 2 (.slice (some ⟨g, 0, none⟩) k cap) k (scells (nosL k)) ∧ Below w.heap.size w wr) (fun _ i _ => (intOf i).toNat)
 case atStart => exact ⟨0, w.heap.size, 0, m, by omega, rfl, rfl, World.ownsRow_made w #[] 0 (Nat.le_refl _) (Nat.zero_le _) rfl, (Below.refl _ _).alloc (Nat.le_refl _) _⟩
 case round =>
  obtain ⟨k, g, cap, q, hkq, rfl, rfl, hown, hb⟩ := hrel
  have hk24 : k ≤ 24 := by omega
  have HQ := Lib.hid hkq
  clear hkq
  have hbs := hb.size
  by_cases h0 : 0 < q
  ·
   have hq1 : (0 : Int) < (q : Int) := by omega
   have hq2 : q ≤ 24 := by have := HQ.out; omega
   go_wp2_with fail
   refine (spec_no _).mono ?_
   rintro e w1 ⟨rfl, hb1⟩
   have hown1 := hown.kept (grown_of_below hb1 none) (.inr (by simp [Value.ownBlock]))
   have hbw1 : Below w.heap.size w w1 := hb.trans (hb1.mono hb.size)
   have hbs1 := hbw1.size
   clear hb1
   go_wp2_with (at_builtin; refine wpList_append_lies _ rfl _ _ 33 rfl w.heap.size 108 i0 _ 2 16 Tryz.underlying33 hi0 hz0 hz1 hz2 rfl (by omega) (.slice (some ⟨g, 0, none⟩) k cap) k _ rfl (hown1.alloc _) ⟨w1.heap.size, 0, none⟩ 1 1 [.int .i64 (-1), .int .i64 0] rfl rfl (World.news_of_block (heap_alloc_new w1 _)) (by simp [Value.oneCell']) (by omega) (by simp only [maxLen]; omega) (by omega) (by simp; omega) (w1.heap.size + 1) (by simp) ?_; intro g' cap' w2 hown2 hgrow hat hg2)
   have hown3 : w2.ownsRow w.heap.size 108 2 (.slice (some ⟨g', 0, none⟩) (k + 1) cap') (k + 1) (scells (nosL (k + 1))) := by rw [nosL_snoc, scells_append]; exact hown2
   have hbw2 : Below w.heap.size w w2 := (hbw1.alloc (by first | omega | (simp; omega)) _).grown hgrow (by first | omega | (simp; omega)) (fun j hj => (hown1.lt j hj).1)
   have HF := Lib.hid (And.intro hown3 hbw2)
   clear hown2 hgrow hat hg2 hown3 hbw2
   go_roundw
   case rel => exact ⟨k + 1, g', cap', q - 1, by have := HQ.out; omega, by go_num, rfl, HF.out.1, HF.out.2⟩
   case measure => simp [intOf]; omega
  ·
   have hq : q = 0 := by omega
   subst hq
   have hkm : k = m := HQ.out
   subst hkm
   go_wp2_with fail
   go_ret
   rcases hown.2 with ⟨h', _⟩ | ⟨g1, cap1, cur, h', _, _, hnc, _⟩
   ·
    simp at h'
   ·
    injection h' with h1 h2 h3
    subst h3
    exact ⟨_, _, rfl, hnc, Owned.of_row hown, hb⟩
end Go.Proofs.YtldgadmpclgfhaaGreat.Slots
namespace Go.Proofs.YtldgadmpclgfhaaGreat.Guests
set_option maxHeartbeats 8000000
set_option maxRecDepth 100000
set_option maxRecDepth 100000
open Go.ChangeShapes Go.WideShapes Go.ChangeAt Go.RowKit
open Go.Proofs.YtldgadmpclgfhaaGreat.Base Go.Proofs.YtldgadmpclgfhaaGreat.Mem Go.Proofs.YtldgadmpclgfhaaGreat.Data Go.Proofs.YtldgadmpclgfhaaGreat.Slots Go.Proofs.YtldgadmpclgfhaaGreat.Ints Go.Proofs.YtldgadmpclgfhaaGreat.Ctls Go.Proofs.YtldgadmpclgfhaaGreat.Exits Go.Proofs.YtldgadmpclgfhaaGreat.Stt Go.Proofs.YtldgadmpclgfhaaGreat.Irqs
set_option linter.unusedVariables false
set_option linter.unusedSimpArgs false
theorem pcells_s : ∀ l : List (Int × Int), pcells l = Slots.scells l
 | [] => rfl
 | s :: l => by rw [Slots.scells, ← pcells_s l]; rfl
theorem pcells_j : ∀ l : List (Int × Int), pcells l = Inss.jcells l
 | [] => rfl
 | s :: l => by rw [Inss.jcells, ← pcells_j l]; rfl
theorem below_same {w w' : World} (h : w = w') : Below w.heap.size w w' := h ▸ Below.refl _ _
theorem specx_copy (g : gT) (cs : List Value) (w : World) (hc : rG.cap g) (h : rG.rd w 0 w.heap.size g cs) : Calls Tryz.prog 38 #[.agg cs.toArray] w (Gives rG w g) := by
 obtain ⟨q0, q1, q2, q3⟩ := rG_len hc
 have hr := h
 obtain ⟨P0, P1, P2, P3, rfl, h0, h1, h2, h3⟩ := rG_rd h
 obtain ⟨PA0, Pc0, e0, hP0⟩ := lst_val h0
 subst e0
 obtain ⟨PA1, Pc1, e1, hP1⟩ := lst_val h1
 subst e1
 obtain ⟨PA2, Pc2, e2, hP2⟩ := lst_val h2
 subst e2
 obtain ⟨PA3, Pc3, e3, hP3⟩ := lst_val h3
 subst e3
 refine Sx.enter (args := [.agg #[.slice PA0 g.prog.length Pc0, .int .i64 g.a, .int .i64 g.pc, .slice PA1 g.wr.length Pc1, .slice PA2 g.lv.length Pc2, .int .i64 g.t.1, .int .i64 g.t.2.1, .bool g.t.2.2, .int .i64 g.pd, .int .i64 g.x.1, .int .i64 g.x.2.1, .bool g.x.2.2.1, .int .i64 g.x.2.2.2, .bool g.hl, .slice PA3 g.seen.length Pc3]]) Tryz.func38 rfl Tryz.ntmps38 rfl ?_
 refine Sx.C.seq (Sx.C.region ?_)
 refine Sx.G.b [.slice PA0 g.prog.length Pc0, .int .i64 g.a, .int .i64 g.pc, .slice PA1 g.wr.length Pc1, .slice PA2 g.lv.length Pc2, .int .i64 g.t.1, .int .i64 g.t.2.1, .bool g.t.2.2, .int .i64 g.pd, .int .i64 g.x.1, .int .i64 g.x.2.1, .bool g.x.2.2.1, .int .i64 g.x.2.2.2, .bool g.hl, .slice PA3 g.seen.length Pc3] (fun b1 => ?_)
 refine Sx.G.ar [.slice none 0 0, .int .i64 0, .int .i64 0, .slice none 0 0, .slice none 0 0, .int .i64 0, .int .i64 0, .bool false, .int .i64 0, .int .i64 0, .int .i64 0, .bool false, .int .i64 0, .bool false, .slice none 0 0] (fun b2 => ?_)
 refine Sx.G.nil (Sx.E.next (Sx.C.seq (Sx.C.region ?_)))
 refine Sx.G.fresh 55 (rPair rInt rInt) (by kernel_rfl) (fun w => by kernel_rfl) (fun b3 hi3 => ?_)
 refine Sx.G.p (.pointer (some ⟨b1, 0, none⟩)) ?_
 refine Sx.G.g (.slice PA0 g.prog.length Pc0) .m2 .m0 ?_
 refine Sx.G.apps 0 rfl g.prog (fun w S => St.old S h0) (List.nil_append _) g.prog.length (by simp) flat_P2 (.tmp 3) (.tmp 5) 32 2 16 rfl rfl (by kernel_rfl) (by kernel_rfl) rfl (by kernel_rfl) (by kernel_rfl) (by simp only [maxLen, List.length_nil, List.length_cons]; omega) (by simp only [List.length_nil, List.length_cons]; omega) (fun A4 c4 F4 hi4 hm4 => ?_)
 refine Sx.G.p (.pointer (some ⟨b1, 0, none⟩)) ?_
 refine Sx.G.s (.slice A4 g.prog.length c4) .a2 .a0 ?_
 refine Sx.G.nil (Sx.E.next (Sx.C.seq (Sx.C.region ?_)))
 refine Sx.G.fresh 108 (rPair rInt rInt) (by kernel_rfl) (fun w => by kernel_rfl) (fun b5 hi5 => ?_)
 refine Sx.G.p (.pointer (some ⟨b1, 3, none⟩)) ?_
 refine Sx.G.g (.slice PA1 g.wr.length Pc1) .m3 .m3 ?_
 refine Sx.G.apps 0 rfl g.wr (fun w S => St.old S h1) (List.nil_append _) g.wr.length (by simp) flat_P2 (.tmp 8) (.tmp 10) 33 2 16 rfl rfl (by kernel_rfl) (by kernel_rfl) rfl (by kernel_rfl) (by kernel_rfl) (by simp only [maxLen, List.length_nil, List.length_cons]; omega) (by simp only [List.length_nil, List.length_cons]; omega) (fun A6 c6 F6 hi6 hm6 => ?_)
 refine Sx.G.p (.pointer (some ⟨b1, 3, none⟩)) ?_
 refine Sx.G.s (.slice A6 g.wr.length c6) .a3 .a3 ?_
 refine Sx.G.nil (Sx.E.next (Sx.C.seq (Sx.C.region ?_)))
 refine Sx.G.fresh 108 (rPair rInt rInt) (by kernel_rfl) (fun w => by kernel_rfl) (fun b7 hi7 => ?_)
 refine Sx.G.p (.pointer (some ⟨b1, 4, none⟩)) ?_
 refine Sx.G.g (.slice PA2 g.lv.length Pc2) .m4 .m4 ?_
 refine Sx.G.apps 0 rfl g.lv (fun w S => St.old S h2) (List.nil_append _) g.lv.length (by simp) flat_P2 (.tmp 13) (.tmp 15) 33 2 16 rfl rfl (by kernel_rfl) (by kernel_rfl) rfl (by kernel_rfl) (by kernel_rfl) (by simp only [maxLen, List.length_nil, List.length_cons]; omega) (by simp only [List.length_nil, List.length_cons]; omega) (fun A8 c8 F8 hi8 hm8 => ?_)
 refine Sx.G.p (.pointer (some ⟨b1, 4, none⟩)) ?_
 refine Sx.G.s (.slice A8 g.lv.length c8) .a4 .a4 ?_
 refine Sx.G.nil (Sx.E.next (Sx.C.seq (Sx.C.region ?_)))
 refine Sx.G.fresh 3 rInt (by kernel_rfl) (fun w => by kernel_rfl) (fun b9 hi9 => ?_)
 refine Sx.G.p (.pointer (some ⟨b1, 14, none⟩)) ?_
 refine Sx.G.g (.slice PA3 g.seen.length Pc3) .m5 .m14 ?_
 refine Sx.G.apps 0 rfl g.seen (fun w S => St.old S h3) (List.nil_append _) g.seen.length (by simp) flat_int (.tmp 18) (.tmp 20) 28 1 8 rfl rfl (by kernel_rfl) (by kernel_rfl) rfl (by kernel_rfl) (by kernel_rfl) (by simp only [maxLen, List.length_nil, List.length_cons]; omega) (by simp only [List.length_nil, List.length_cons]; omega) (fun A10 c10 F10 hi10 hm10 => ?_)
 refine Sx.G.p (.pointer (some ⟨b1, 14, none⟩)) ?_
 refine Sx.G.s (.slice A10 g.seen.length c10) .a5 .a14 ?_
 refine Sx.G.nil (Sx.E.next (Sx.C.seq (Sx.C.region ?_)))
 refine Sx.G.lw .m5 ?_
 refine Sx.G.sw [.slice A4 g.prog.length c4, .int .i64 g.a, .int .i64 g.pc, .slice A6 g.wr.length c6, .slice A8 g.lv.length c8, .int .i64 g.t.1, .int .i64 g.t.2.1, .bool g.t.2.2, .int .i64 g.pd, .int .i64 g.x.1, .int .i64 g.x.2.1, .bool g.x.2.2.1, .int .i64 g.x.2.2.2, .bool g.hl, .slice A10 g.seen.length c10] .a4 ?_
 refine Sx.G.nil (Sx.E.next (Sx.C.ret ?_))
 refine Sx.E.retc b2 4 [.slice A4 g.prog.length c4, .int .i64 g.a, .int .i64 g.pc, .slice A6 g.wr.length c6, .slice A8 g.lv.length c8, .int .i64 g.t.1, .int .i64 g.t.2.1, .bool g.t.2.2, .int .i64 g.pd, .int .i64 g.x.1, .int .i64 g.x.2.1, .bool g.x.2.2.1, .int .i64 g.x.2.2.2, .bool g.hl, .slice A10 g.seen.length c10] rfl (by kernel_rfl) rfl (by kernel_rfl) (by kernel_rfl) (fun w S => ?_)
 obtain ⟨GW2, S⟩ := S.weak 2 rfl
 obtain ⟨GW1, S⟩ := S.weak 1 rfl
 obtain ⟨ho, hF⟩ := rG_shut (g := g) S 3 rfl 2 rfl 1 rfl 0 rfl (by decide) (by decide) (by decide) (by decide) (by decide) (by decide)
 exact ⟨_, _, rfl, ho, hF, S.below⟩
def newG (p : List (Int × Int)) : gT := { prog := p, a := 0, pc := 0, wr := Slots.nosL 4, lv := Slots.nosL 4, t := (0, 0, false), pd := 0, x := (0, 0, false, 0), hl := false, seen := [] }
theorem specx_new (p : List (Int × Int)) (A : Option Addr) (c : Nat) (w : World) (hp : p.length ≤ 1048576) (h : rdLst (rPair rInt rInt) w 0 w.heap.size p [.slice A p.length c]) : Calls Tryz.prog 45 #[.slice A p.length c] w (Gives rG w (newG p)) := by
 refine Sx.enter (args := [.slice A p.length c]) Tryz.func45 rfl Tryz.ntmps45 rfl ?_
 refine Sx.C.seq (Sx.C.region ?_)
 refine Sx.G.ar [.slice none 0 0, .int .i64 0, .int .i64 0, .slice none 0 0, .slice none 0 0, .int .i64 0, .int .i64 0, .bool false, .int .i64 0, .int .i64 0, .int .i64 0, .bool false, .int .i64 0, .bool false, .slice none 0 0] (fun b1 => ?_)
 refine Sx.G.nil (Sx.E.next (Sx.C.seq (Sx.C.region ?_)))
 refine Sx.G.fresh 55 (rPair rInt rInt) (by kernel_rfl) (fun w => by kernel_rfl) (fun b2 hi2 => ?_)
 refine Sx.G.p (.slice A p.length c) ?_
 refine Sx.G.apps 0 rfl p (fun w S => St.old (r := rLsw (rPair rInt rInt)) S h) (List.nil_append _) p.length (by simp) flat_P2 (.tmp 3) (.tmp 4) 32 2 16 rfl rfl (by kernel_rfl) (by kernel_rfl) rfl (by kernel_rfl) (by kernel_rfl) (by simp only [maxLen, List.length_nil, List.length_cons]; omega) (by simp only [List.length_nil, List.length_cons]; omega) (fun A3 c3 F3 hi3 hm3 => ?_)
 refine Sx.G.c 84 #[.int .i64 4] (fun w4 S => (Slots.spec_new 4 _).mono fun e w4' hp => ?_)
 obtain ⟨ad4, tc4, rfl, hc4, ho, hb⟩ := hp
 rw [← pcells_s] at ho
 refine ⟨_, _, rfl, (S.gotp (l := (Slots.nosL 4)) hb hc4 ho), ?_⟩
 clear S ho hb
 refine Sx.G.c 84 #[.int .i64 4] (fun w5 S => (Slots.spec_new 4 _).mono fun e w5' hp => ?_)
 obtain ⟨ad5, tc5, rfl, hc5, ho, hb⟩ := hp
 rw [← pcells_s] at ho
 refine ⟨_, _, rfl, (S.gotp (l := (Slots.nosL 4)) hb hc5 ho), ?_⟩
 clear S ho hb
 refine Sx.G.p (.agg #[.slice A3 p.length c3, .int .i64 0, .int .i64 0, .slice (some ad4) 4 tc4, .slice (some ad5) 4 tc5, .int .i64 0, .int .i64 0, .bool false, .int .i64 0, .int .i64 0, .int .i64 0, .bool false, .int .i64 0, .bool false, .slice none 0 0]) ?_
 refine Sx.G.sw [.slice A3 p.length c3, .int .i64 0, .int .i64 0, .slice (some ad4) 4 tc4, .slice (some ad5) 4 tc5, .int .i64 0, .int .i64 0, .bool false, .int .i64 0, .int .i64 0, .int .i64 0, .bool false, .int .i64 0, .bool false, .slice none 0 0] .a3 ?_
 refine Sx.G.nil (Sx.E.next (Sx.C.ret ?_))
 refine Sx.E.retc b1 3 [.slice A3 p.length c3, .int .i64 0, .int .i64 0, .slice (some ad4) 4 tc4, .slice (some ad5) 4 tc5, .int .i64 0, .int .i64 0, .bool false, .int .i64 0, .int .i64 0, .int .i64 0, .bool false, .int .i64 0, .bool false, .slice none 0 0] rfl (by kernel_rfl) rfl (by kernel_rfl) (by kernel_rfl) (fun w S => ?_)
 replace S := St.nil S 3 rInt
 obtain ⟨ho, hF⟩ := rG_shut (g := newG p) S 3 rfl 2 rfl 1 rfl 0 rfl (by decide) (by decide) (by decide) (by decide) (by decide) (by decide)
 exact ⟨_, _, rfl, ho, hF, S.below⟩
end Go.Proofs.YtldgadmpclgfhaaGreat.Guests
namespace Go.Proofs.YtldgadmpclgfhaaGreat.Kit
set_option maxHeartbeats 8000000
set_option maxRecDepth 100000
set_option maxRecDepth 100000
open Go.ChangeShapes Go.WideShapes Go.ChangeAt Go.RowKit Go.Deep
open Go.Proofs.YtldgadmpclgfhaaGreat.Base Go.Proofs.YtldgadmpclgfhaaGreat.Mem Go.Proofs.YtldgadmpclgfhaaGreat.Data Go.Proofs.YtldgadmpclgfhaaGreat.Stt Go.Proofs.YtldgadmpclgfhaaGreat.Guests Go.Proofs.YtldgadmpclgfhaaGreat.Ctls Go.Proofs.YtldgadmpclgfhaaGreat.Exits
set_option linter.unusedVariables false
set_option linter.unusedSimpArgs false
def rB : Rp bT := rVia (rPair ((rLsw (rLsw rInt))) (rPair ((rLsw wG)) (rPair ((rLst 3 rInt)) (rInt)))) (fun g => (g.mem, g.gs, g.outs, g.pd)) (fun k => ⟨k.1, k.2.1, k.2.2.1, k.2.2.2⟩)
theorem rB_own {w : World} {lo hi : Nat} {g : bT} {cs : List Value} {F : List Nat} (h : rB.own w lo hi g cs F) : ∃ P0 P1 P2 F0 F1 F2, cs = [P0, P1, P2, .int .i64 g.pd] ∧ F = F0 ++ (F1 ++ F2) ∧ ((rLsw (rLsw rInt))).own w lo hi g.mem [P0] F0 ∧ ((rLsw wG)).own w lo hi g.gs [P1] F1 ∧ ((rLst 3 rInt)).own w lo hi g.outs [P2] F2 := by
 obtain ⟨c0, s0, G0, H0, rfl, rfl, h0, g0⟩ := h
 obtain ⟨P0, rfl⟩ := lsw_own h0
 obtain ⟨c1, s1, G1, H1, rfl, rfl, h1, g1⟩ := g0
 obtain ⟨P1, rfl⟩ := lsw_own h1
 obtain ⟨c2, s2, G2, H2, rfl, rfl, h2, g2⟩ := g1
 obtain ⟨P2, rfl⟩ := lst_own h2
 obtain ⟨rfl, rfl⟩ := g2
 exact ⟨P0, P1, P2, G0, G1, G2, by simp, by simp, h0, h1, h2⟩
theorem rB_own_mk {w : World} {lo hi : Nat} {g : bT} {P0 P1 P2 : Value} {F0 F1 F2 : List Nat} (h0 : ((rLsw (rLsw rInt))).own w lo hi g.mem [P0] F0) (h1 : ((rLsw wG)).own w lo hi g.gs [P1] F1) (h2 : ((rLst 3 rInt)).own w lo hi g.outs [P2] F2) : rB.own w lo hi g [P0, P1, P2, .int .i64 g.pd] (F0 ++ (F1 ++ F2)) := by
 have h : rB.own w lo hi g [P0, P1, P2, .int .i64 g.pd] _ := ⟨[_], _, F0, _, rfl, rfl, h0, ⟨[_], _, F1, _, rfl, rfl, h1, ⟨[_], _, F2, _, rfl, rfl, h2, ⟨rfl, rfl⟩⟩⟩⟩
 simpa using h
theorem rB_open {w0 w : World} {lo hi : Nat} {g : bT} {cs : List Value} {F : List Nat} {T : List Res} (S : St w0 w (ow rB lo hi g cs F :: T)) : ∃ P0 P1 P2 F0 F1 F2, cs = [P0, P1, P2, .int .i64 g.pd] ∧ St w0 w (ow (rLsw (rLsw rInt)) lo hi g.mem [P0] F0 :: ow (rLsw wG) lo hi g.gs [P1] F1 :: ow (rLst 3 rInt) lo hi g.outs [P2] F2 :: T) := by
 obtain ⟨hown, hnd⟩ := S.at_ 0 rfl
 have hl := S.lo 0 _ rfl
 have hh := S.hi 0 _ rfl
 obtain ⟨P0, P1, P2, F0, F1, F2, rfl, rfl, q0, q1, q2⟩ := rB_own hown
 obtain ⟨m0, n0, d0⟩ := List.nodup_append.1 hnd
 obtain ⟨m1, n1, d1⟩ := List.nodup_append.1 n0
 have m2 := n1
 refine ⟨P0, P1, P2, F0, F1, F2, rfl, S.parts [ow (rLsw (rLsw rInt)) lo hi g.mem [P0] F0, ow (rLsw wG) lo hi g.gs [P1] F1, ow (rLst 3 rInt) lo hi g.outs [P2] F2] ?_ ?_⟩
 ·
  intro s hs
  simp only [List.mem_cons, List.not_mem_nil, or_false] at hs
  rcases hs with rfl | rfl | rfl
  ·
   exact ⟨⟨q0, m0⟩, fun k hk => ⟨by simp [hk.1], hk.2⟩, hl, hh⟩
  ·
   exact ⟨⟨q1, m1⟩, fun k hk => ⟨by simp [hk.1], hk.2⟩, hl, hh⟩
  ·
   exact ⟨⟨q2, m2⟩, fun k hk => ⟨by simp [hk.1], hk.2⟩, hl, hh⟩
 ·
  simp only [List.pairwise_cons, List.mem_cons, List.not_mem_nil, or_false, forall_eq_or_imp, forall_eq, List.Pairwise.nil, and_true, false_implies, implies_true, ow]
  exact ⟨⟨(fun k hk hk' => d0 k hk.1 k (by simp [hk'.1]) rfl), (fun k hk hk' => d0 k hk.1 k (by simp [hk'.1]) rfl)⟩, (fun k hk hk' => d1 k hk.1 k (by simp [hk'.1]) rfl)⟩
theorem rB_shut {w0 w : World} {g : bT} {L : List Res} {P0 P1 P2 : Value} {F0 F1 F2 : List Nat} {l0 k0 l1 k1 l2 k2 : Nat} (S : St w0 w L) (i0 : Nat) (e0 : L[i0]? = some (ow (rLsw (rLsw rInt)) l0 k0 g.mem [P0] F0)) (i1 : Nat) (e1 : L[i1]? = some (ow (rLsw wG) l1 k1 g.gs [P1] F1)) (i2 : Nat) (e2 : L[i2]? = some (ow (rLst 3 rInt) l2 k2 g.outs [P2] F2)) (n01 : i0 ≠ i1) (n02 : i0 ≠ i2) (n12 : i1 ≠ i2) : rB.own w w0.heap.size w.heap.size g [P0, P1, P2, .int .i64 g.pd] (F0 ++ (F1 ++ F2)) ∧ (F0 ++ (F1 ++ F2)).Nodup := by
 refine ⟨rB_own_mk (S.own i0 e0) (S.own i1 e1) (S.own i2 e2), ?_⟩
 exact (nodup_app (S.nodup i0 e0) (nodup_app (S.nodup i1 e1) (S.nodup i2 e2) (fun k hk => (S.disj i1 i2 e1 e2 n12 k hk))) (fun k hk => (not_app (S.disj i0 i1 e0 e1 n01 k hk) (S.disj i0 i2 e0 e2 n02 k hk))))
theorem weak_G {w : World} {x : gT} (e : Ending) (w' : World) (h : Gives rG w x e w') : Gives wG w x e w' := by
 obtain ⟨cs, F, rfl, ho, hF, hb⟩ := h
 obtain ⟨P0, P1, P2, P3, F0, F1, F2, F3, rfl, S⟩ := rG_open (St.got (St.start w) hb ho hF)
 obtain ⟨G0, S⟩ := S.weak 0 rfl
 obtain ⟨G3, S⟩ := S.weak 3 rfl
 obtain ⟨ho, hF⟩ := wG_shut (g := x) S 0 rfl 1 rfl 2 rfl 3 rfl (by decide) (by decide) (by decide) (by decide) (by decide) (by decide)
 exact ⟨_, _, rfl, ho, hF, S.below⟩
theorem weak_B {w : World} {x : bT} (e : Ending) (w' : World) (h : Gives rB w x e w') : Gives wB w x e w' := by
 obtain ⟨cs, F, rfl, ho, hF, hb⟩ := h
 obtain ⟨P0, P1, P2, F0, F1, F2, rfl, S⟩ := rB_open (St.got (St.start w) hb ho hF)
 obtain ⟨G2, S⟩ := S.weak 2 rfl
 obtain ⟨ho, hF⟩ := wB_shut (g := x) S 0 rfl 1 rfl 2 rfl (by decide) (by decide) (by decide)
 exact ⟨_, _, rfl, ho, hF, S.below⟩
theorem cap_G {g : gT} (h : wG.cap g) : rG.cap g := h
theorem rd_G {w : World} {lo hi : Nat} {g : gT} {cs : List Value} (h : wG.rd w lo hi g cs) : rG.rd w lo hi g cs := h
end Go.Proofs.YtldgadmpclgfhaaGreat.Kit
namespace Go.Proofs.YtldgadmpclgfhaaGreat.Kit
set_option maxHeartbeats 8000000
set_option maxRecDepth 100000
set_option maxRecDepth 100000
open Go.ChangeShapes Go.WideShapes Go.ChangeAt Go.RowKit Go.Deep
open Go.Proofs.YtldgadmpclgfhaaGreat.Base Go.Proofs.YtldgadmpclgfhaaGreat.Mem Go.Proofs.YtldgadmpclgfhaaGreat.Data Go.Proofs.YtldgadmpclgfhaaGreat.Stt Go.Proofs.YtldgadmpclgfhaaGreat.Guests Go.Proofs.YtldgadmpclgfhaaGreat.Ctls Go.Proofs.YtldgadmpclgfhaaGreat.Exits
set_option linter.unusedVariables false
set_option linter.unusedSimpArgs false
theorem laid : laidOutB Tryz.prog = true := by kernel_rfl
end Go.Proofs.YtldgadmpclgfhaaGreat.Kit
namespace Go.Proofs.YtldgadmpclgfhaaGreat.Addrs
set_option maxHeartbeats 8000000
set_option maxRecDepth 100000
set_option maxRecDepth 100000
open Go.ChangeShapes Go.WideShapes Go.ChangeAt Go.RowKit
open Go.Proofs.YtldgadmpclgfhaaGreat.Base
set_option linter.unusedVariables false
theorem range {x : Int} (h : (Lit.int .i64 x).wf = true) : -9223372036854775808 ≤ x ∧ x ≤ 9223372036854775807 := by
 have hm : IntKind.i64.min = -9223372036854775808 := by decide
 rw [← hm]; simpa [Lit.wf] using h
end Go.Proofs.YtldgadmpclgfhaaGreat.Addrs
namespace Go.Proofs.YtldgadmpclgfhaaGreat.Inss
set_option maxHeartbeats 8000000
set_option maxRecDepth 100000
set_option maxRecDepth 100000
open Go.ChangeShapes Go.WideShapes Go.ChangeAt Go.RowKit
open Go.Proofs.YtldgadmpclgfhaaGreat.Base Go.Proofs.YtldgadmpclgfhaaGreat.Mem Go.Proofs.YtldgadmpclgfhaaGreat.Data Go.Proofs.YtldgadmpclgfhaaGreat.Addrs Go.Proofs.YtldgadmpclgfhaaGreat.Rights
set_option linter.unusedVariables false
set_option linter.unusedSimpArgs false
def insOk (s : JT) : Bool :=
 if s.1 = 1 ∨ s.1 = 2 ∨ s.1 = 5 ∨ s.1 = 6 then inB s.2 0 99
 else if s.1 = 3 ∨ s.1 = 4 then inB s.2 0 15
 else if s.1 = 7 then s.2 == 0
 else if s.1 = 8 then inB s.2 0 11
 else false
def progOk (l : List JT) : Bool := l.all insOk && inB l.length 1 12
theorem op_cases (o : Int) : o = 1 ∨ o = 2 ∨ o = 5 ∨ o = 6 ∨ o = 3 ∨ o = 4 ∨ o = 7 ∨ o = 8 ∨ ((o == 1) = false ∧ (o == 2) = false ∧ (o == 3) = false ∧ (o == 4) = false ∧ (o == 5) = false ∧ (o == 6) = false ∧ (o == 7) = false ∧ (o == 8) = false) := by
 simp only [beq_eq_false_iff_ne, ne_eq]
 omega
theorem insOk_else {o x : Int} (h : (o == 1) = false ∧ (o == 2) = false ∧ (o == 3) = false ∧ (o == 4) = false ∧ (o == 5) = false ∧ (o == 6) = false ∧ (o == 7) = false ∧ (o == 8) = false) : insOk (o, x) = false := by
 simp only [beq_eq_false_iff_ne, ne_eq] at h
 simp [insOk, h]
theorem spec_insOk (o x : Int) (w : World) :
  Calls Tryz.prog 112 #[.agg #[.int .i64 o, .int .i64 x]] w fun e w' => e = .returned (.bool (insOk (o, x))) ∧ Below w.heap.size w w' := by
 have K1 := Lib.hid (fun V : World => spec_in x 0 99 V)
 have K2 := Lib.hid (fun V : World => spec_in x 0 15 V)
 have K3 := Lib.hid (fun V : World => spec_in x 0 11 V)
 have HB := Lib.hid ((Below.refl w.heap.size w).alloc (Nat.le_refl _) (.cells #[.int .i64 o, .int .i64 x] 55))
 rcases op_cases o with rfl | rfl | rfl | rfl | rfl | rfl | rfl | rfl | h
 iterate 4
  ·
   first | rw [show insOk (1, x) = inB x 0 99 from rfl] | rw [show insOk (2, x) = inB x 0 99 from rfl] | rw [show insOk (5, x) = inB x 0 99 from rfl] | rw [show insOk (6, x) = inB x 0 99 from rfl]
   go_enter Tryz.func112, Tryz.ntmps112
   go_wp2_with fail
   refine (K1.out _).mono ?_
   rintro e w' ⟨rfl, rfl⟩
   go_wp2_with fail
   go_ret
   exact ⟨rfl, HB.out⟩
 iterate 2
  ·
   first | rw [show insOk (3, x) = inB x 0 15 from rfl] | rw [show insOk (4, x) = inB x 0 15 from rfl]
   go_enter Tryz.func112, Tryz.ntmps112
   go_wp2_with fail
   refine (K2.out _).mono ?_
   rintro e w' ⟨rfl, rfl⟩
   go_wp2_with fail
   go_ret
   exact ⟨rfl, HB.out⟩
 ·
  have HV := Lib.hid (show insOk (7, x) = (x == 0) from rfl)
  go_enter Tryz.func112, Tryz.ntmps112
  go_wp2_with fail
  go_ret
  exact ⟨by rw [HV.out]; rfl, HB.out⟩
 ·
  have HV := Lib.hid (show insOk (8, x) = inB x 0 11 from rfl)
  go_enter Tryz.func112, Tryz.ntmps112
  go_wp2_with fail
  refine (K3.out _).mono ?_
  rintro e w' ⟨rfl, rfl⟩
  go_wp2_with fail
  go_ret
  exact ⟨by rw [HV.out]; rfl, HB.out⟩
 ·
  have HV := Lib.hid (insOk_else (x := x) h)
  obtain ⟨h1, h2, h3, h4, h5, h6, h7, h8⟩ := h
  go_enter Tryz.func112, Tryz.ntmps112
  go_wp2_with fail
  go_ret
  exact ⟨by rw [HV.out]; rfl, HB.out⟩
theorem progOk_yes {l : List JT} (h : ∀ (j : Nat) (hj : j < l.length), insOk l[j] = true) : progOk l = inB l.length 1 12 := by
 unfold progOk
 rw [show l.all insOk = true from List.all_eq_true.2 (fun s hs => by obtain ⟨j, hj, rfl⟩ := List.getElem_of_mem hs; exact h j hj), Bool.true_and]
theorem progOk_no {l : List JT} {k : Nat} (hk : k < l.length) (h : insOk l[k] = false) : progOk l = false := by
 unfold progOk
 rw [show l.all insOk = false from List.all_eq_false.2 ⟨l[k], List.getElem_mem hk, by simp [h]⟩, Bool.false_and]
theorem spec_progOk (A : Option Addr) (n c lo : Nat) (l : List JT) (w : World) (hn : n ≤ 1048576) (hl : l.length = n) (h1 : Lies w lo w.heap.size A (jcells l)) :
  Calls Tryz.prog 92 #[.slice A n c] w fun e w' => e = .returned (.bool (progOk l)) ∧ Below w.heap.size w w' := by
 have H1 := Lib.hid h1
 have HL := Lib.hid hl
 clear h1 hl
 go_enter Tryz.func92, Tryz.ntmps92
 go_wp2
 go_loopw [3] (fun i wr => ∃ (k : Nat), k ≤ n ∧ i = .int .i64 k ∧ (∀ (j : Nat) (hj : j < l.length), j < k → insOk l[j] = true) ∧ Below w.heap.size w wr) (fun i _ => n - (intOf i).toNat)
 case atStart => exact ⟨0, Nat.zero_le _, rfl, fun j hj h => absurd h (Nat.not_lt_zero _), Below.refl _ _⟩
 case round =>
  obtain ⟨k, hk, rfl, hall, hb⟩ := hrel
  have HA := Lib.hid hall
  have HB := Lib.hid hb
  clear hall
  by_cases hlt : k < n
  ·
   have hkl : k < l.length := by have := HL.out; omega
   obtain ⟨b, off, rfl, _, hbw, c0, c1⟩ := j_at H1.out k hkl
   have d0 := (hb.cell (p := ⟨b, off + k * 2, none⟩) hbw).trans c0
   have d1 := (hb.cell (p := ⟨b, off + k * 2 + 1, none⟩) hbw).trans c1
   have hj0 : (0 : Int) ≤ (k : Int) := Int.natCast_nonneg _
   have hj1 : (k : Int) < (n : Int) := by omega
   have hcall := spec_insOk l[k].1 l[k].2 wr
   obtain ⟨v, hv⟩ : ∃ v, insOk l[k] = v := ⟨_, rfl⟩
   rw [show insOk (l[k].1, l[k].2) = v from hv] at hcall
   have HCALL := Lib.hid hcall
   have HV := Lib.hid hv
   clear hcall hv c0 c1 hb
   generalize l[k].1 = o at d0 HCALL
   generalize l[k].2 = x at d1 HCALL
   cases v
   ·
    go_wp2_with fail
    refine HCALL.out.mono ?_
    rintro e w1 ⟨rfl, hb1⟩
    have HB1 := Lib.hid (btr HB.out hb1)
    clear hb1
    go_wp2_with fail
    go_ret
    exact ⟨by rw [progOk_no hkl HV.out]; rfl, HB1.out⟩
   ·
    go_wp2_with fail
    refine HCALL.out.mono ?_
    rintro e w1 ⟨rfl, hb1⟩
    have HB1 := Lib.hid (btr HB.out hb1)
    clear hb1
    go_wp2_with fail
    go_roundw
    case rel =>
     refine ⟨k + 1, by omega, by go_num, fun j hj h => ?_, HB1.out⟩
     rcases Nat.lt_succ_iff_lt_or_eq.1 h with h2 | rfl
     ·
      exact HA.out j hj h2
     ·
      exact HV.out
    case measure => simp [intOf]; omega
  ·
   obtain rfl : k = n := by omega
   have hv := progOk_yes (l := l) (fun j hj => HA.out j hj (by have := HL.out; omega))
   rw [HL.out] at hv
   have HV := Lib.hid hv
   have hcall := fun V : World => spec_in (k : Int) 1 12 V
   have HCALL := Lib.hid hcall
   clear hv hb hcall
   go_wp2_with fail
   refine (HCALL.out _).mono ?_
   rintro e w' ⟨rfl, rfl⟩
   go_wp2_with fail
   go_ret
   exact ⟨by rw [HV.out]; rfl, HB.out⟩
end Go.Proofs.YtldgadmpclgfhaaGreat.Inss
namespace Go.Proofs.YtldgadmpclgfhaaGreat.Slots
set_option maxHeartbeats 8000000
set_option maxRecDepth 100000
set_option maxRecDepth 100000
open Go.ChangeShapes Go.WideShapes Go.ChangeAt Go.RowKit
open Go.Proofs.YtldgadmpclgfhaaGreat.Base Go.Proofs.YtldgadmpclgfhaaGreat.Mem Go.Proofs.YtldgadmpclgfhaaGreat.Ints
theorem okS_cases2 (p r pages : Int) (hp : (Lit.int .i64 pages).wf = true) : (p = -1 ∧ r = 0 ∧ okS p r pages = true) ∨ (p = -1 ∧ r ≠ 0 ∧ inB p 0 (IntKind.i64.wrap (pages - 1)) = false ∧ okS p r pages = false) ∨
  (p ≠ -1 ∧ inB p 0 (IntKind.i64.wrap (pages - 1)) = false ∧ okS p r pages = false) ∨ (p ≠ -1 ∧ inB p 0 (IntKind.i64.wrap (pages - 1)) = true ∧ ¬ 0 < pages ∧ okS p r pages = false) ∨
  (p ≠ -1 ∧ inB p 0 (IntKind.i64.wrap (pages - 1)) = true ∧ 0 < pages ∧ inB r 1 3 = false ∧ okS p r pages = false) ∨ (p ≠ -1 ∧ inB p 0 (IntKind.i64.wrap (pages - 1)) = true ∧ 0 < pages ∧ inB r 1 3 = true ∧ okS p r pages = true) := by
 simp [Lit.wf] at hp
 have hp' : -9223372036854775808 ≤ pages ∧ pages ≤ 9223372036854775807 := hp
 rw [IntKind.wrap_i64]
 simp only [okS, decide_eq_true_eq, decide_eq_false_iff_not, inB_iff, inB_false]
 omega
theorem spec_okS (p r pages : Int) (w : World) (hp : (Lit.int .i64 pages).wf = true) :
  Calls Tryz.prog 113 #[.agg #[.int .i64 p, .int .i64 r], .int .i64 pages] w (OkPost w (okS p r pages)) := by
 obtain ⟨k0, k1, hW, hsz⟩ := boxed w (.int .i64 p) (.int .i64 r) 108
 have q1 := fun V : World => spec_in p 0 (IntKind.i64.wrap (pages - 1)) V
 have q2 := fun V : World => spec_in r 1 3 V
 rcases okS_cases2 p r pages hp with ⟨rfl, rfl, h⟩ | ⟨rfl, h0, h1, h⟩ | ⟨h0, h1, h⟩ | ⟨h0, h1, h2, h⟩ | ⟨h0, h1, h2, h3, h⟩ | ⟨h0, h1, h2, h3, h⟩
 ·
  have HH := Lib.hid h
  clear h q1 q2 hp
  go_enter Tryz.func113, Tryz.ntmps113
  go_wp2_with fail
  generalize w.alloc (.cells #[.int .i64 (-1), .int .i64 0] 108) = W at k0 k1 hW hsz ⊢
  refine Ord.wp_region_ord (fun w' => w'.cell? ⟨w.heap.size, 0, none⟩ = some (.int .i64 (-1)) ∧ w'.cell? ⟨w.heap.size, 1, none⟩ = some (.int .i64 0)) [(0, true), (1, false), (2, true), (3, true), (4, true), (5, true), (6, true), (7, true), (8, false), (9, true), (10, true), (11, true), (12, true), (13, true), (14, true), (15, true), (16, false), (17, true), (18, true), (19, true)] (by kernel_rfl) (by kernel_rfl) rfl (by kernel_rfl) ⟨k0, k1⟩ ?_
  simp only [Ord.ordOps, List.getElem?_toArray, List.getElem?_cons_zero, List.getElem?_cons_succ]
  repeat (first
   | (refine Ord.ord_plain (v := ?_) rfl (fun w' hS => ?_) ?_; rotate_left; (focus ((try dsimp only at hS); go_simp; first | done | with_reducible rfl)); simp only [Act.put, List.setIfInBounds_toArray, List.set_cons_zero, List.set_cons_succ])
   | (refine Ord.ord_skip (by rfl) ?_; simp only [Act.put, List.setIfInBounds_toArray, List.set_cons_zero, List.set_cons_succ])
   | (refine Ord.ord_take (v := ?_) (by rfl) (fun w' hS => ?_) ?_; rotate_left; (focus ((try dsimp only at hS); go_simp; first | done | with_reducible rfl)); simp only [Act.put, List.setIfInBounds_toArray, List.set_cons_zero, List.set_cons_succ]))
  refine Ord.ord_call (fun K hK => ?_)
  go_simp
  go_wp2_with (go_at_call 106; refine (spec_no _).mono ?_; rintro e w1 ⟨rfl, hb1⟩)
  refine hK.out _ _ (⟨(hb1.cell (p := ⟨w.heap.size, 0, none⟩) hsz).trans k0, (hb1.cell (p := ⟨w.heap.size, 1, none⟩) hsz).trans k1⟩) ?_
  clear hK K
  repeat (first
   | (refine Ord.ord_plain (v := ?_) rfl (fun w' hS => ?_) ?_; rotate_left; (focus ((try dsimp only at hS); go_simp; first | done | with_reducible rfl)); simp only [Act.put, List.setIfInBounds_toArray, List.set_cons_zero, List.set_cons_succ])
   | (refine Ord.ord_skip (by rfl) ?_; simp only [Act.put, List.setIfInBounds_toArray, List.set_cons_zero, List.set_cons_succ])
   | (refine Ord.ord_take (v := ?_) (by rfl) (fun w' hS => ?_) ?_; rotate_left; (focus ((try dsimp only at hS); go_simp; first | done | with_reducible rfl)); simp only [Act.put, List.setIfInBounds_toArray, List.set_cons_zero, List.set_cons_succ]))
  refine Ord.ord_call (fun K hK => ?_)
  go_simp
  refine hK.out _ _ (⟨(hb1.cell (p := ⟨w.heap.size, 0, none⟩) hsz).trans k0, (hb1.cell (p := ⟨w.heap.size, 1, none⟩) hsz).trans k1⟩) ?_
  clear hK K
  repeat (first
   | (refine Ord.ord_plain (v := ?_) rfl (fun w' hS => ?_) ?_; rotate_left; (focus ((try dsimp only at hS); go_simp; first | done | with_reducible rfl)); simp only [Act.put, List.setIfInBounds_toArray, List.set_cons_zero, List.set_cons_succ])
   | (refine Ord.ord_skip (by rfl) ?_; simp only [Act.put, List.setIfInBounds_toArray, List.set_cons_zero, List.set_cons_succ])
   | (refine Ord.ord_take (v := ?_) (by rfl) (fun w' hS => ?_) ?_; rotate_left; (focus ((try dsimp only at hS); go_simp; first | done | with_reducible rfl)); simp only [Act.put, List.setIfInBounds_toArray, List.set_cons_zero, List.set_cons_succ]))
  refine Ord.ord_call (fun K hK => ?_)
  go_simp
  refine hK.out _ _ (⟨(hb1.cell (p := ⟨w.heap.size, 0, none⟩) hsz).trans k0, (hb1.cell (p := ⟨w.heap.size, 1, none⟩) hsz).trans k1⟩) ?_
  clear hK K
  repeat (first
   | (refine Ord.ord_plain (v := ?_) rfl (fun w' hS => ?_) ?_; rotate_left; (focus ((try dsimp only at hS); go_simp; first | done | with_reducible rfl)); simp only [Act.put, List.setIfInBounds_toArray, List.set_cons_zero, List.set_cons_succ])
   | (refine Ord.ord_skip (by rfl) ?_; simp only [Act.put, List.setIfInBounds_toArray, List.set_cons_zero, List.set_cons_succ])
   | (refine Ord.ord_take (v := ?_) (by rfl) (fun w' hS => ?_) ?_; rotate_left; (focus ((try dsimp only at hS); go_simp; first | done | with_reducible rfl)); simp only [Act.put, List.setIfInBounds_toArray, List.set_cons_zero, List.set_cons_succ]))
  refine Ord.ord_nil ?_
  have hbw : Below w.heap.size w w1 := hW.drew.trans (hb1.mono hW.size)
  clear hb1 k0 k1
  go_wp2_with fail
  go_ret
  exact ⟨by rw [HH.out]; rfl, hbw⟩
 ·
  have HH := Lib.hid h
  have h0' : (r == 0) = false := by simpa using h0
  rw [h1] at q1
  have K1 := Lib.hid q1
  clear h q1 q2 hp h0 h1
  go_enter Tryz.func113, Tryz.ntmps113
  go_wp2_with fail
  generalize w.alloc (.cells #[.int .i64 (-1), .int .i64 r] 108) = W at k0 k1 hW hsz ⊢
  refine Ord.wp_region_ord (fun w' => w'.cell? ⟨w.heap.size, 0, none⟩ = some (.int .i64 (-1)) ∧ w'.cell? ⟨w.heap.size, 1, none⟩ = some (.int .i64 r)) [(0, true), (1, false), (2, true), (3, true), (4, true), (5, true), (6, true), (7, true), (8, false), (9, true), (10, true), (11, true), (12, true), (13, true), (14, true), (15, true), (16, false), (17, true), (18, true), (19, true)] (by kernel_rfl) (by kernel_rfl) rfl (by kernel_rfl) ⟨k0, k1⟩ ?_
  simp only [Ord.ordOps, List.getElem?_toArray, List.getElem?_cons_zero, List.getElem?_cons_succ]
  repeat (first
   | (refine Ord.ord_plain (v := ?_) rfl (fun w' hS => ?_) ?_; rotate_left; (focus ((try dsimp only at hS); go_simp; first | done | with_reducible rfl)); simp only [Act.put, List.setIfInBounds_toArray, List.set_cons_zero, List.set_cons_succ])
   | (refine Ord.ord_skip (by rfl) ?_; simp only [Act.put, List.setIfInBounds_toArray, List.set_cons_zero, List.set_cons_succ])
   | (refine Ord.ord_take (v := ?_) (by rfl) (fun w' hS => ?_) ?_; rotate_left; (focus ((try dsimp only at hS); go_simp; first | done | with_reducible rfl)); simp only [Act.put, List.setIfInBounds_toArray, List.set_cons_zero, List.set_cons_succ]))
  refine Ord.ord_call (fun K hK => ?_)
  go_simp
  go_wp2_with (go_at_call 106; refine (spec_no _).mono ?_; rintro e w1 ⟨rfl, hb1⟩)
  refine hK.out _ _ (⟨(hb1.cell (p := ⟨w.heap.size, 0, none⟩) hsz).trans k0, (hb1.cell (p := ⟨w.heap.size, 1, none⟩) hsz).trans k1⟩) ?_
  clear hK K
  repeat (first
   | (refine Ord.ord_plain (v := ?_) rfl (fun w' hS => ?_) ?_; rotate_left; (focus ((try dsimp only at hS); go_simp; first | done | with_reducible rfl)); simp only [Act.put, List.setIfInBounds_toArray, List.set_cons_zero, List.set_cons_succ])
   | (refine Ord.ord_skip (by rfl) ?_; simp only [Act.put, List.setIfInBounds_toArray, List.set_cons_zero, List.set_cons_succ])
   | (refine Ord.ord_take (v := ?_) (by rfl) (fun w' hS => ?_) ?_; rotate_left; (focus ((try dsimp only at hS); go_simp; first | done | with_reducible rfl)); simp only [Act.put, List.setIfInBounds_toArray, List.set_cons_zero, List.set_cons_succ]))
  refine Ord.ord_call (fun K hK => ?_)
  go_simp
  go_wp2_with (go_at_call 37; refine (K1.out _).mono ?_; rintro e w' ⟨rfl, rfl⟩)
  refine hK.out _ _ (⟨(hb1.cell (p := ⟨w.heap.size, 0, none⟩) hsz).trans k0, (hb1.cell (p := ⟨w.heap.size, 1, none⟩) hsz).trans k1⟩) ?_
  clear hK K
  repeat (first
   | (refine Ord.ord_plain (v := ?_) rfl (fun w' hS => ?_) ?_; rotate_left; (focus ((try dsimp only at hS); go_simp; first | done | with_reducible rfl)); simp only [Act.put, List.setIfInBounds_toArray, List.set_cons_zero, List.set_cons_succ])
   | (refine Ord.ord_skip (by rfl) ?_; simp only [Act.put, List.setIfInBounds_toArray, List.set_cons_zero, List.set_cons_succ])
   | (refine Ord.ord_take (v := ?_) (by rfl) (fun w' hS => ?_) ?_; rotate_left; (focus ((try dsimp only at hS); go_simp; first | done | with_reducible rfl)); simp only [Act.put, List.setIfInBounds_toArray, List.set_cons_zero, List.set_cons_succ]))
  refine Ord.ord_call (fun K hK => ?_)
  go_simp
  refine hK.out _ _ (⟨(hb1.cell (p := ⟨w.heap.size, 0, none⟩) hsz).trans k0, (hb1.cell (p := ⟨w.heap.size, 1, none⟩) hsz).trans k1⟩) ?_
  clear hK K
  repeat (first
   | (refine Ord.ord_plain (v := ?_) rfl (fun w' hS => ?_) ?_; rotate_left; (focus ((try dsimp only at hS); go_simp; first | done | with_reducible rfl)); simp only [Act.put, List.setIfInBounds_toArray, List.set_cons_zero, List.set_cons_succ])
   | (refine Ord.ord_skip (by rfl) ?_; simp only [Act.put, List.setIfInBounds_toArray, List.set_cons_zero, List.set_cons_succ])
   | (refine Ord.ord_take (v := ?_) (by rfl) (fun w' hS => ?_) ?_; rotate_left; (focus ((try dsimp only at hS); go_simp; first | done | with_reducible rfl)); simp only [Act.put, List.setIfInBounds_toArray, List.set_cons_zero, List.set_cons_succ]))
  refine Ord.ord_nil ?_
  have hbw : Below w.heap.size w w1 := hW.drew.trans (hb1.mono hW.size)
  clear hb1 k0 k1
  go_wp2_with fail
  go_ret
  exact ⟨by rw [HH.out]; rfl, hbw⟩
 ·
  have HH := Lib.hid h
  have h0' : (p == -1) = false := by simpa using h0
  rw [h1] at q1
  have K1 := Lib.hid q1
  clear h q1 q2 hp h0 h1
  go_enter Tryz.func113, Tryz.ntmps113
  go_wp2_with fail
  generalize w.alloc (.cells #[.int .i64 p, .int .i64 r] 108) = W at k0 k1 hW hsz ⊢
  refine Ord.wp_region_ord (fun w' => w'.cell? ⟨w.heap.size, 0, none⟩ = some (.int .i64 p) ∧ w'.cell? ⟨w.heap.size, 1, none⟩ = some (.int .i64 r)) [(0, true), (1, false), (2, true), (3, true), (4, true), (5, true), (6, true), (7, true), (8, false), (9, true), (10, true), (11, true), (12, true), (13, true), (14, true), (15, true), (16, false), (17, true), (18, true), (19, true)] (by kernel_rfl) (by kernel_rfl) rfl (by kernel_rfl) ⟨k0, k1⟩ ?_
  simp only [Ord.ordOps, List.getElem?_toArray, List.getElem?_cons_zero, List.getElem?_cons_succ]
  repeat (first
   | (refine Ord.ord_plain (v := ?_) rfl (fun w' hS => ?_) ?_; rotate_left; (focus ((try dsimp only at hS); go_simp; first | done | with_reducible rfl)); simp only [Act.put, List.setIfInBounds_toArray, List.set_cons_zero, List.set_cons_succ])
   | (refine Ord.ord_skip (by rfl) ?_; simp only [Act.put, List.setIfInBounds_toArray, List.set_cons_zero, List.set_cons_succ])
   | (refine Ord.ord_take (v := ?_) (by rfl) (fun w' hS => ?_) ?_; rotate_left; (focus ((try dsimp only at hS); go_simp; first | done | with_reducible rfl)); simp only [Act.put, List.setIfInBounds_toArray, List.set_cons_zero, List.set_cons_succ]))
  refine Ord.ord_call (fun K hK => ?_)
  go_simp
  go_wp2_with (go_at_call 106; refine (spec_no _).mono ?_; rintro e w1 ⟨rfl, hb1⟩)
  refine hK.out _ _ (⟨(hb1.cell (p := ⟨w.heap.size, 0, none⟩) hsz).trans k0, (hb1.cell (p := ⟨w.heap.size, 1, none⟩) hsz).trans k1⟩) ?_
  clear hK K
  repeat (first
   | (refine Ord.ord_plain (v := ?_) rfl (fun w' hS => ?_) ?_; rotate_left; (focus ((try dsimp only at hS); go_simp; first | done | with_reducible rfl)); simp only [Act.put, List.setIfInBounds_toArray, List.set_cons_zero, List.set_cons_succ])
   | (refine Ord.ord_skip (by rfl) ?_; simp only [Act.put, List.setIfInBounds_toArray, List.set_cons_zero, List.set_cons_succ])
   | (refine Ord.ord_take (v := ?_) (by rfl) (fun w' hS => ?_) ?_; rotate_left; (focus ((try dsimp only at hS); go_simp; first | done | with_reducible rfl)); simp only [Act.put, List.setIfInBounds_toArray, List.set_cons_zero, List.set_cons_succ]))
  refine Ord.ord_call (fun K hK => ?_)
  go_simp
  go_wp2_with (go_at_call 37; refine (K1.out _).mono ?_; rintro e w' ⟨rfl, rfl⟩)
  refine hK.out _ _ (⟨(hb1.cell (p := ⟨w.heap.size, 0, none⟩) hsz).trans k0, (hb1.cell (p := ⟨w.heap.size, 1, none⟩) hsz).trans k1⟩) ?_
  clear hK K
  repeat (first
   | (refine Ord.ord_plain (v := ?_) rfl (fun w' hS => ?_) ?_; rotate_left; (focus ((try dsimp only at hS); go_simp; first | done | with_reducible rfl)); simp only [Act.put, List.setIfInBounds_toArray, List.set_cons_zero, List.set_cons_succ])
   | (refine Ord.ord_skip (by rfl) ?_; simp only [Act.put, List.setIfInBounds_toArray, List.set_cons_zero, List.set_cons_succ])
   | (refine Ord.ord_take (v := ?_) (by rfl) (fun w' hS => ?_) ?_; rotate_left; (focus ((try dsimp only at hS); go_simp; first | done | with_reducible rfl)); simp only [Act.put, List.setIfInBounds_toArray, List.set_cons_zero, List.set_cons_succ]))
  refine Ord.ord_call (fun K hK => ?_)
  go_simp
  refine hK.out _ _ (⟨(hb1.cell (p := ⟨w.heap.size, 0, none⟩) hsz).trans k0, (hb1.cell (p := ⟨w.heap.size, 1, none⟩) hsz).trans k1⟩) ?_
  clear hK K
  repeat (first
   | (refine Ord.ord_plain (v := ?_) rfl (fun w' hS => ?_) ?_; rotate_left; (focus ((try dsimp only at hS); go_simp; first | done | with_reducible rfl)); simp only [Act.put, List.setIfInBounds_toArray, List.set_cons_zero, List.set_cons_succ])
   | (refine Ord.ord_skip (by rfl) ?_; simp only [Act.put, List.setIfInBounds_toArray, List.set_cons_zero, List.set_cons_succ])
   | (refine Ord.ord_take (v := ?_) (by rfl) (fun w' hS => ?_) ?_; rotate_left; (focus ((try dsimp only at hS); go_simp; first | done | with_reducible rfl)); simp only [Act.put, List.setIfInBounds_toArray, List.set_cons_zero, List.set_cons_succ]))
  refine Ord.ord_nil ?_
  have hbw : Below w.heap.size w w1 := hW.drew.trans (hb1.mono hW.size)
  clear hb1 k0 k1
  go_wp2_with fail
  go_ret
  exact ⟨by rw [HH.out]; rfl, hbw⟩
 ·
  have HH := Lib.hid h
  have h2' : decide (0 < pages) = false := by simpa using h2
  have h0' : (p == -1) = false := by simpa using h0
  rw [h1] at q1
  have K1 := Lib.hid q1
  clear h q1 q2 hp h0 h1 h2
  go_enter Tryz.func113, Tryz.ntmps113
  go_wp2_with fail
  generalize w.alloc (.cells #[.int .i64 p, .int .i64 r] 108) = W at k0 k1 hW hsz ⊢
  refine Ord.wp_region_ord (fun w' => w'.cell? ⟨w.heap.size, 0, none⟩ = some (.int .i64 p) ∧ w'.cell? ⟨w.heap.size, 1, none⟩ = some (.int .i64 r)) [(0, true), (1, false), (2, true), (3, true), (4, true), (5, true), (6, true), (7, true), (8, false), (9, true), (10, true), (11, true), (12, true), (13, true), (14, true), (15, true), (16, false), (17, true), (18, true), (19, true)] (by kernel_rfl) (by kernel_rfl) rfl (by kernel_rfl) ⟨k0, k1⟩ ?_
  simp only [Ord.ordOps, List.getElem?_toArray, List.getElem?_cons_zero, List.getElem?_cons_succ]
  repeat (first
   | (refine Ord.ord_plain (v := ?_) rfl (fun w' hS => ?_) ?_; rotate_left; (focus ((try dsimp only at hS); go_simp; first | done | with_reducible rfl)); simp only [Act.put, List.setIfInBounds_toArray, List.set_cons_zero, List.set_cons_succ])
   | (refine Ord.ord_skip (by rfl) ?_; simp only [Act.put, List.setIfInBounds_toArray, List.set_cons_zero, List.set_cons_succ])
   | (refine Ord.ord_take (v := ?_) (by rfl) (fun w' hS => ?_) ?_; rotate_left; (focus ((try dsimp only at hS); go_simp; first | done | with_reducible rfl)); simp only [Act.put, List.setIfInBounds_toArray, List.set_cons_zero, List.set_cons_succ]))
  refine Ord.ord_call (fun K hK => ?_)
  go_simp
  go_wp2_with (go_at_call 106; refine (spec_no _).mono ?_; rintro e w1 ⟨rfl, hb1⟩)
  refine hK.out _ _ (⟨(hb1.cell (p := ⟨w.heap.size, 0, none⟩) hsz).trans k0, (hb1.cell (p := ⟨w.heap.size, 1, none⟩) hsz).trans k1⟩) ?_
  clear hK K
  repeat (first
   | (refine Ord.ord_plain (v := ?_) rfl (fun w' hS => ?_) ?_; rotate_left; (focus ((try dsimp only at hS); go_simp; first | done | with_reducible rfl)); simp only [Act.put, List.setIfInBounds_toArray, List.set_cons_zero, List.set_cons_succ])
   | (refine Ord.ord_skip (by rfl) ?_; simp only [Act.put, List.setIfInBounds_toArray, List.set_cons_zero, List.set_cons_succ])
   | (refine Ord.ord_take (v := ?_) (by rfl) (fun w' hS => ?_) ?_; rotate_left; (focus ((try dsimp only at hS); go_simp; first | done | with_reducible rfl)); simp only [Act.put, List.setIfInBounds_toArray, List.set_cons_zero, List.set_cons_succ]))
  refine Ord.ord_call (fun K hK => ?_)
  go_simp
  go_wp2_with (go_at_call 37; refine (K1.out _).mono ?_; rintro e w' ⟨rfl, rfl⟩)
  refine hK.out _ _ (⟨(hb1.cell (p := ⟨w.heap.size, 0, none⟩) hsz).trans k0, (hb1.cell (p := ⟨w.heap.size, 1, none⟩) hsz).trans k1⟩) ?_
  clear hK K
  repeat (first
   | (refine Ord.ord_plain (v := ?_) rfl (fun w' hS => ?_) ?_; rotate_left; (focus ((try dsimp only at hS); go_simp; first | done | with_reducible rfl)); simp only [Act.put, List.setIfInBounds_toArray, List.set_cons_zero, List.set_cons_succ])
   | (refine Ord.ord_skip (by rfl) ?_; simp only [Act.put, List.setIfInBounds_toArray, List.set_cons_zero, List.set_cons_succ])
   | (refine Ord.ord_take (v := ?_) (by rfl) (fun w' hS => ?_) ?_; rotate_left; (focus ((try dsimp only at hS); go_simp; first | done | with_reducible rfl)); simp only [Act.put, List.setIfInBounds_toArray, List.set_cons_zero, List.set_cons_succ]))
  refine Ord.ord_call (fun K hK => ?_)
  go_simp
  refine hK.out _ _ (⟨(hb1.cell (p := ⟨w.heap.size, 0, none⟩) hsz).trans k0, (hb1.cell (p := ⟨w.heap.size, 1, none⟩) hsz).trans k1⟩) ?_
  clear hK K
  repeat (first
   | (refine Ord.ord_plain (v := ?_) rfl (fun w' hS => ?_) ?_; rotate_left; (focus ((try dsimp only at hS); go_simp; first | done | with_reducible rfl)); simp only [Act.put, List.setIfInBounds_toArray, List.set_cons_zero, List.set_cons_succ])
   | (refine Ord.ord_skip (by rfl) ?_; simp only [Act.put, List.setIfInBounds_toArray, List.set_cons_zero, List.set_cons_succ])
   | (refine Ord.ord_take (v := ?_) (by rfl) (fun w' hS => ?_) ?_; rotate_left; (focus ((try dsimp only at hS); go_simp; first | done | with_reducible rfl)); simp only [Act.put, List.setIfInBounds_toArray, List.set_cons_zero, List.set_cons_succ]))
  refine Ord.ord_nil ?_
  have hbw : Below w.heap.size w w1 := hW.drew.trans (hb1.mono hW.size)
  clear hb1 k0 k1
  go_wp2_with fail
  go_ret
  exact ⟨by rw [HH.out]; rfl, hbw⟩
 ·
  have HH := Lib.hid h
  have h2' : decide (0 < pages) = true := by simpa using h2
  have h0' : (p == -1) = false := by simpa using h0
  rw [h1] at q1
  have K1 := Lib.hid q1
  rw [h3] at q2
  have K2 := Lib.hid q2
  clear h q1 q2 hp h0 h1 h3 h2
  go_enter Tryz.func113, Tryz.ntmps113
  go_wp2_with fail
  generalize w.alloc (.cells #[.int .i64 p, .int .i64 r] 108) = W at k0 k1 hW hsz ⊢
  refine Ord.wp_region_ord (fun w' => w'.cell? ⟨w.heap.size, 0, none⟩ = some (.int .i64 p) ∧ w'.cell? ⟨w.heap.size, 1, none⟩ = some (.int .i64 r)) [(0, true), (1, false), (2, true), (3, true), (4, true), (5, true), (6, true), (7, true), (8, false), (9, true), (10, true), (11, true), (12, true), (13, true), (14, true), (15, true), (16, false), (17, true), (18, true), (19, true)] (by kernel_rfl) (by kernel_rfl) rfl (by kernel_rfl) ⟨k0, k1⟩ ?_
  simp only [Ord.ordOps, List.getElem?_toArray, List.getElem?_cons_zero, List.getElem?_cons_succ]
  repeat (first
   | (refine Ord.ord_plain (v := ?_) rfl (fun w' hS => ?_) ?_; rotate_left; (focus ((try dsimp only at hS); go_simp; first | done | with_reducible rfl)); simp only [Act.put, List.setIfInBounds_toArray, List.set_cons_zero, List.set_cons_succ])
   | (refine Ord.ord_skip (by rfl) ?_; simp only [Act.put, List.setIfInBounds_toArray, List.set_cons_zero, List.set_cons_succ])
   | (refine Ord.ord_take (v := ?_) (by rfl) (fun w' hS => ?_) ?_; rotate_left; (focus ((try dsimp only at hS); go_simp; first | done | with_reducible rfl)); simp only [Act.put, List.setIfInBounds_toArray, List.set_cons_zero, List.set_cons_succ]))
  refine Ord.ord_call (fun K hK => ?_)
  go_simp
  go_wp2_with (go_at_call 106; refine (spec_no _).mono ?_; rintro e w1 ⟨rfl, hb1⟩)
  refine hK.out _ _ (⟨(hb1.cell (p := ⟨w.heap.size, 0, none⟩) hsz).trans k0, (hb1.cell (p := ⟨w.heap.size, 1, none⟩) hsz).trans k1⟩) ?_
  clear hK K
  repeat (first
   | (refine Ord.ord_plain (v := ?_) rfl (fun w' hS => ?_) ?_; rotate_left; (focus ((try dsimp only at hS); go_simp; first | done | with_reducible rfl)); simp only [Act.put, List.setIfInBounds_toArray, List.set_cons_zero, List.set_cons_succ])
   | (refine Ord.ord_skip (by rfl) ?_; simp only [Act.put, List.setIfInBounds_toArray, List.set_cons_zero, List.set_cons_succ])
   | (refine Ord.ord_take (v := ?_) (by rfl) (fun w' hS => ?_) ?_; rotate_left; (focus ((try dsimp only at hS); go_simp; first | done | with_reducible rfl)); simp only [Act.put, List.setIfInBounds_toArray, List.set_cons_zero, List.set_cons_succ]))
  refine Ord.ord_call (fun K hK => ?_)
  go_simp
  go_wp2_with (go_at_call 37; refine (K1.out _).mono ?_; rintro e w' ⟨rfl, rfl⟩)
  refine hK.out _ _ (⟨(hb1.cell (p := ⟨w.heap.size, 0, none⟩) hsz).trans k0, (hb1.cell (p := ⟨w.heap.size, 1, none⟩) hsz).trans k1⟩) ?_
  clear hK K
  repeat (first
   | (refine Ord.ord_plain (v := ?_) rfl (fun w' hS => ?_) ?_; rotate_left; (focus ((try dsimp only at hS); go_simp; first | done | with_reducible rfl)); simp only [Act.put, List.setIfInBounds_toArray, List.set_cons_zero, List.set_cons_succ])
   | (refine Ord.ord_skip (by rfl) ?_; simp only [Act.put, List.setIfInBounds_toArray, List.set_cons_zero, List.set_cons_succ])
   | (refine Ord.ord_take (v := ?_) (by rfl) (fun w' hS => ?_) ?_; rotate_left; (focus ((try dsimp only at hS); go_simp; first | done | with_reducible rfl)); simp only [Act.put, List.setIfInBounds_toArray, List.set_cons_zero, List.set_cons_succ]))
  refine Ord.ord_call (fun K hK => ?_)
  go_simp
  go_wp2_with (go_at_call 37; refine (K2.out _).mono ?_; rintro e w' ⟨rfl, rfl⟩)
  refine hK.out _ _ (⟨(hb1.cell (p := ⟨w.heap.size, 0, none⟩) hsz).trans k0, (hb1.cell (p := ⟨w.heap.size, 1, none⟩) hsz).trans k1⟩) ?_
  clear hK K
  repeat (first
   | (refine Ord.ord_plain (v := ?_) rfl (fun w' hS => ?_) ?_; rotate_left; (focus ((try dsimp only at hS); go_simp; first | done | with_reducible rfl)); simp only [Act.put, List.setIfInBounds_toArray, List.set_cons_zero, List.set_cons_succ])
   | (refine Ord.ord_skip (by rfl) ?_; simp only [Act.put, List.setIfInBounds_toArray, List.set_cons_zero, List.set_cons_succ])
   | (refine Ord.ord_take (v := ?_) (by rfl) (fun w' hS => ?_) ?_; rotate_left; (focus ((try dsimp only at hS); go_simp; first | done | with_reducible rfl)); simp only [Act.put, List.setIfInBounds_toArray, List.set_cons_zero, List.set_cons_succ]))
  refine Ord.ord_nil ?_
  have hbw : Below w.heap.size w w1 := hW.drew.trans (hb1.mono hW.size)
  clear hb1 k0 k1
  go_wp2_with fail
  go_ret
  exact ⟨by rw [HH.out]; rfl, hbw⟩
 ·
  have HH := Lib.hid h
  have h2' : decide (0 < pages) = true := by simpa using h2
  have h0' : (p == -1) = false := by simpa using h0
  rw [h1] at q1
  have K1 := Lib.hid q1
  rw [h3] at q2
  have K2 := Lib.hid q2
  clear h q1 q2 hp h0 h1 h3 h2
  go_enter Tryz.func113, Tryz.ntmps113
  go_wp2_with fail
  generalize w.alloc (.cells #[.int .i64 p, .int .i64 r] 108) = W at k0 k1 hW hsz ⊢
  refine Ord.wp_region_ord (fun w' => w'.cell? ⟨w.heap.size, 0, none⟩ = some (.int .i64 p) ∧ w'.cell? ⟨w.heap.size, 1, none⟩ = some (.int .i64 r)) [(0, true), (1, false), (2, true), (3, true), (4, true), (5, true), (6, true), (7, true), (8, false), (9, true), (10, true), (11, true), (12, true), (13, true), (14, true), (15, true), (16, false), (17, true), (18, true), (19, true)] (by kernel_rfl) (by kernel_rfl) rfl (by kernel_rfl) ⟨k0, k1⟩ ?_
  simp only [Ord.ordOps, List.getElem?_toArray, List.getElem?_cons_zero, List.getElem?_cons_succ]
  repeat (first
   | (refine Ord.ord_plain (v := ?_) rfl (fun w' hS => ?_) ?_; rotate_left; (focus ((try dsimp only at hS); go_simp; first | done | with_reducible rfl)); simp only [Act.put, List.setIfInBounds_toArray, List.set_cons_zero, List.set_cons_succ])
   | (refine Ord.ord_skip (by rfl) ?_; simp only [Act.put, List.setIfInBounds_toArray, List.set_cons_zero, List.set_cons_succ])
   | (refine Ord.ord_take (v := ?_) (by rfl) (fun w' hS => ?_) ?_; rotate_left; (focus ((try dsimp only at hS); go_simp; first | done | with_reducible rfl)); simp only [Act.put, List.setIfInBounds_toArray, List.set_cons_zero, List.set_cons_succ]))
  refine Ord.ord_call (fun K hK => ?_)
  go_simp
  go_wp2_with (go_at_call 106; refine (spec_no _).mono ?_; rintro e w1 ⟨rfl, hb1⟩)
  refine hK.out _ _ (⟨(hb1.cell (p := ⟨w.heap.size, 0, none⟩) hsz).trans k0, (hb1.cell (p := ⟨w.heap.size, 1, none⟩) hsz).trans k1⟩) ?_
  clear hK K
  repeat (first
   | (refine Ord.ord_plain (v := ?_) rfl (fun w' hS => ?_) ?_; rotate_left; (focus ((try dsimp only at hS); go_simp; first | done | with_reducible rfl)); simp only [Act.put, List.setIfInBounds_toArray, List.set_cons_zero, List.set_cons_succ])
   | (refine Ord.ord_skip (by rfl) ?_; simp only [Act.put, List.setIfInBounds_toArray, List.set_cons_zero, List.set_cons_succ])
   | (refine Ord.ord_take (v := ?_) (by rfl) (fun w' hS => ?_) ?_; rotate_left; (focus ((try dsimp only at hS); go_simp; first | done | with_reducible rfl)); simp only [Act.put, List.setIfInBounds_toArray, List.set_cons_zero, List.set_cons_succ]))
  refine Ord.ord_call (fun K hK => ?_)
  go_simp
  go_wp2_with (go_at_call 37; refine (K1.out _).mono ?_; rintro e w' ⟨rfl, rfl⟩)
  refine hK.out _ _ (⟨(hb1.cell (p := ⟨w.heap.size, 0, none⟩) hsz).trans k0, (hb1.cell (p := ⟨w.heap.size, 1, none⟩) hsz).trans k1⟩) ?_
  clear hK K
  repeat (first
   | (refine Ord.ord_plain (v := ?_) rfl (fun w' hS => ?_) ?_; rotate_left; (focus ((try dsimp only at hS); go_simp; first | done | with_reducible rfl)); simp only [Act.put, List.setIfInBounds_toArray, List.set_cons_zero, List.set_cons_succ])
   | (refine Ord.ord_skip (by rfl) ?_; simp only [Act.put, List.setIfInBounds_toArray, List.set_cons_zero, List.set_cons_succ])
   | (refine Ord.ord_take (v := ?_) (by rfl) (fun w' hS => ?_) ?_; rotate_left; (focus ((try dsimp only at hS); go_simp; first | done | with_reducible rfl)); simp only [Act.put, List.setIfInBounds_toArray, List.set_cons_zero, List.set_cons_succ]))
  refine Ord.ord_call (fun K hK => ?_)
  go_simp
  go_wp2_with (go_at_call 37; refine (K2.out _).mono ?_; rintro e w' ⟨rfl, rfl⟩)
  refine hK.out _ _ (⟨(hb1.cell (p := ⟨w.heap.size, 0, none⟩) hsz).trans k0, (hb1.cell (p := ⟨w.heap.size, 1, none⟩) hsz).trans k1⟩) ?_
  clear hK K
  repeat (first
   | (refine Ord.ord_plain (v := ?_) rfl (fun w' hS => ?_) ?_; rotate_left; (focus ((try dsimp only at hS); go_simp; first | done | with_reducible rfl)); simp only [Act.put, List.setIfInBounds_toArray, List.set_cons_zero, List.set_cons_succ])
   | (refine Ord.ord_skip (by rfl) ?_; simp only [Act.put, List.setIfInBounds_toArray, List.set_cons_zero, List.set_cons_succ])
   | (refine Ord.ord_take (v := ?_) (by rfl) (fun w' hS => ?_) ?_; rotate_left; (focus ((try dsimp only at hS); go_simp; first | done | with_reducible rfl)); simp only [Act.put, List.setIfInBounds_toArray, List.set_cons_zero, List.set_cons_succ]))
  refine Ord.ord_nil ?_
  have hbw : Below w.heap.size w w1 := hW.drew.trans (hb1.mono hW.size)
  clear hb1 k0 k1
  go_wp2_with fail
  go_ret
  exact ⟨by rw [HH.out]; rfl, hbw⟩
end Go.Proofs.YtldgadmpclgfhaaGreat.Slots
namespace Go.Proofs.YtldgadmpclgfhaaGreat.Slots
set_option maxHeartbeats 8000000
set_option maxRecDepth 100000
set_option maxRecDepth 100000
open Go.ChangeShapes Go.WideShapes Go.ChangeAt Go.RowKit
open Go.Proofs.YtldgadmpclgfhaaGreat.Base Go.Proofs.YtldgadmpclgfhaaGreat.Mem Go.Proofs.YtldgadmpclgfhaaGreat.Ints
set_option linter.unusedVariables false
def okTab (l : List Sl) (size pages : Int) : Bool := okT l pages && decide ((l.length : Int) = size)
theorem okT_snoc (l : List Sl) (k : Nat) (h : k < l.length) (pages : Int) (ht : okT (l.take k) pages = true) : okT (l.take (k + 1)) pages = okS l[k].1 l[k].2 pages := by
 unfold okT at ht ⊢
 rw [List.take_succ_eq_append_getElem h, List.all_append, ht]
 simp
theorem okT_stop (l : List Sl) (k : Nat) (h : k < l.length) (pages : Int) (hs : okS l[k].1 l[k].2 pages = false) : okT l pages = false := by
 unfold okT
 rw [List.all_eq_false]
 exact ⟨l[k], List.getElem_mem h, by simpa using hs⟩
theorem impl_tabOk (A : Option Addr) (n c lo : Nat) (size pages : Int) (l : List Sl) (w : World) (hn : n ≤ 1048576) (hl : l.length = n) (hw : wfL l) (h1 : Lies w lo w.heap.size A (scells l)) :
  Calls Tryz.prog 111 #[.slice A n c, .int .i64 size, .int .i64 pages] w (OkPost w (okTab l size pages)) := by
 have H1 := Lib.hid h1
 have HL := Lib.hid hl
 have HW := Lib.hid hw
 clear h1 hl hw
 by_cases hsz : (n : Int) = size
 ·
  subst hsz
  go_enter Tryz.func111, Tryz.ntmps111
  go_wp2
  go_loopw [8, 15] (fun _ i wr => ∃ (k : Nat), k ≤ n ∧ i = .int .i64 k ∧ okT (l.take k) pages = true ∧ Below w.heap.size w wr) (fun _ i _ => n - (intOf i).toNat)
  case atStart => exact ⟨0, Nat.zero_le _, rfl, rfl, Below.refl _ _⟩
  case round =>
   obtain ⟨k, hk, rfl, ht, hb⟩ := hrel
   have HT := Lib.hid ht
   clear ht
   by_cases hlt : k < n
   ·
    have hkl : k < l.length := by have := HL.out; omega
    obtain ⟨b, off, rfl, _, hbw, c1, c2⟩ := slot_at H1.out k hkl
    have d1 : wr.cell? ⟨b, off + k * 2, none⟩ = some (.int .i64 l[k].1) := (hb.cell hbw).trans c1
    have d2 : wr.cell? ⟨b, off + k * 2 + 1, none⟩ = some (.int .i64 l[k].2) := (hb.cell hbw).trans c2
    have hi0 : (0 : Int) ≤ (k : Int) := Int.natCast_nonneg _
    have hi1 : (k : Int) < (n : Int) := by omega
    have hK := fun V : World => impl_okS l[k].1 l[k].2 pages V (HW.out l[k] (List.getElem_mem hkl)).2
    have hs := okT_snoc l k hkl pages HT.out
    have hf := okT_stop l k hkl pages
    have hbs := hb.size
    generalize l[k].1 = x at d1 hK hs hf
    generalize l[k].2 = y at d2 hK hs hf
    have HB := Lib.hid hb
    clear c1 c2 hb
    cases hv : okS x y pages
    ·
     rw [hv] at hK
     have HK := Lib.hid hK
     have HF := Lib.hid (hf hv)
     clear hK hf hs hv
     go_wp2_with fail
     refine (HK.out _).mono ?_
     rintro e w1 ⟨rfl, hb1⟩
     have hbw1 : Below w.heap.size w w1 := (HB.out.alloc hbs _).trans (hb1.mono (by simp; omega))
     clear hb1
     go_wp2_with fail
     go_ret
     exact ⟨by rw [okTab, HF.out]; rfl, hbw1⟩
    ·
     rw [hv] at hK hs
     have HK := Lib.hid hK
     have HS := Lib.hid hs
     clear hK hf hs hv
     go_wp2_with fail
     refine (HK.out _).mono ?_
     rintro e w1 ⟨rfl, hb1⟩
     have hbw1 : Below w.heap.size w w1 := (HB.out.alloc hbs _).trans (hb1.mono (by simp; omega))
     clear hb1
     go_wp2_with fail
     go_roundw
     case rel => exact ⟨k + 1, by omega, by go_num, HS.out, hbw1⟩
     case measure => simp [intOf]; omega
   ·
    have hkn : k = n := by omega
    subst hkn
    have ht := HT.out
    rw [List.take_of_length_le (by have := HL.out; omega)] at ht
    have HT := Lib.hid ht
    clear ht
    go_wp2_with fail
    go_ret
    exact ⟨by rw [okTab, HT.out, HL.out]; simp, hb⟩
 ·
  have hd : ((n : Int) == size) = false := by simpa using hsz
  have hd' : ((n : Int) != size) = true := by simpa using hsz
  go_enter Tryz.func111, Tryz.ntmps111
  go_wp2
  go_ret
  exact ⟨by rw [okTab, HL.out, decide_eq_false hsz, Bool.and_false]; rfl, Below.refl _ _⟩
theorem spec_tabOk (A : Option Addr) (n c lo : Nat) (size pages : Int) (l : List Sl) (w : World) (hn : n ≤ 1048576) (hl : l.length = n) (hp : (Lit.int .i64 pages).wf = true) (h1 : Lies w lo w.heap.size A (scells l)) :
  Calls Tryz.prog 93 #[.slice A n c, .int .i64 size, .int .i64 pages] w (OkPost w (okTab l size pages)) := by
 have H1 := Lib.hid h1
 have HL := Lib.hid hl
 have HP := Lib.hid hp
 clear h1 hl hp
 go_enter Tryz.func93, Tryz.ntmps93
 go_wp2
 go_loopw [7] (fun i wr => ∃ (k : Nat), k ≤ n ∧ i = .int .i64 k ∧ okT (l.take k) pages = true ∧ Below w.heap.size w wr) (fun i _ => n - (intOf i).toNat)
 case atStart => exact ⟨0, Nat.zero_le _, rfl, rfl, Below.refl _ _⟩
 case round =>
  obtain ⟨k, hk, rfl, ht, hb⟩ := hrel
  have HT := Lib.hid ht
  clear ht
  by_cases hlt : k < n
  ·
   have hkl : k < l.length := by have := HL.out; omega
   obtain ⟨b, off, rfl, _, hbw, c1, c2⟩ := slot_at H1.out k hkl
   have d1 : wr.cell? ⟨b, off + k * 2, none⟩ = some (.int .i64 l[k].1) := (hb.cell hbw).trans c1
   have d2 : wr.cell? ⟨b, off + k * 2 + 1, none⟩ = some (.int .i64 l[k].2) := (hb.cell hbw).trans c2
   have hi0 : (0 : Int) ≤ (k : Int) := Int.natCast_nonneg _
   have hi1 : (k : Int) < (n : Int) := by omega
   have hK := fun V : World => spec_okS l[k].1 l[k].2 pages V HP.out
   have hs := okT_snoc l k hkl pages HT.out
   have hf := okT_stop l k hkl pages
   have hbs := hb.size
   generalize l[k].1 = x at d1 hK hs hf
   generalize l[k].2 = y at d2 hK hs hf
   have HB := Lib.hid hb
   clear c1 c2 hb
   cases hv : okS x y pages
   ·
    rw [hv] at hK
    have HK := Lib.hid hK
    have HF := Lib.hid (hf hv)
    clear hK hf hs hv
    go_wp2_with fail
    refine (HK.out _).mono ?_
    rintro e w1 ⟨rfl, hb1⟩
    have hbw1 : Below w.heap.size w w1 := HB.out.trans (hb1.mono hbs)
    clear hb1
    go_wp2_with fail
    go_ret
    exact ⟨by rw [okTab, HF.out]; rfl, hbw1⟩
   ·
    rw [hv] at hK hs
    have HK := Lib.hid hK
    have HS := Lib.hid hs
    clear hK hf hs hv
    go_wp2_with fail
    refine (HK.out _).mono ?_
    rintro e w1 ⟨rfl, hb1⟩
    have hbw1 : Below w.heap.size w w1 := HB.out.trans (hb1.mono hbs)
    clear hb1
    go_wp2_with fail
    go_roundw
    case rel => exact ⟨k + 1, by omega, by go_num, HS.out, hbw1⟩
    case measure => simp [intOf]; omega
  ·
   have hkn : k = n := by omega
   subst hkn
   have ht := HT.out
   rw [List.take_of_length_le (by have := HL.out; omega)] at ht
   have HT := Lib.hid ht
   clear ht
   go_wp2_with fail
   go_ret
   exact ⟨by rw [okTab, HT.out, HL.out, Bool.true_and]; rfl, hb⟩
end Go.Proofs.YtldgadmpclgfhaaGreat.Slots
namespace Go.Proofs.YtldgadmpclgfhaaGreat.Inss
set_option maxHeartbeats 8000000
set_option maxRecDepth 100000
set_option maxRecDepth 100000
open Go.ChangeShapes Go.WideShapes Go.ChangeAt Go.RowKit
open Go.Proofs.YtldgadmpclgfhaaGreat.Base Go.Proofs.YtldgadmpclgfhaaGreat.Mem Go.Proofs.YtldgadmpclgfhaaGreat.Data
def SamePost (w : World) (l m : List JT) (e : Ending) (w' : World) : Prop := e = .returned (.bool (decide (l = m))) ∧ ∃ q, w' = w.drewN q
theorem same_step {l m : List JT} {k : Nat} (hl : k < l.length) (hm : k < m.length) (h : l.take k = m.take k) :
  (l[k].1 = m[k].1 ∧ l[k].2 = m[k].2 → l.take (k + 1) = m.take (k + 1)) ∧ (¬ (l[k].1 = m[k].1 ∧ l[k].2 = m[k].2) → l ≠ m) := by
 refine ⟨fun e => ?_, fun e => ?_⟩
 ·
  rw [List.take_succ_eq_append_getElem hl, List.take_succ_eq_append_getElem hm, h, Prod.ext e.1 e.2]
 ·
  rintro rfl
  exact e ⟨rfl, rfl⟩
theorem same_no {w : World} {l m : List JT} (q : Nat) (h : l ≠ m) : SamePost w l m (.returned (.bool false)) (w.drewN q) := ⟨by rw [decide_eq_false h], q, rfl⟩
theorem same_no2 {w : World} {l m : List JT} (q r : Nat) (h : l ≠ m) : SamePost w l m (.returned (.bool false)) ((w.drewN q).drewN r) := ⟨by rw [decide_eq_false h], q + r, World.drewN_drewN ..⟩
theorem same_yes {w : World} {l m : List JT} {n : Nat} (q : Nat) (h : l.take n = m.take n) (hl : l.length = n) (hm : m.length = n) : SamePost w l m (.returned (.bool true)) (w.drewN q) := by
 rw [List.take_of_length_le (by omega), List.take_of_length_le (by omega)] at h
 exact ⟨by rw [decide_eq_true h], q, rfl⟩
theorem law_same (A B : Option Addr) (n n' c d lo lo' hi hi' : Nat) (l m : List JT) (w : World) (hn : n ≤ 1048576) (hn' : n' ≤ 1048576) (hl : l.length = n) (hm : m.length = n')
  (h1 : Lies w lo hi A (jcells l)) (h2 : Lies w lo' hi' B (jcells m)) :
  Calls Tryz.prog 46 #[.slice A n c, .slice B n' d] w (SamePost w l m) := by
 have H1 := Lib.hid h1
 have H2 := Lib.hid h2
 have HL := Lib.hid hl
 have HM := Lib.hid hm
 clear h1 h2 hl hm
 by_cases hnn : n = n'
 ·
  subst hnn
  go_enter Tryz.func46, Tryz.ntmps46
  go_wp2
  go_loopw [5] (fun i wr => ∃ (k q : Nat), k ≤ n ∧ i = .int .i64 k ∧ l.take k = m.take k ∧ wr = w.drewN q) (fun i _ => n - (intOf i).toNat)
  case atStart => exact ⟨0, 0, Nat.zero_le _, rfl, rfl, rfl⟩
  case round =>
   obtain ⟨k, q, hk, rfl, ht, rfl⟩ := hrel
   have HT := Lib.hid ht
   clear ht
   by_cases hlt : k < n
   ·
    have hkl : k < l.length := by have := HL.out; omega
    have hkm : k < m.length := by have := HM.out; omega
    obtain ⟨b, off, rfl, _, hbw, c1, c2⟩ := j_at H1.out k hkl
    obtain ⟨b', off', rfl, _, hbw', c1', c2'⟩ := j_at H2.out k hkm
    have hi0 : (0 : Int) ≤ (k : Int) := Int.natCast_nonneg _
    have hi1 : (k : Int) < (n : Int) := by omega
    have hstep := same_step hkl hkm HT.out
    have HP := Lib.hid hstep
    clear hstep
    generalize l[k].1 = x at c1 HP
    generalize l[k].2 = y at c2 HP
    generalize m[k].1 = x' at c1' HP
    generalize m[k].2 = y' at c2' HP
    by_cases hx : x = x'
    ·
     subst hx
     by_cases hy : y = y'
     ·
      subst hy
      go_wp2
      go_quiet (fail)
      go_wp2
      go_roundw
      case rel => exact ⟨k + 1, _, by omega, by go_num, HP.out.1 (by simp), rfl⟩
      case measure => simp [intOf]; omega
     ·
      have hy' : (y == y') = false := by simpa using hy
      go_wp2
      go_quiet (fail)
      go_wp2
      go_ret
      exact same_no2 _ _ (HP.out.2 (fun h => hy h.2))
    ·
     have hx' : (x == x') = false := by simpa using hx
     go_wp2
     go_quiet (fail)
     go_wp2
     go_ret
     exact same_no2 _ _ (HP.out.2 (fun h => hx h.1))
   ·
    have hkn : k = n := by omega
    subst hkn
    go_wp2
    go_ret
    exact same_yes _ HT.out HL.out HM.out
 ·
  have hd : (n == n') = false := by simpa using hnn
  have hd' : ((n : Int) == (n' : Int)) = false := by simp; omega
  go_enter Tryz.func46, Tryz.ntmps46
  go_wp2
  go_ret
  exact same_no 0 (fun e => hnn (by rw [← HL.out, ← HM.out, e]))
end Go.Proofs.YtldgadmpclgfhaaGreat.Inss
namespace Go.Proofs.YtldgadmpclgfhaaGreat.Slots
set_option maxHeartbeats 8000000
set_option maxRecDepth 100000
set_option maxRecDepth 100000
open Go.ChangeShapes Go.WideShapes Go.ChangeAt Go.RowKit
open Go.Proofs.YtldgadmpclgfhaaGreat.Base Go.Proofs.YtldgadmpclgfhaaGreat.Mem Go.Proofs.YtldgadmpclgfhaaGreat.Ints
def SamePost (w : World) (l m : List Sl) (e : Ending) (w' : World) : Prop := e = .returned (.bool (decide (l = m))) ∧ ∃ q, w' = w.drewN q
theorem same_step {l m : List Sl} {k : Nat} (hl : k < l.length) (hm : k < m.length) (h : l.take k = m.take k) :
  (l[k].1 = m[k].1 ∧ l[k].2 = m[k].2 → l.take (k + 1) = m.take (k + 1)) ∧ (¬ (l[k].1 = m[k].1 ∧ l[k].2 = m[k].2) → l ≠ m) := by
 refine ⟨fun e => ?_, fun e => ?_⟩
 ·
  rw [List.take_succ_eq_append_getElem hl, List.take_succ_eq_append_getElem hm, h, Prod.ext e.1 e.2]
 ·
  rintro rfl
  exact e ⟨rfl, rfl⟩
theorem same_no {w : World} {l m : List Sl} (q : Nat) (h : l ≠ m) : SamePost w l m (.returned (.bool false)) (w.drewN q) := ⟨by rw [decide_eq_false h], q, rfl⟩
theorem same_no2 {w : World} {l m : List Sl} (q r : Nat) (h : l ≠ m) : SamePost w l m (.returned (.bool false)) ((w.drewN q).drewN r) := ⟨by rw [decide_eq_false h], q + r, World.drewN_drewN ..⟩
theorem same_yes {w : World} {l m : List Sl} {n : Nat} (q : Nat) (h : l.take n = m.take n) (hl : l.length = n) (hm : m.length = n) : SamePost w l m (.returned (.bool true)) (w.drewN q) := by
 rw [List.take_of_length_le (by omega), List.take_of_length_le (by omega)] at h
 exact ⟨by rw [decide_eq_true h], q, rfl⟩
theorem law_same (A B : Option Addr) (n n' c d lo lo' hi hi' : Nat) (l m : List Sl) (w : World) (hn : n ≤ 1048576) (hn' : n' ≤ 1048576) (hl : l.length = n) (hm : m.length = n')
  (h1 : Lies w lo hi A (scells l)) (h2 : Lies w lo' hi' B (scells m)) :
  Calls Tryz.prog 47 #[.slice A n c, .slice B n' d] w (SamePost w l m) := by
 have H1 := Lib.hid h1
 have H2 := Lib.hid h2
 have HL := Lib.hid hl
 have HM := Lib.hid hm
 clear h1 h2 hl hm
 by_cases hnn : n = n'
 ·
  subst hnn
  go_enter Tryz.func47, Tryz.ntmps47
  go_wp2
  go_loopw [5] (fun i wr => ∃ (k q : Nat), k ≤ n ∧ i = .int .i64 k ∧ l.take k = m.take k ∧ wr = w.drewN q) (fun i _ => n - (intOf i).toNat)
  case atStart => exact ⟨0, 0, Nat.zero_le _, rfl, rfl, rfl⟩
  case round =>
   obtain ⟨k, q, hk, rfl, ht, rfl⟩ := hrel
   have HT := Lib.hid ht
   clear ht
   by_cases hlt : k < n
   ·
    have hkl : k < l.length := by have := HL.out; omega
    have hkm : k < m.length := by have := HM.out; omega
    obtain ⟨b, off, rfl, _, hbw, c1, c2⟩ := slot_at H1.out k hkl
    obtain ⟨b', off', rfl, _, hbw', c1', c2'⟩ := slot_at H2.out k hkm
    have hi0 : (0 : Int) ≤ (k : Int) := Int.natCast_nonneg _
    have hi1 : (k : Int) < (n : Int) := by omega
    have hstep := same_step hkl hkm HT.out
    have HP := Lib.hid hstep
    clear hstep
    generalize l[k].1 = x at c1 HP
    generalize l[k].2 = y at c2 HP
    generalize m[k].1 = x' at c1' HP
    generalize m[k].2 = y' at c2' HP
    by_cases hx : x = x'
    ·
     subst hx
     by_cases hy : y = y'
     ·
      subst hy
      go_wp2
      go_quiet (fail)
      go_wp2
      go_roundw
      case rel => exact ⟨k + 1, _, by omega, by go_num, HP.out.1 (by simp), rfl⟩
      case measure => simp [intOf]; omega
     ·
      have hy' : (y == y') = false := by simpa using hy
      go_wp2
      go_quiet (fail)
      go_wp2
      go_ret
      exact same_no2 _ _ (HP.out.2 (fun h => hy h.2))
    ·
     have hx' : (x == x') = false := by simpa using hx
     go_wp2
     go_quiet (fail)
     go_wp2
     go_ret
     exact same_no2 _ _ (HP.out.2 (fun h => hx h.1))
   ·
    have hkn : k = n := by omega
    subst hkn
    go_wp2
    go_ret
    exact same_yes _ HT.out HL.out HM.out
 ·
  have hd : (n == n') = false := by simpa using hnn
  have hd' : ((n : Int) == (n' : Int)) = false := by simp; omega
  go_enter Tryz.func47, Tryz.ntmps47
  go_wp2
  go_ret
  exact same_no 0 (fun e => hnn (by rw [← HL.out, ← HM.out, e]))
theorem lib_equal (A B : Option Addr) (n n' c d lo lo' hi hi' : Nat) (l m : List Sl) (w : World) (hn : n ≤ 1048576) (hn' : n' ≤ 1048576) (hl : l.length = n) (hm : m.length = n')
  (h1 : Lies w lo hi A (scells l)) (h2 : Lies w lo' hi' B (scells m)) :
  Calls Tryz.prog 107 #[.slice A n c, .slice B n' d] w (SamePost w l m) := by
 have H1 := Lib.hid h1
 have H2 := Lib.hid h2
 have HL := Lib.hid hl
 have HM := Lib.hid hm
 clear h1 h2 hl hm
 by_cases hnn : n = n'
 ·
  subst hnn
  go_enter Tryz.func107, Tryz.ntmps107
  go_wp2
  go_loopw [5, 13] (fun _ i wr => ∃ (k q : Nat), k ≤ n ∧ i = .int .i64 k ∧ l.take k = m.take k ∧ wr = w.drewN q) (fun _ i _ => n - (intOf i).toNat)
  case atStart => exact ⟨0, 0, Nat.zero_le _, rfl, rfl, rfl⟩
  case round =>
   obtain ⟨k, q, hk, rfl, ht, rfl⟩ := hrel
   have HT := Lib.hid ht
   clear ht
   by_cases hlt : k < n
   ·
    have hkl : k < l.length := by have := HL.out; omega
    have hkm : k < m.length := by have := HM.out; omega
    obtain ⟨b, off, rfl, _, hbw, c1, c2⟩ := slot_at H1.out k hkl
    obtain ⟨b', off', rfl, _, hbw', c1', c2'⟩ := slot_at H2.out k hkm
    have hi0 : (0 : Int) ≤ (k : Int) := Int.natCast_nonneg _
    have hi1 : (k : Int) < (n : Int) := by omega
    have hstep := same_step hkl hkm HT.out
    have HP := Lib.hid hstep
    clear hstep
    generalize l[k].1 = x at c1 HP
    generalize l[k].2 = y at c2 HP
    generalize m[k].1 = x' at c1' HP
    generalize m[k].2 = y' at c2' HP
    by_cases hx : x = x'
    ·
     subst hx
     by_cases hy : y = y'
     ·
      subst hy
      go_wp2
      go_quiet (fail)
      go_wp2
      go_roundw
      case rel => exact ⟨k + 1, _, by omega, by go_num, HP.out.1 (by simp), rfl⟩
      case measure => simp [intOf]; omega
     ·
      have hy' : (y == y') = false := by simpa using hy
      go_wp2
      go_quiet (fail)
      go_wp2
      go_ret
      exact same_no2 _ _ (HP.out.2 (fun h => hy h.2))
    ·
     have hx' : (x == x') = false := by simpa using hx
     go_wp2
     go_quiet (fail)
     go_wp2
     go_ret
     exact same_no2 _ _ (HP.out.2 (fun h => hx h.1))
   ·
    have hkn : k = n := by omega
    subst hkn
    go_wp2
    go_ret
    exact same_yes _ HT.out HL.out HM.out
 ·
  have hd : (n == n') = false := by simpa using hnn
  have hd' : ((n : Int) == (n' : Int)) = false := by simp; omega
  go_enter Tryz.func107, Tryz.ntmps107
  go_wp2
  go_ret
  exact same_no 0 (fun e => hnn (by rw [← HL.out, ← HM.out, e]))
theorem impl_same (A B : Option Addr) (n n' c d lo lo' hi hi' : Nat) (l m : List Sl) (w : World) (hn : n ≤ 1048576) (hn' : n' ≤ 1048576) (hl : l.length = n) (hm : m.length = n')
  (h1 : Lies w lo hi A (scells l)) (h2 : Lies w lo' hi' B (scells m)) :
  Calls Tryz.prog 87 #[.slice A n c, .slice B n' d] w (SamePost w l m) := by
 have HK := Lib.hid (fun V (hV : V = w) => lib_equal A B n n' c d lo lo' hi hi' l m V hn hn' hl hm (hV ▸ h1) (hV ▸ h2))
 clear h1 h2 hl hm
 go_enter Tryz.func87, Tryz.ntmps87
 go_wp2_with fail
 refine (HK.out _ rfl).mono ?_
 rintro e w1 ⟨rfl, q, rfl⟩
 go_wp2_with fail
 go_ret
 exact ⟨rfl, q, rfl⟩
end Go.Proofs.YtldgadmpclgfhaaGreat.Slots
namespace Go.Proofs.YtldgadmpclgfhaaGreat.Grid
set_option maxHeartbeats 8000000
set_option maxRecDepth 100000
set_option maxRecDepth 100000
open Go.ChangeShapes Go.WideShapes Go.ChangeAt Go.RowKit
open Go.Proofs.YtldgadmpclgfhaaGreat.Base Go.Proofs.YtldgadmpclgfhaaGreat.Mem Go.Proofs.YtldgadmpclgfhaaGreat.Ints
set_option linter.unusedVariables false
theorem all_snoc {α : Type} (p : α → Bool) (l : List α) (k : Nat) (h : k < l.length) (ht : (l.take k).all p = true) : (l.take (k + 1)).all p = p l[k] := by
 rw [List.take_succ_eq_append_getElem h, List.all_append, ht]
 simp
theorem all_stop {α : Type} (p : α → Bool) (l : List α) (k : Nat) (h : k < l.length) (hs : p l[k] = false) : l.all p = false := by
 rw [List.all_eq_false]
 exact ⟨l[k], List.getElem_mem h, by simpa using hs⟩
def cellB (v : Int) : Bool := inB v 0 99
def cellsB (l : List Int) : Bool := l.all cellB
def pageB (l : List Int) : Bool := cellsB l && decide ((l.length : Int) = 4)
def pagesB (M : List (List Int)) : Bool := M.all pageB
def memB (M : List (List Int)) (pages : Int) : Bool := pagesB M && decide ((M.length : Int) = pages)
def hasPB (n : Nat) (page : Int) : Bool := inB page 0 ((n : Int) - 1)
def hasCB (M : List (List Int)) (page cell : Int) : Bool := hasPB M.length page && hasPB (M.getD page.toNat []).length cell
def cellAt (M : List (List Int)) (page cell : Int) : Int := if hasCB M page cell = true then (M.getD page.toNat []).getD cell.toNat 0 else 0
theorem impl_cellOk (v : Int) (w : World) :
  Calls Tryz.prog 108 #[.int .i64 v] w fun e w' => e = .returned (.bool (cellB v)) ∧ w = w' := by
 cases h1 : decide (0 ≤ v)
 all_goals
  cases h2 : decide (v ≤ 99)
  all_goals
   have hv : cellB v = (decide (0 ≤ v) && decide (v ≤ 99)) := rfl
   rw [h1, h2] at hv
   simp only [Bool.and_false, Bool.and_true] at hv
   rw [hv]; clear hv
   go_enter Tryz.func108, Tryz.ntmps108
   go_wp2
   go_ret
   exact ⟨rfl, rfl⟩
theorem impl_pageOk (A : Option Addr) (n c lo hi : Nat) (l : List Int) (w : World) (hn : n ≤ 1048576) (hl : l.length = n) (h1 : Lies w lo hi A (ncells l)) :
  Calls Tryz.prog 88 #[.slice A n c] w fun e w' => e = .returned (.bool (pageB l)) ∧ w = w' := by
 have H1 := Lib.hid h1
 have HL := Lib.hid hl
 clear h1 hl
 by_cases hsz : (n : Int) = 4
 ·
  have hn4 : n = 4 := by omega
  subst hn4
  go_enter Tryz.func88, Tryz.ntmps88
  go_wp2
  go_loop [4, 10] (fun _ i => ∃ (k : Nat), k ≤ 4 ∧ i = .int .i64 k ∧ (l.take k).all cellB = true) (fun _ i => 4 - (intOf i).toNat)
  case atStart => exact ⟨0, Nat.zero_le _, rfl, rfl⟩
  case round =>
   obtain ⟨k, hk, rfl, ht⟩ := hrel
   have HT := Lib.hid ht
   clear ht
   by_cases hlt : k < 4
   ·
    have hkl : k < l.length := by have := HL.out; omega
    obtain ⟨b, off, rfl, _, hbw, c1⟩ := int_at H1.out k hkl
    have hi0 : (0 : Int) ≤ (k : Int) := Int.natCast_nonneg _
    have hi1 : (k : Int) < 4 := by omega
    have hK := fun V : World => impl_cellOk l[k] V
    have hs := all_snoc cellB l k hkl HT.out
    have hf := all_stop cellB l k hkl
    generalize l[k] = x at c1 hK hs hf
    cases hv : cellB x
    ·
     rw [hv] at hK
     have HK := Lib.hid hK
     have HF := Lib.hid (hf hv)
     clear hK hf hs hv
     go_wp2_with fail
     refine (HK.out _).mono ?_
     rintro e w1 ⟨rfl, rfl⟩
     go_wp2_with fail
     go_ret
     exact ⟨by rw [pageB, cellsB, HF.out]; rfl, rfl⟩
    ·
     rw [hv] at hK hs
     have HK := Lib.hid hK
     have HS := Lib.hid hs
     clear hK hf hs hv
     go_wp2_with fail
     refine (HK.out _).mono ?_
     rintro e w1 ⟨rfl, rfl⟩
     go_wp2_with fail
     go_round
     case rel => exact ⟨k + 1, by omega, by go_num, HS.out⟩
     case measure => simp [intOf]; omega
   ·
    have hkn : k = 4 := by omega
    subst hkn
    have ht := HT.out
    rw [List.take_of_length_le (by have := HL.out; omega)] at ht
    have HT := Lib.hid ht
    clear ht
    go_wp2_with fail
    go_ret
    exact ⟨by rw [pageB, cellsB, HT.out, HL.out]; rfl, rfl⟩
 ·
  have hd : ((n : Int) == 4) = false := by simpa using hsz
  have hd' : ((n : Int) != 4) = true := by simpa using hsz
  have hne : ¬ n = 4 := by omega
  go_enter Tryz.func88, Tryz.ntmps88
  go_wp2
  go_ret
  exact ⟨by rw [pageB, HL.out, decide_eq_false hsz, Bool.and_false]; rfl, rfl⟩
theorem spec_pageOk (A : Option Addr) (n c lo hi : Nat) (l : List Int) (w : World) (hn : n ≤ 1048576) (hl : l.length = n) (h1 : Lies w lo hi A (ncells l)) :
  Calls Tryz.prog 96 #[.slice A n c] w fun e w' => e = .returned (.bool (pageB l)) ∧ w = w' := by
 have H1 := Lib.hid h1
 have HL := Lib.hid hl
 clear h1 hl
 go_enter Tryz.func96, Tryz.ntmps96
 go_wp2
 go_loop [3] (fun i => ∃ (k : Nat), k ≤ n ∧ i = .int .i64 k ∧ (l.take k).all cellB = true) (fun i => n - (intOf i).toNat)
 case atStart => exact ⟨0, Nat.zero_le _, rfl, rfl⟩
 case round =>
  obtain ⟨k, hk, rfl, ht⟩ := hrel
  have HT := Lib.hid ht
  clear ht
  by_cases hlt : k < n
  ·
   have hkl : k < l.length := by have := HL.out; omega
   obtain ⟨b, off, rfl, _, hbw, c1⟩ := int_at H1.out k hkl
   have hi0 : (0 : Int) ≤ (k : Int) := Int.natCast_nonneg _
   have hi1 : (k : Int) < n := by omega
   have hK := fun V : World => spec_in l[k] 0 99 V
   have hs := all_snoc cellB l k hkl HT.out
   have hf := all_stop cellB l k hkl
   generalize l[k] = x at c1 hK hs hf
   cases hv : inB x 0 99
   ·
    rw [hv] at hK
    have HK := Lib.hid hK
    have HF := Lib.hid (hf hv)
    clear hK hf hs hv
    go_wp2_with fail
    refine (HK.out _).mono ?_
    rintro e w1 ⟨rfl, rfl⟩
    go_wp2_with fail
    go_ret
    exact ⟨by rw [pageB, cellsB, HF.out]; rfl, rfl⟩
   ·
    rw [hv] at hK
    rw [show cellB x = true from hv] at hs
    have HK := Lib.hid hK
    have HS := Lib.hid hs
    clear hK hf hs hv
    go_wp2_with fail
    refine (HK.out _).mono ?_
    rintro e w1 ⟨rfl, rfl⟩
    go_wp2_with fail
    go_round
    case rel => exact ⟨k + 1, by omega, by go_num, HS.out⟩
    case measure => simp [intOf]; omega
  ·
   have hkn : k = n := by omega
   subst hkn
   have ht := HT.out
   rw [List.take_of_length_le (by have := HL.out; omega)] at ht
   have HT := Lib.hid ht
   clear ht
   go_wp2_with fail
   go_ret
   exact ⟨by rw [pageB, cellsB, HT.out, HL.out, Bool.true_and]; rfl, rfl⟩
end Go.Proofs.YtldgadmpclgfhaaGreat.Grid
namespace Go.Proofs.YtldgadmpclgfhaaGreat.Grid
set_option maxHeartbeats 8000000
set_option maxRecDepth 100000
set_option maxRecDepth 100000
open Go.ChangeShapes Go.WideShapes Go.ChangeAt Go.RowKit
open Go.Proofs.YtldgadmpclgfhaaGreat.Base Go.Proofs.YtldgadmpclgfhaaGreat.Mem Go.Proofs.YtldgadmpclgfhaaGreat.Ints
set_option linter.unusedVariables false
section
variable {P : Program}
end
theorem Lies.src {w : World} {lo hi : Nat} {A : Option Addr} {cs : List Value} (h : Lies w lo hi A cs) : ∀ j u, cs[j]? = some u → ∃ ad, A = some ad ∧ w.cell? (ad.add j) = some u := fun j u hu => by
 obtain ⟨b, off, e, _, _, z⟩ := h j u hu
 refine ⟨_, e, ?_⟩
 rw [Addr.add_lit]
 exact z
theorem ncells_one (l : List Int) : ∀ u ∈ ncells l, u.oneCell' = true := by
 intro u hu
 obtain ⟨b, _, rfl⟩ := List.mem_map.1 hu
 rfl
theorem ncells_set (l : List Int) (j : Nat) (v : Int) : (ncells l).set j (.int .i64 v) = ncells (l.set j v) := by
 simp [ncells, List.map_set]
theorem splice_all {α : Type} (L cs : List α) (h : cs.length = L.length) : splice L 0 cs = cs := by
 simp [splice, h]
theorem row_of_block {w : World} {base g n : Nat} {e : TypeId} {cs : List Value} (hg : w.heap[g]? = some (.cells cs.toArray e (0, 0))) (hb : base ≤ g) (hn : cs.length = n) (hm : n ≤ maxLen) : w.ownsRow base e 1 (.slice (some ⟨g, 0, none⟩) n n) n cs :=
 ⟨by omega, .inr ⟨g, n, cs.toArray, rfl, hb, hg, Nat.le_refl _, hm, by simp [hn], by rw [Nat.mul_one]; exact List.take_of_length_le (by simp [hn])⟩⟩
theorem block_of_row {w : World} {base g n : Nat} {e : TypeId} {cs : List Value} (h : w.ownsRow base e 1 (.slice (some ⟨g, 0, none⟩) n n) n cs) : ∃ cur : List Value, w.heap[g]? = some (.cells cur.toArray e (0, 0)) ∧ cur.length = n := by
 rcases h.2 with ⟨h', _⟩ | ⟨g', cap, cur, h', hb, hg, hnc, _, hcs, htake⟩
 ·
  cases h'
 ·
  injection h' with h1 h2 h3
  injection h1 with h1
  injection h1 with h1
  subst h1 h3
  exact ⟨cur.toList, by simpa using hg, by simpa using hcs⟩
end Go.Proofs.YtldgadmpclgfhaaGreat.Grid
namespace Go.Proofs.YtldgadmpclgfhaaGreat.Grid
set_option maxHeartbeats 8000000
set_option maxRecDepth 100000
set_option maxRecDepth 100000
open Go.ChangeShapes Go.WideShapes Go.ChangeAt Go.RowKit
open Go.Proofs.YtldgadmpclgfhaaGreat.BroughtW
theorem spec_brought (n l m : Int) (w : World) :
  Calls Tryz.prog 83 #[.int .i64 n, .int .i64 l, .int .i64 m] w fun e w' => e = .returned (.int .i64 (brought n l m)) ∧ w = w' := by
 by_cases h1 : m < l
 ·
  have hb : brought n l m = l := by unfold brought; rw [if_pos (Or.inl h1)]
  rw [hb]; clear hb
  go_enter Tryz.func83, Tryz.ntmps83
  go_wp2
  go_ret
  exact ⟨rfl, rfl⟩
 ·
  by_cases h2 : n < l
  ·
   have hb : brought n l m = l := by unfold brought; rw [if_pos (Or.inr h2)]
   rw [hb]; clear hb
   go_enter Tryz.func83, Tryz.ntmps83
   go_wp2
   go_ret
   exact ⟨rfl, rfl⟩
  ·
   by_cases h3 : m < n
   ·
    have hb : brought n l m = m := by unfold brought; rw [if_neg (by omega), if_pos h3]
    rw [hb]; clear hb
    go_enter Tryz.func83, Tryz.ntmps83
    go_wp2
    go_ret
    exact ⟨rfl, rfl⟩
   ·
    have hb : brought n l m = n := by unfold brought; rw [if_neg (by omega), if_neg h3]
    rw [hb]; clear hb
    go_enter Tryz.func83, Tryz.ntmps83
    go_wp2
    go_ret
    exact ⟨rfl, rfl⟩
end Go.Proofs.YtldgadmpclgfhaaGreat.Grid
namespace Go.Proofs.YtldgadmpclgfhaaGreat.Grid
set_option maxHeartbeats 8000000
set_option maxRecDepth 100000
set_option maxRecDepth 100000
open Go.ChangeShapes Go.WideShapes Go.ChangeAt Go.RowKit
open Go.Proofs.YtldgadmpclgfhaaGreat.Base Go.Proofs.YtldgadmpclgfhaaGreat.Mem Go.Proofs.YtldgadmpclgfhaaGreat.Ints
set_option linter.unusedVariables false
def newN (a : Int) : Nat := (BroughtW.brought a 0 24).toNat
theorem newN_le (a : Int) : newN a ≤ 24 := by unfold newN BroughtW.brought; split <;> (try split) <;> omega
theorem newN_eq (a : Int) : BroughtW.brought a 0 24 = (newN a : Int) := by unfold newN BroughtW.brought; split <;> (try split) <;> omega
end Go.Proofs.YtldgadmpclgfhaaGreat.Grid
namespace Go.Proofs.YtldgadmpclgfhaaGreat.Grid
set_option maxHeartbeats 8000000
set_option maxRecDepth 100000
set_option maxRecDepth 100000
open Go.ChangeShapes Go.WideShapes Go.ChangeAt Go.RowKit
open Go.Proofs.YtldgadmpclgfhaaGreat.Base Go.Proofs.YtldgadmpclgfhaaGreat.Mem Go.Proofs.YtldgadmpclgfhaaGreat.Ints
set_option linter.unusedVariables false
theorem OG.cell {w : World} {lo hi : Nat} {A : Option Addr} {M : List (List Int)} {hs : List Hd} (h : OG w lo hi A M hs) (hh : hi ≤ w.heap.size) (k j : Nat) (hk : k < M.length) (hj : j < M[k].length) :
  ∃ b off b' off' c, A = some ⟨b, off, none⟩ ∧ b < hi ∧ w.cell? ⟨b, off + k, none⟩ = some (.slice (some ⟨b', off', none⟩) M[k].length c) ∧ (∃ u, w.cell? ⟨b', off' + j, none⟩ = some u) ∧ w.frozen? ⟨b', off' + j, none⟩ = false ∧
   ∀ v : Int, OG (w.setCell ⟨b', off' + j, none⟩ (.int .i64 v)) lo hi A (M.set k (M[k].set j v)) hs ∧ Turned lo hi w (w.setCell ⟨b', off' + j, none⟩ (.int .i64 v)) := by
 obtain ⟨b, off, B, c, lo', hi', e, hb, hc, ho, hn⟩ := h.write hh k hk
 obtain ⟨b', off', rfl, x, y, c2⟩ := int_at ho.1 j hj
 refine ⟨b, off, b', off', c, e, hb, hc, ⟨_, c2⟩, ho.2 _ _ rfl (by rw [ncells_len]; omega) _, fun v => ?_⟩
 have h1 := ho.set j (.int .i64 v)
 rw [ncells_set] at h1
 exact hn _ _ (by simp) h1 ((Turned.refl lo' hi' w).setCell x y _)
end Go.Proofs.YtldgadmpclgfhaaGreat.Grid
namespace Go.Proofs.YtldgadmpclgfhaaGreat.Grid
set_option maxHeartbeats 8000000
set_option maxRecDepth 100000
set_option maxRecDepth 100000
open Go.ChangeShapes Go.WideShapes Go.ChangeAt Go.RowKit
open Go.Proofs.YtldgadmpclgfhaaGreat.Base Go.Proofs.YtldgadmpclgfhaaGreat.Mem Go.Proofs.YtldgadmpclgfhaaGreat.Ints
set_option linter.unusedVariables false
def SameP {α : Type} [DecidableEq α] (w : World) (l m : List α) (e : Ending) (w' : World) : Prop := e = .returned (.bool (decide (l = m))) ∧ ∃ q, w' = w.drewN q
theorem same_step {α : Type} {l m : List α} {k : Nat} (hl : k < l.length) (hm : k < m.length) (h : l.take k = m.take k) :
  (l[k] = m[k] → l.take (k + 1) = m.take (k + 1)) ∧ (l[k] ≠ m[k] → l ≠ m) := by
 refine ⟨fun e => ?_, fun e => ?_⟩
 ·
  rw [List.take_succ_eq_append_getElem hl, List.take_succ_eq_append_getElem hm, h, e]
 ·
  rintro rfl
  exact e rfl
section
variable {α : Type} [DecidableEq α] {w : World} {l m : List α}
theorem SameP.yes {P : Program} {f : FuncId} {args : Array Value} {w0 : World} (h : Calls P f args w0 (SameP w l m)) (e : l = m) : Calls P f args w0 fun e w' => e = .returned (.bool true) ∧ ∃ q, w' = w.drewN q :=
 h.mono fun e1 w' ⟨h1, h2⟩ => ⟨by rw [h1, decide_eq_true e], h2⟩
theorem SameP.no {P : Program} {f : FuncId} {args : Array Value} {w0 : World} (h : Calls P f args w0 (SameP w l m)) (e : l ≠ m) : Calls P f args w0 fun e w' => e = .returned (.bool false) ∧ ∃ q, w' = w.drewN q :=
 h.mono fun e1 w' ⟨h1, h2⟩ => ⟨by rw [h1, decide_eq_false e], h2⟩
theorem same_no (q : Nat) (h : l ≠ m) : SameP w l m (.returned (.bool false)) (w.drewN q) := ⟨by rw [decide_eq_false h], q, rfl⟩
theorem same_no2 (q r : Nat) (h : l ≠ m) : SameP w l m (.returned (.bool false)) ((w.drewN q).drewN r) := ⟨by rw [decide_eq_false h], q + r, World.drewN_drewN ..⟩
def Drawn (w w' : World) : Prop := ∃ q, w' = w.drewN q
theorem Drawn.cell {w' : World} (h : Drawn w w') (p : Addr) : w'.cell? p = w.cell? p := by
 obtain ⟨q, rfl⟩ := h
 rfl
theorem Drawn.lies {w' : World} (h : Drawn w w') {lo hi : Nat} {A : Option Addr} {cs : List Value} (k : Lies w lo hi A cs) : Lies w' lo hi A cs := by
 obtain ⟨q, rfl⟩ := h
 exact k
theorem Drawn.more {w' : World} (h : Drawn w w') (r : Nat) : Drawn w (w'.drewN (1 + r)) := by
 obtain ⟨q, rfl⟩ := h
 exact ⟨q + (1 + r), World.drewN_drewN ..⟩
theorem same_yes {n : Nat} (q : Nat) (h : l.take n = m.take n) (hl : l.length = n) (hm : m.length = n) : SameP w l m (.returned (.bool true)) (w.drewN q) := by
 rw [List.take_of_length_le (by omega), List.take_of_length_le (by omega)] at h
 exact ⟨by rw [decide_eq_true h], q, rfl⟩
end
theorem lib_equal (A B : Option Addr) (n n' c d lo lo' hi hi' : Nat) (l m : List Int) (w : World) (hn : n ≤ 1048576) (hn' : n' ≤ 1048576) (hl : l.length = n) (hm : m.length = n')
  (h1 : Lies w lo hi A (ncells l)) (h2 : Lies w lo' hi' B (ncells m)) :
  Calls Tryz.prog 53 #[.slice A n c, .slice B n' d] w (SameP w l m) := by
 have H1 := Lib.hid h1
 have H2 := Lib.hid h2
 have HL := Lib.hid hl
 have HM := Lib.hid hm
 clear h1 h2 hl hm
 by_cases hnn : n = n'
 ·
  subst hnn
  go_enter Tryz.func53, Tryz.ntmps53
  go_wp2
  go_loopw [5, 13] (fun _ i wr => ∃ (k q : Nat), k ≤ n ∧ i = .int .i64 k ∧ l.take k = m.take k ∧ wr = w.drewN q) (fun _ i _ => n - (intOf i).toNat)
  case atStart => exact ⟨0, 0, Nat.zero_le _, rfl, rfl, rfl⟩
  case round =>
   obtain ⟨k, q, hk, rfl, ht, rfl⟩ := hrel
   have HT := Lib.hid ht
   clear ht
   by_cases hlt : k < n
   ·
    have hkl : k < l.length := by have := HL.out; omega
    have hkm : k < m.length := by have := HM.out; omega
    obtain ⟨b, off, rfl, _, hbw, c1⟩ := int_at H1.out k hkl
    obtain ⟨b', off', rfl, _, hbw', c2⟩ := int_at H2.out k hkm
    have hi0 : (0 : Int) ≤ (k : Int) := Int.natCast_nonneg _
    have hi1 : (k : Int) < (n : Int) := by omega
    have HP := Lib.hid (same_step hkl hkm HT.out)
    generalize l[k] = x at c1 HP
    generalize m[k] = y at c2 HP
    by_cases hx : x = y
    ·
     subst hx
     go_wp2
     go_quiet (fail)
     go_wp2
     go_roundw
     case rel => exact ⟨k + 1, _, by omega, by go_num, HP.out.1 (by simp), rfl⟩
     case measure => simp [intOf]; omega
    ·
     have hx' : (x == y) = false := by simpa using hx
     have hx2 : (x != y) = true := by simpa using hx
     go_wp2
     go_quiet (fail)
     go_wp2
     go_ret
     exact same_no2 _ _ (HP.out.2 hx)
   ·
    have hkn : k = n := by omega
    subst hkn
    go_wp2
    go_ret
    exact same_yes _ HT.out HL.out HM.out
 ·
  have hd : (n == n') = false := by simpa using hnn
  have hd' : ((n : Int) == (n' : Int)) = false := by simp; omega
  go_enter Tryz.func53, Tryz.ntmps53
  go_wp2
  go_ret
  exact same_no 0 (fun e => hnn (by rw [← HL.out, ← HM.out, e]))
theorem law_ints (A B : Option Addr) (n n' c d lo lo' hi hi' : Nat) (l m : List Int) (w : World) (hn : n ≤ 1048576) (hn' : n' ≤ 1048576) (hl : l.length = n) (hm : m.length = n')
  (h1 : Lies w lo hi A (ncells l)) (h2 : Lies w lo' hi' B (ncells m)) :
  Calls Tryz.prog 43 #[.slice A n c, .slice B n' d] w (SameP w l m) := by
 have H1 := Lib.hid h1
 have H2 := Lib.hid h2
 have HL := Lib.hid hl
 have HM := Lib.hid hm
 clear h1 h2 hl hm
 by_cases hnn : n = n'
 ·
  subst hnn
  go_enter Tryz.func43, Tryz.ntmps43
  go_wp2
  go_loopw [5] (fun  i wr => ∃ (k q : Nat), k ≤ n ∧ i = .int .i64 k ∧ l.take k = m.take k ∧ wr = w.drewN q) (fun  i _ => n - (intOf i).toNat)
  case atStart => exact ⟨0, 0, Nat.zero_le _, rfl, rfl, rfl⟩
  case round =>
   obtain ⟨k, q, hk, rfl, ht, rfl⟩ := hrel
   have HT := Lib.hid ht
   clear ht
   by_cases hlt : k < n
   ·
    have hkl : k < l.length := by have := HL.out; omega
    have hkm : k < m.length := by have := HM.out; omega
    obtain ⟨b, off, rfl, _, hbw, c1⟩ := int_at H1.out k hkl
    obtain ⟨b', off', rfl, _, hbw', c2⟩ := int_at H2.out k hkm
    have hi0 : (0 : Int) ≤ (k : Int) := Int.natCast_nonneg _
    have hi1 : (k : Int) < (n : Int) := by omega
    have HP := Lib.hid (same_step hkl hkm HT.out)
    generalize l[k] = x at c1 HP
    generalize m[k] = y at c2 HP
    by_cases hx : x = y
    ·
     subst hx
     go_wp2
     go_quiet (fail)
     go_wp2
     go_roundw
     case rel => exact ⟨k + 1, _, by omega, by go_num, HP.out.1 (by simp), rfl⟩
     case measure => simp [intOf]; omega
    ·
     have hx' : (x == y) = false := by simpa using hx
     have hx2 : (x != y) = true := by simpa using hx
     go_wp2
     go_quiet (fail)
     go_wp2
     go_ret
     exact same_no2 _ _ (HP.out.2 hx)
   ·
    have hkn : k = n := by omega
    subst hkn
    go_wp2
    go_ret
    exact same_yes _ HT.out HL.out HM.out
 ·
  have hd : (n == n') = false := by simpa using hnn
  have hd' : ((n : Int) == (n' : Int)) = false := by simp; omega
  go_enter Tryz.func43, Tryz.ntmps43
  go_wp2
  go_ret
  exact same_no 0 (fun e => hnn (by rw [← HL.out, ← HM.out, e]))
end Go.Proofs.YtldgadmpclgfhaaGreat.Grid
namespace Go.Proofs.YtldgadmpclgfhaaGreat.Sx
set_option maxHeartbeats 8000000
set_option maxRecDepth 100000
set_option maxRecDepth 100000
open Go.ChangeShapes Go.WideShapes Go.ChangeAt Go.RowKit Go.Deep
set_option linter.unusedVariables false
theorem run_eqs {P : Program} {ρ : Operand → Value} {o : Oper} {op : BinOp} {t t' : TypeId} {x y : Operand} {xs ys : Array Value} {v : Value} (hop : o.op = .binOp op t x y t') (hx : ρ x = .agg xs) (hy : ρ y = .agg ys) (hm : P.eqGuardType P.depth t = false)
  (he : ∀ w, (binOp op t (.agg xs) (.agg ys)).run P w = .ok v w) (w : World) : (execOp ρ o).run P w = .ok (.value v) w := by
 unfold execOp
 simp only [hop, hx, hy, Sem.run_bind, run_eqGuard_agg _ _ _ _ _ _ _ hm, he, Sem.run_pure, Result.andThen_ok]
end Go.Proofs.YtldgadmpclgfhaaGreat.Sx
