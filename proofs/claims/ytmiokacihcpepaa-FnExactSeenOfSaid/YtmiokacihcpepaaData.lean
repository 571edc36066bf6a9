/-
  How values of a Lean type lie in memory: numbers, booleans, strings, pairs, lists (slices), and what is made of them; read only ('rd') or in memory of their own ('own', with the blocks that they use); no statement about the program stands here. No condition.
-/
import Derived.Test.YtmiokacihcpepaaMem
namespace Go.Proofs.Ytmiokacihcpepaa.Data
set_option maxRecDepth 100000
open Go.ChangeShapes Go.WideShapes Go.ChangeAt Go.RowKit
open Go.Proofs.Ytmiokacihcpepaa.Base Go.Proofs.Ytmiokacihcpepaa.Mem
set_option linter.unusedVariables false

/-- Values of a type in memory: 'sz' cells each; 'val' is the value that has the cells; 'rd': the cells show x, and what they lead to lies in blocks lo .. hi - 1; 'own': .. in the blocks F, none of them frozen. -/
structure Rp (α : Type) where
  sz : Nat
  val : List Value → Value
  rd : World → Nat → Nat → α → List Value → Prop
  own : World → Nat → Nat → α → List Value → List Nat → Prop
  /-- every number of an int's range, every list of a length that a machine holds -/
  wf : α → Prop
  /-- no list longer than 2^21 -/
  cap : α → Prop
  /-- the laws' size: the lengths of all slices together -/
  size : α → Nat
  /-- how many leaves, and the value with its leaves marked from k on; the same of a value that is handed over by value ('t': what lies behind its slices alone) -/
  cnt : α → Nat
  mark : Nat → α → α
  tcnt : α → Nat
  top : Nat → α → α
  len : ∀ {w : World} {lo hi : Nat} {x : α} {cs : List Value}, rd w lo hi x cs → cs.length = sz
  kept : ∀ {w w' : World} {lo hi : Nat} {x : α} {cs : List Value}, rd w lo hi x cs → (∀ k, lo ≤ k → k < hi → w'.heap[k]? = w.heap[k]?) → rd w' lo hi x cs
  wide : ∀ {w : World} {lo hi lo' hi' : Nat} {x : α} {cs : List Value}, rd w lo hi x cs → lo' ≤ lo → hi ≤ hi' → rd w lo' hi' x cs
  reads : ∀ {w : World} {lo hi : Nat} {x : α} {cs : List Value} {F : List Nat}, own w lo hi x cs F → rd w lo hi x cs
  okept : ∀ {w w' : World} {lo hi : Nat} {x : α} {cs : List Value} {F : List Nat}, own w lo hi x cs F → (∀ k ∈ F, w'.heap[k]? = w.heap[k]?) → own w' lo hi x cs F
  owide : ∀ {w : World} {lo hi lo' hi' : Nat} {x : α} {cs : List Value} {F : List Nat}, own w lo hi x cs F → lo' ≤ lo → hi ≤ hi' → own w lo' hi' x cs F
  inF : ∀ {w : World} {lo hi : Nat} {x : α} {cs : List Value} {F : List Nat}, own w lo hi x cs F → ∀ k ∈ F, lo ≤ k ∧ k < hi

/-- A value of its own: no block is used twice. -/
def Own {α : Type} (r : Rp α) (w : World) (lo hi : Nat) (x : α) (cs : List Value) : Prop := ∃ F, r.own w lo hi x cs F ∧ F.Nodup

section
variable {α : Type} {r : Rp α} {w w' : World} {lo hi lo' hi' : Nat} {x : α} {cs : List Value}
theorem rd_below {B : Nat} (h : r.rd w lo hi x cs) (hb : Below B w w') (hB : hi ≤ B) : r.rd w' lo hi x cs := r.kept h fun k _ h2 => hb.block k (by omega)
theorem rd_turned {lo2 hi2 : Nat} (h : r.rd w lo hi x cs) (hb : ∀ k, k < w.heap.size → (k < lo2 ∨ hi2 ≤ k) → w'.heap[k]? = w.heap[k]?) (hh : hi ≤ w.heap.size) (hd : hi ≤ lo2 ∨ hi2 ≤ lo) : r.rd w' lo hi x cs :=
  r.kept h fun k h1 h2 => hb k (by omega) (by omega)
theorem Own.reads (h : Own r w lo hi x cs) : r.rd w lo hi x cs := by
  obtain ⟨F, h, _⟩ := h
  exact r.reads h
theorem Own.kept (h : Own r w lo hi x cs) (hb : ∀ k, lo ≤ k → k < hi → w'.heap[k]? = w.heap[k]?) : Own r w' lo hi x cs := by
  obtain ⟨F, h, hF⟩ := h
  exact ⟨F, r.okept h fun k hk => hb k (r.inF h k hk).1 (r.inF h k hk).2, hF⟩
theorem Own.wide (h : Own r w lo hi x cs) (h1 : lo' ≤ lo) (h2 : hi ≤ hi') : Own r w lo' hi' x cs := by
  obtain ⟨F, h, hF⟩ := h
  exact ⟨F, r.owide h h1 h2, hF⟩
theorem Own.below {B : Nat} (h : Own r w lo hi x cs) (hb : Below B w w') (hB : hi ≤ B) : Own r w' lo hi x cs := h.kept fun k _ h2 => hb.block k (by omega)
theorem Own.turned {lo2 hi2 : Nat} (h : Own r w lo hi x cs) (hb : ∀ k, k < w.heap.size → (k < lo2 ∨ hi2 ≤ k) → w'.heap[k]? = w.heap[k]?) (hh : hi ≤ w.heap.size) (hd : hi ≤ lo2 ∨ hi2 ≤ lo) : Own r w' lo hi x cs :=
  h.kept fun k h1 h2 => hb k (by omega) (by omega)
theorem Own.drew (h : Own r w lo hi x cs) : Own r w.drew lo hi x cs := h.kept fun _ _ _ => rfl
end

/-! ### Numbers, booleans, strings -/
def rInt : Rp Int where
  sz := 1
  val cs := cs.headD undef
  rd _ _ _ x cs := cs = [.int .i64 x]
  own _ _ _ x cs F := cs = [.int .i64 x] ∧ F = []
  wf x := (Lit.int .i64 x).wf = true
  cap _ := True
  size _ := 0
  cnt _ := 1
  mark k _ := k
  tcnt _ := 0
  top _ x := x
  len h := by rw [h]; rfl
  kept h _ := h
  wide h _ _ := h
  reads h := h.1
  okept h _ := h
  owide h _ _ := h
  inF h k hk := by rw [h.2] at hk; cases hk
def rBool : Rp Bool where
  sz := 1
  val cs := cs.headD undef
  rd _ _ _ x cs := cs = [.bool x]
  own _ _ _ x cs F := cs = [.bool x] ∧ F = []
  wf _ := True
  cap _ := True
  size _ := 0
  cnt _ := 1
  mark k _ := k % 3 == 0
  tcnt _ := 0
  top _ x := x
  len h := by rw [h]; rfl
  kept h _ := h
  wide h _ _ := h
  reads h := h.1
  okept h _ := h
  owide h _ _ := h
  inF h k hk := by rw [h.2] at hk; cases hk

/-! ### Pairs (a struct's fields, one behind the other) -/
def rPair {α β : Type} (r : Rp α) (q : Rp β) : Rp (α × β) where
  sz := r.sz + q.sz
  val cs := .agg cs.toArray
  rd w lo hi x cs := ∃ c1 c2, cs = c1 ++ c2 ∧ r.rd w lo hi x.1 c1 ∧ q.rd w lo hi x.2 c2
  own w lo hi x cs F := ∃ c1 c2 F1 F2, cs = c1 ++ c2 ∧ F = F1 ++ F2 ∧ r.own w lo hi x.1 c1 F1 ∧ q.own w lo hi x.2 c2 F2
  wf x := r.wf x.1 ∧ q.wf x.2
  cap x := r.cap x.1 ∧ q.cap x.2
  size x := r.size x.1 + q.size x.2
  cnt x := r.cnt x.1 + q.cnt x.2
  mark k x := (r.mark k x.1, q.mark (k + r.cnt x.1) x.2)
  tcnt x := r.tcnt x.1 + q.tcnt x.2
  top k x := (r.top k x.1, q.top (k + r.tcnt x.1) x.2)
  len h := by
    obtain ⟨c1, c2, rfl, h1, h2⟩ := h
    rw [List.length_append, r.len h1, q.len h2]
  kept h hb := by
    obtain ⟨c1, c2, e, h1, h2⟩ := h
    exact ⟨c1, c2, e, r.kept h1 hb, q.kept h2 hb⟩
  wide h a b := by
    obtain ⟨c1, c2, e, h1, h2⟩ := h
    exact ⟨c1, c2, e, r.wide h1 a b, q.wide h2 a b⟩
  reads h := by
    obtain ⟨c1, c2, F1, F2, e, _, h1, h2⟩ := h
    exact ⟨c1, c2, e, r.reads h1, q.reads h2⟩
  okept h hb := by
    obtain ⟨c1, c2, F1, F2, e, rfl, h1, h2⟩ := h
    exact ⟨c1, c2, F1, F2, e, rfl, r.okept h1 fun k hk => hb k (by simp [hk]), q.okept h2 fun k hk => hb k (by simp [hk])⟩
  owide h a b := by
    obtain ⟨c1, c2, F1, F2, e, f, h1, h2⟩ := h
    exact ⟨c1, c2, F1, F2, e, f, r.owide h1 a b, q.owide h2 a b⟩
  inF h k hk := by
    obtain ⟨c1, c2, F1, F2, e, rfl, h1, h2⟩ := h
    rcases List.mem_append.1 hk with hk | hk
    · exact r.inF h1 k hk
    · exact q.inF h2 k hk

/-! ### Lists -/
section
variable {α : Type} (r : Rp α)
def rdAll (w : World) (lo hi : Nat) : List α → List Value → Prop
  | [], ds => ds = []
  | x :: xs, ds => ∃ c1 c2, ds = c1 ++ c2 ∧ r.rd w lo hi x c1 ∧ rdAll w lo hi xs c2
def ownAll (w : World) (lo hi : Nat) : List α → List Value → List Nat → Prop
  | [], ds, F => ds = [] ∧ F = []
  | x :: xs, ds, F => ∃ c1 c2 F1 F2, ds = c1 ++ c2 ∧ F = F1 ++ F2 ∧ r.own w lo hi x c1 F1 ∧ ownAll w lo hi xs c2 F2
def mkAll : Nat → List α → List α
  | _, [] => []
  | k, x :: xs => r.mark k x :: mkAll (k + r.cnt x) xs
def cntAll : List α → Nat
  | [] => 0
  | x :: xs => r.cnt x + cntAll xs
def sizeAll : List α → Nat
  | [] => 0
  | x :: xs => r.size x + sizeAll xs
/-- The block of a slice that is not empty. -/
def blks (A : Option Addr) (ds : List Value) : List Nat := if ds = [] then [] else (A.map Addr.block).toList

variable {r} {w w' : World} {lo hi lo' hi' : Nat}
theorem rdAll_len : ∀ {xs : List α} {ds : List Value}, rdAll r w lo hi xs ds → ds.length = xs.length * r.sz
  | [], ds, h => by rw [show ds = [] from h]; simp
  | x :: xs, ds, h => by
    obtain ⟨c1, c2, rfl, h1, h2⟩ := h
    rw [List.length_append, r.len h1, rdAll_len h2, List.length_cons, Nat.add_mul]
    omega
theorem rdAll_kept (hb : ∀ k, lo ≤ k → k < hi → w'.heap[k]? = w.heap[k]?) : ∀ {xs : List α} {ds : List Value}, rdAll r w lo hi xs ds → rdAll r w' lo hi xs ds
  | [], ds, h => h
  | x :: xs, ds, h => by
    obtain ⟨c1, c2, e, h1, h2⟩ := h
    exact ⟨c1, c2, e, r.kept h1 hb, rdAll_kept hb h2⟩
theorem rdAll_wide (a : lo' ≤ lo) (b : hi ≤ hi') : ∀ {xs : List α} {ds : List Value}, rdAll r w lo hi xs ds → rdAll r w lo' hi' xs ds
  | [], ds, h => h
  | x :: xs, ds, h => by
    obtain ⟨c1, c2, e, h1, h2⟩ := h
    exact ⟨c1, c2, e, r.wide h1 a b, rdAll_wide a b h2⟩
theorem ownAll_reads : ∀ {xs : List α} {ds : List Value} {F : List Nat}, ownAll r w lo hi xs ds F → rdAll r w lo hi xs ds
  | [], ds, F, h => h.1
  | x :: xs, ds, F, h => by
    obtain ⟨c1, c2, F1, F2, e, _, h1, h2⟩ := h
    exact ⟨c1, c2, e, r.reads h1, ownAll_reads h2⟩
theorem ownAll_kept : ∀ {xs : List α} {ds : List Value} {F : List Nat}, ownAll r w lo hi xs ds F → (∀ k ∈ F, w'.heap[k]? = w.heap[k]?) → ownAll r w' lo hi xs ds F
  | [], ds, F, h, _ => h
  | x :: xs, ds, F, h, hb => by
    obtain ⟨c1, c2, F1, F2, e, rfl, h1, h2⟩ := h
    exact ⟨c1, c2, F1, F2, e, rfl, r.okept h1 fun k hk => hb k (by simp [hk]), ownAll_kept h2 fun k hk => hb k (by simp [hk])⟩
theorem ownAll_wide (a : lo' ≤ lo) (b : hi ≤ hi') : ∀ {xs : List α} {ds : List Value} {F : List Nat}, ownAll r w lo hi xs ds F → ownAll r w lo' hi' xs ds F
  | [], ds, F, h => h
  | x :: xs, ds, F, h => by
    obtain ⟨c1, c2, F1, F2, e, f, h1, h2⟩ := h
    exact ⟨c1, c2, F1, F2, e, f, r.owide h1 a b, ownAll_wide a b h2⟩
theorem ownAll_inF : ∀ {xs : List α} {ds : List Value} {F : List Nat}, ownAll r w lo hi xs ds F → ∀ k ∈ F, lo ≤ k ∧ k < hi
  | [], ds, F, h, k, hk => by rw [h.2] at hk; cases hk
  | x :: xs, ds, F, h, k, hk => by
    obtain ⟨c1, c2, F1, F2, e, rfl, h1, h2⟩ := h
    rcases List.mem_append.1 hk with hk | hk
    · exact r.inF h1 k hk
    · exact ownAll_inF h2 k hk
theorem owned_agree {A : Option Addr} {ds : List Value} (h : Owned w lo hi A ds) (hb : ∀ k ∈ blks A ds, w'.heap[k]? = w.heap[k]?) : Owned w' lo hi A ds := by
  by_cases hd : ds = []
  · subst hd
    exact ⟨Lies.nil, fun b off e h => by simp at h⟩
  · have hn : 0 < ds.length := List.length_pos_iff.2 hd
    obtain ⟨b, off, rfl, x, y, hc⟩ := h.1.at_ hn
    have hk : w'.heap[b]? = w.heap[b]? := hb b (by simp [blks, hd])
    refine ⟨fun j u hu => ⟨b, off, rfl, x, y, (World.cell?_of_block (w := w) (a := ⟨b, off + j, none⟩) hk).trans (hc j u hu)⟩, fun b' off' e _ j => ?_⟩
    cases e
    exact (World.frozen?_of_block (w := w) (a := ⟨b, j, none⟩) hk).trans (h.2 b off rfl hn j)
theorem blks_in {A : Option Addr} {ds : List Value} (h : Owned w lo hi A ds) {k : Nat} (hk : k ∈ blks A ds) : lo ≤ k ∧ k < hi := by
  by_cases hd : ds = []
  · simp [blks, hd] at hk
  · obtain ⟨b, off, rfl, x, y, _⟩ := h.1.at_ (List.length_pos_iff.2 hd)
    simp [blks, hd] at hk
    subst hk
    exact ⟨x, y⟩
def rList (r : Rp α) : Rp (List α) where
  sz := 1
  val cs := cs.headD undef
  rd w lo hi xs cs := ∃ A c ds, cs = [.slice A xs.length c] ∧ rdAll r w lo hi xs ds ∧ Lies w lo hi A ds
  own w lo hi xs cs F := ∃ A c ds F1, cs = [.slice A xs.length c] ∧ F = blks A ds ++ F1 ∧ ownAll r w lo hi xs ds F1 ∧ Owned w lo hi A ds
  wf xs := xs.length ≤ maxLen ∧ ∀ x ∈ xs, r.wf x
  cap xs := xs.length ≤ 2097152 ∧ ∀ x ∈ xs, r.cap x
  size xs := xs.length + sizeAll r xs
  cnt xs := cntAll r xs
  mark k xs := mkAll r k xs
  tcnt xs := cntAll r xs
  top k xs := mkAll r k xs
  len h := by obtain ⟨A, c, ds, rfl, _⟩ := h; rfl
  kept h hb := by
    obtain ⟨A, c, ds, e, h1, h2⟩ := h
    exact ⟨A, c, ds, e, rdAll_kept hb h1, h2.kept hb⟩
  wide h a b := by
    obtain ⟨A, c, ds, e, h1, h2⟩ := h
    exact ⟨A, c, ds, e, rdAll_wide a b h1, h2.wide a b⟩
  reads h := by
    obtain ⟨A, c, ds, F1, e, _, h1, h2⟩ := h
    exact ⟨A, c, ds, e, ownAll_reads h1, h2.1⟩
  okept h hb := by
    obtain ⟨A, c, ds, F1, e, rfl, h1, h2⟩ := h
    exact ⟨A, c, ds, F1, e, rfl, ownAll_kept h1 fun k hk => hb k (by simp [hk]), owned_agree h2 fun k hk => hb k (by simp [hk])⟩
  owide h a b := by
    obtain ⟨A, c, ds, F1, e, f, h1, h2⟩ := h
    exact ⟨A, c, ds, F1, e, f, ownAll_wide a b h1, h2.wide a b⟩
  inF h k hk := by
    obtain ⟨A, c, ds, F1, e, rfl, h1, h2⟩ := h
    rcases List.mem_append.1 hk with hk | hk
    · exact blks_in h2 hk
    · exact ownAll_inF h1 k hk
end

/-- A type of one's own, by what it is made of. -/
def rVia {α β : Type} (q : Rp β) (f : α → β) (g : β → α) : Rp α where
  sz := q.sz
  val := q.val
  rd w lo hi x := q.rd w lo hi (f x)
  own w lo hi x := q.own w lo hi (f x)
  wf x := q.wf (f x)
  cap x := q.cap (f x)
  size x := q.size (f x)
  cnt x := q.cnt (f x)
  mark k x := g (q.mark k (f x))
  tcnt x := q.tcnt (f x)
  top k x := g (q.top k (f x))
  len h := q.len h
  kept h := q.kept h
  wide h := q.wide h
  reads h := q.reads h
  okept h := q.okept h
  owide h := q.owide h
  inF h := q.inF h
end Go.Proofs.Ytmiokacihcpepaa.Data
