/-
  The given model's draws of arguments for chapter 3's functions: tables and slots whose numbers are of an int's range, in new memory; no statement about the project's code stands here. No condition.
-/
import Derived.Test.YtflnjbcediecjaaSlotTab
namespace Go.Proofs.Ytflnjbcediecjaa.SDraw
set_option maxRecDepth 100000
open Go.ChangeShapes Go.WideShapes Go.ChangeAt Go.RowKit
open Go.Proofs.Ytflnjbcediecjaa.Base Go.Proofs.Ytflnjbcediecjaa.Mem Go.Proofs.Ytflnjbcediecjaa.Slots Go.Proofs.Ytflnjbcediecjaa.Draw
set_option linter.unusedVariables false

theorem wf_pred {x : Int} (h0 : 0 ≤ x) (h1 : x < 5) : (Lit.int .i64 (x - 1)).wf = true := by
  have : x = 0 ∨ x = 1 ∨ x = 2 ∨ x = 3 ∨ x = 4 := by omega
  rcases this with rfl | rfl | rfl | rfl | rfl <;> decide
/-- A table in a world. -/
def Tab (w' : World) (lo sz : Nat) (ad : Addr) (m : Nat) (l : List Sl) : Prop := m ≤ sz ∧ l.length = m ∧ wfL l ∧ Lies w' lo w'.heap.size (some ad) (scells l)
theorem Tab.grown {w w' : World} {lo sz g m : Nat} {ad : Addr} {l : List Sl} (h : Tab w lo sz ad m l) (hg : w.grownBy w' (some g)) (hlo : g < lo) : Tab w' lo sz ad m l :=
  ⟨h.1, h.2.1, h.2.2.1, (h.2.2.2.kept (fun k h1 h2 => hg.block k h2 (by simp; omega))).wide (Nat.le_refl _) hg.size⟩
theorem Tab.below {w w' : World} {lo sz m : Nat} {ad : Addr} {l : List Sl} (h : Tab w lo sz ad m l) (hb : Below w.heap.size w w') : Tab w' lo sz ad m l :=
  ⟨h.1, h.2.1, h.2.2.1, (h.2.2.2.below hb (Nat.le_refl _)).wide (Nat.le_refl _) hb.size⟩
theorem Tab.low {w : World} {lo lo' sz m : Nat} {ad : Addr} {l : List Sl} (h : Tab w lo sz ad m l) (h1 : lo' ≤ lo) : Tab w lo' sz ad m l := ⟨h.1, h.2.1, h.2.2.1, h.2.2.2.wide h1 (Nat.le_refl _)⟩

def OneTab (w : World) (sz : Nat) (e : Ending) (w' : World) : Prop :=
  ∃ ad m cap l, e = .returned (.slice (some ad) m cap) ∧ Tab w' w.heap.size sz ad m l ∧ Below w.heap.size w w'
def TabInt (w : World) (sz : Nat) (e : Ending) (w' : World) : Prop :=
  ∃ ad m cap l x, e = .returned (.tuple #[.slice (some ad) m cap, .int .i64 x]) ∧ (Lit.int .i64 x).wf = true ∧ Tab w' w.heap.size sz ad m l ∧ Below w.heap.size w w'

def IntPost (w : World) (e : Ending) (w' : World) : Prop := ∃ x : Int, e = .returned (.int .i64 x) ∧ (Lit.int .i64 x).wf = true ∧ Below w.heap.size w w'
def TabIntInt (w : World) (sz : Nat) (e : Ending) (w' : World) : Prop :=
  ∃ ad m cap l x y, e = .returned (.tuple #[.slice (some ad) m cap, .int .i64 x, .int .i64 y]) ∧ (Lit.int .i64 x).wf = true ∧ (Lit.int .i64 y).wf = true ∧ Tab w' w.heap.size sz ad m l ∧ Below w.heap.size w w'
def SlotInt (w : World) (e : Ending) (w' : World) : Prop :=
  ∃ x y p, e = .returned (.tuple #[.agg #[.int .i64 x, .int .i64 y], .int .i64 p]) ∧ wfS (x, y) ∧ (Lit.int .i64 p).wf = true ∧ Below w.heap.size w w'
def TabIntSlot (w : World) (sz : Nat) (e : Ending) (w' : World) : Prop :=
  ∃ ad m cap l p x y, e = .returned (.tuple #[.slice (some ad) m cap, .int .i64 p, .agg #[.int .i64 x, .int .i64 y]]) ∧ (Lit.int .i64 p).wf = true ∧ wfS (x, y) ∧ Tab w' w.heap.size sz ad m l ∧ Below w.heap.size w w'

def newList : List Int := [0, 1, 4, 8, 24, 25, -1, 9223372036854775807]
theorem newList_wf : ∀ x ∈ newList, (Lit.int .i64 x).wf = true := by decide
def sizeList : List Int := [4, 4, 4, 3, -1]
theorem sizeList_wf : ∀ x ∈ sizeList, (Lit.int .i64 x).wf = true := by decide
def manyList : List Int := [8, 8, 8, 4, 0]
theorem manyList_wf : ∀ x ∈ manyList, (Lit.int .i64 x).wf = true := by decide
def okList : List Int := [8, 8, 4, 0, -1, 9223372036854775807, -9223372036854775808]
theorem okList_wf : ∀ x ∈ okList, (Lit.int .i64 x).wf = true := by decide

theorem new_boxed {A : Option Addr} {n c : Nat} {w w0 : World} {o : Obj} (h : Cur (w.alloc o) A n c w0 (w.alloc o).heap.size) : Cur (w.alloc o) A n c w0 (w.heap.size + 1) := by simpa using h

theorem Tab.set {w : World} {lo sz m b i : Nat} {ad : Addr} {l : List Sl} (h : Tab w lo sz ad m l) (hb : b < lo) (u : Value) : Tab (w.setCell ⟨b, i, none⟩ u) lo sz ad m l :=
  ⟨h.1, h.2.1, h.2.2.1, by
    have := h.2.2.2.kept (w' := w.setCell ⟨b, i, none⟩ u) (fun k h1 _ => Below.heap_setCell w ⟨b, i, none⟩ u k (by show k ≠ b; omega))
    simpa using this⟩

/-- Two tables. -/
def TwoTabs (w : World) (e : Ending) (w' : World) : Prop :=
  ∃ ad m cap l ad' m' cap' l', e = .returned (.tuple #[.slice (some ad) m cap, .slice (some ad') m' cap']) ∧ Tab w' w.heap.size 4 ad m l ∧ Tab w' w.heap.size 4 ad' m' l' ∧ Below w.heap.size w w'

theorem made1 (w : World) (e : TypeId) : (w.alloc (.cells #[] e)).ownsRow w.heap.size e 2 (.slice (some ⟨w.heap.size, 0, none⟩) 0 0) 0 [] :=
  World.ownsRow_made w #[] 0 (Nat.le_refl _) (Nat.zero_le _) rfl
theorem src1 {w : World} {lo : Nat} {ad : Addr} {cs : List Value} (h : Lies w lo w.heap.size (some ad) cs) (o : Obj) : ∀ j u, cs[j]? = some u → (w.alloc o).cell? (ad.add j) = some u := by
  intro j u hu
  obtain ⟨b, off, e, _, hb, hc⟩ := h j u hu
  cases e
  rw [Addr.add_lit, World.cell?_alloc_lt _ _ _ (by simpa using hb)]
  exact hc
theorem copied1 {w w1 : World} {e : TypeId} {n : Nat} {v : Value} {cs : List Value} (hown : w1.ownsRow w.heap.size e 2 v (0 + n) ([] ++ cs))
    (hgrow : (w.alloc (.cells #[] e)).grownBy w1 (Value.slice (some ⟨w.heap.size, 0, none⟩) 0 0).ownBlock) (hnil : v = .slice none 0 0 ↔ Value.slice (some ⟨w.heap.size, 0, none⟩) 0 0 = .slice none 0 0 ∧ n = 0) :
    ∃ g cap, v = .slice (some ⟨g, 0, none⟩) n cap ∧ w1.ownsRow w.heap.size e 2 (.slice (some ⟨g, 0, none⟩) n cap) n cs ∧ Below w.heap.size w w1 := by
  rw [Nat.zero_add, List.nil_append] at hown
  rcases hown.2 with ⟨h, _⟩ | ⟨g, cap, cur, rfl, _, _, hnc, _⟩
  · have := (hnil.1 h).1
    simp at this
  · refine ⟨g, cap, rfl, hown, ?_⟩
    exact ((Below.refl _ _).alloc (Nat.le_refl _) _).grown hgrow (by simp) (fun k hk => by simp [Value.ownBlock] at hk; omega)

end Go.Proofs.Ytflnjbcediecjaa.SDraw
