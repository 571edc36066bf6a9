/-
  Arguments that are slots, or slices of slots, opened to their numbers and cells; no statement about the project's code stands here. No condition.
-/
import Derived.Test.YtflnjbcediecjaaSlotMath
import Derived.Deep.SlicePairs
import Derived.Lib.SmallJoins
namespace Go.Proofs.Ytflnjbcediecjaa.Slots
set_option maxRecDepth 100000
open Go.ChangeShapes Go.WideShapes Go.ChangeAt Go.RowKit Go.Deep
open Go.Proofs.Ytflnjbcediecjaa.Base Go.Proofs.Ytflnjbcediecjaa.Mem

theorem laid : laidOutB Try.prog = true := by kernel_rfl

theorem intCells : Try.prog.cellsOf 3 = 1 := by kernel_rfl

theorem lies_pairs {w : World} {A : Option Addr} {l : List Sl} (h : ∀ k (hk : k < l.length), ∃ b off, A = some ⟨b, off, none⟩ ∧ b < w.heap.size ∧ w.cell? ⟨b, off + k * 2, none⟩ = some (.int .i64 l[k].1) ∧ w.cell? ⟨b, off + k * 2 + 1, none⟩ = some (.int .i64 l[k].2)) :
    Lies w 0 w.heap.size A (scells l) := fun j u hu => by
  have hj := (List.getElem?_eq_some_iff.1 hu).1
  rw [scells_len] at hj
  obtain ⟨b, off, e, hb, h0, h1⟩ := h (j / 2) (by omega)
  refine ⟨b, off, e, Nat.zero_le _, hb, ?_⟩
  rcases Nat.mod_two_eq_zero_or_one j with hp | hp
  · have hj2 : j = j / 2 * 2 := by omega
    rw [hj2, scells_fst l _ (by omega)] at hu
    rw [hj2, h0]
    exact hu
  · have hj2 : j = j / 2 * 2 + 1 := by omega
    rw [hj2, scells_snd l _ (by omega)] at hu
    rw [hj2, ← Nat.add_assoc, h1]
    exact hu

section
variable {H : Type} {enc : TypeId × Value → H}

end
end Go.Proofs.Ytflnjbcediecjaa.Slots
