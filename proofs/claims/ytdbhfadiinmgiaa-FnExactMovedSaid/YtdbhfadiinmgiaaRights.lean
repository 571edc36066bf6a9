/-
  The project's functions on access rights, called at any integers of an int's range: what they return; the world is as it was (RightsText makes new memory and changes none that was there). No condition.
-/
import Derived.Test.YtdbhfadiinmgiaaRightsMath
import Derived.Test.YtdbhfadiinmgiaaIn
import Derived.Lib.SlBytesConst
namespace Go.Proofs.Ytdbhfadiinmgiaa.Rights
set_option maxRecDepth 100000
open Go.ChangeShapes Go.WideShapes Go.ChangeAt Go.RowKit
open Go.Proofs.Ytdbhfadiinmgiaa.Base

theorem in_rok (r : Int) : inB r 0 3 = rok r := by
  rw [Bool.eq_iff_iff, inB_iff, rok_iff]

/-! ### RightsText -/
theorem infoStr : (Try.prog.info? 9).map (fun i => (i.zero, i.size, i.bytes)) = some (some (.string ⟨#[]⟩), 1, 16) := by kernel_rfl

theorem text_no {r : Int} (h : rok r = false) : text r = ⟨#[63]⟩ := by
  have := rok_false.1 h
  unfold text; rw [if_neg (by omega), if_neg (by omega), if_neg (by omega), if_neg (by omega)]

/-- 'string(b)' of a block of two bytes. -/
theorem convert_two {V : World} {g : Nat} {fr : Nat × Nat} {x y : UInt8} (h : V.heap[g]? = some (.cells #[.int .u8 (x.toNat : Int), .int .u8 (y.toNat : Int)] 5 fr)) :
    (convert 22 9 (.slice (some ⟨g, 0, none⟩) 2 2)).run Try.prog V = .ok (.string ⟨#[x, y]⟩) V := by
  refine run_convert_bytes_back V 22 9 5 ⟨g, 0, none⟩ 2 [x, y] Try.underlying22 Try.underlying5 Try.underlying9 fun j hj => ?_
  match j, hj with
  | 0, _ => simp [World.cell?, Addr.add, h]
  | 1, _ => simp [World.cell?, Addr.add, h]
theorem blk_set {w : World} {g i : Nat} {cs : Array Value} {T : TypeId} {fr : Nat × Nat} (h : w.heap[g]? = some (.cells cs T fr)) (u : Value) : (w.setCell ⟨g, i, none⟩ u).heap[g]? = some (.cells (cs.setIfInBounds i u) T fr) := by
  simp [World.setCell, Array.getElem?_modify, h]
theorem cell_blk {w : World} {g i : Nat} {cs : Array Value} {T : TypeId} {fr : Nat × Nat} {v : Value} (h : w.heap[g]? = some (.cells cs T fr)) (hv : cs[i]? = some v) : w.cell? ⟨g, i, none⟩ = some v := by
  simp [World.cell?, h, hv]
theorem unfrozen_blk {w : World} {g i a b : Nat} {cs : Array Value} {T : TypeId} (h : w.heap[g]? = some (.cells cs T (a, b))) (hi : i < a) : w.frozen? ⟨g, i, none⟩ = false := by
  simp [World.frozen?, h]; omega

end Go.Proofs.Ytdbhfadiinmgiaa.Rights
