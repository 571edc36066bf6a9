/-
  The project's functions on access rights, called at any integers of an int's range: what they return; the world is as it was (RightsText makes new memory and changes none that was there). No condition.
-/
import Derived.Test.YtfgckkgakghenaaRightsMath
import Derived.Test.YtfgckkgakghenaaIn
import Derived.Lib.SlBytesConst
namespace Go.Proofs.Ytfgckkgakghenaa.Rights
set_option maxRecDepth 100000
open Go.ChangeShapes Go.WideShapes Go.ChangeAt Go.RowKit
open Go.Proofs.Ytfgckkgakghenaa.Base

theorem impl_ok (r : Int) (w : World) (hr : (Lit.int .i64 r).wf = true) :
    Calls Try.prog 110 #[.int .i64 r] w fun e w' => e = .returned (.bool (rok r)) ∧ w = w' := by
  have h := Lib.hid (andNot3 hr)
  clear hr
  go_enter Try.func110, Try.ntmps110
  go_wp2
  go_ret
  rw [h.out]
  exact ⟨rfl, rfl⟩

theorem impl_both (a b : Int) (w : World) (ha : (Lit.int .i64 a).wf = true) (hb : (Lit.int .i64 b).wf = true) :
    Calls Try.prog 108 #[.int .i64 a, .int .i64 b] w fun e w' => e = .returned (.int .i64 (both a b)) ∧ w = w' := by
  have HA := Lib.hid ha
  have HB := Lib.hid hb
  clear ha hb
  cases h1 : rok a
  all_goals
    cases h2 : rok b
    all_goals
      have hv : both a b = if rok a = true ∧ rok b = true then bits .and .i64 a b else 0 := rfl
      rw [h1, h2] at hv
      simp only [Bool.false_eq_true, and_true, and_false, and_self, if_true, if_false] at hv
      rw [hv]; clear hv
      go_enter Try.func108, Try.ntmps108
      go_wp2_with (go_at_call 110; refine (impl_ok _ _ (by first | exact HA.out | exact HB.out)).mono ?_; rintro e w' ⟨rfl, rfl⟩)
      go_ret
      exact ⟨rfl, rfl⟩

theorem in_rok (r : Int) : inB r 0 3 = rok r := by
  rw [Bool.eq_iff_iff, inB_iff, rok_iff]

theorem spec_ok (r : Int) (w : World) :
    Calls Try.prog 99 #[.int .i64 r] w fun e w' => e = .returned (.bool (rok r)) ∧ w = w' := by
  have h := fun V : World => spec_in r 0 3 V
  rw [in_rok] at h
  have H := Lib.hid h
  clear h
  go_enter Try.func99, Try.ntmps99
  go_wp2_with (go_at_call 75; refine (H.out _).mono ?_; rintro e w' ⟨rfl, rfl⟩)
  go_ret
  exact ⟨rfl, rfl⟩

theorem spec_both (a b : Int) (w : World) :
    Calls Try.prog 74 #[.int .i64 a, .int .i64 b] w fun e w' => e = .returned (.int .i64 (both a b)) ∧ w = w' := by
  cases h1 : rok a
  all_goals
    cases h2 : rok b
    all_goals
      have hv : both a b = if rok a = true ∧ rok b = true then bits .and .i64 a b else 0 := rfl
      rw [h1, h2] at hv
      simp only [Bool.false_eq_true, and_true, and_false, and_self, if_true, if_false] at hv
      rw [hv]; clear hv
      go_enter Try.func74, Try.ntmps74
      go_wp2_with (go_at_call 99; refine (spec_ok _ _).mono ?_; rintro e w' ⟨rfl, rfl⟩)
      go_ret
      exact ⟨rfl, rfl⟩

/-! ### RightsText -/
theorem infoStr : (Try.prog.info? 9).map (fun i => (i.zero, i.size, i.bytes)) = some (some (.string ⟨#[]⟩), 1, 16) := by kernel_rfl

theorem text_no {r : Int} (h : rok r = false) : text r = ⟨#[63]⟩ := by
  have := rok_false.1 h
  unfold text; rw [if_neg (by omega), if_neg (by omega), if_neg (by omega), if_neg (by omega)]

/-- 'string(b)' of a block of two bytes. -/
theorem convert_two {V : World} {g : Nat} {fr : Nat × Nat} {x y : UInt8} (h : V.heap[g]? = some (.cells #[.int .u8 (x.toNat : Int), .int .u8 (y.toNat : Int)] 5 fr)) :
    (convert 22 9 (.slice (some ⟨g, 0, none⟩) 2 2)).run Try.prog V = .ok (.string ⟨#[x, y]⟩) V := by
  refine run_convert_bytes_back V 22 9 5 ⟨g, 0, none⟩ 2 [x, y] Try.underlying22 Try.underlying5 Try.underlying9 fun j hj => ?_
  match j, hj with
  | 0, _ => simp [World.cell?, Addr.add, h]
  | 1, _ => simp [World.cell?, Addr.add, h]
theorem blk_set {w : World} {g i : Nat} {cs : Array Value} {T : TypeId} {fr : Nat × Nat} (h : w.heap[g]? = some (.cells cs T fr)) (u : Value) : (w.setCell ⟨g, i, none⟩ u).heap[g]? = some (.cells (cs.setIfInBounds i u) T fr) := by
  simp [World.setCell, Array.getElem?_modify, h]
theorem cell_blk {w : World} {g i : Nat} {cs : Array Value} {T : TypeId} {fr : Nat × Nat} {v : Value} (h : w.heap[g]? = some (.cells cs T fr)) (hv : cs[i]? = some v) : w.cell? ⟨g, i, none⟩ = some v := by
  simp [World.cell?, h, hv]
theorem unfrozen_blk {w : World} {g i a b : Nat} {cs : Array Value} {T : TypeId} (h : w.heap[g]? = some (.cells cs T (a, b))) (hi : i < a) : w.frozen? ⟨g, i, none⟩ = false := by
  simp [World.frozen?, h]; omega

end Go.Proofs.Ytfgckkgakghenaa.Rights
