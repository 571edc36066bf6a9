/-
  The project's functions on access rights, called at any integers of an int's range: what they return; the world is as it was (RightsText makes new memory and changes none that was there). No condition.
-/
import Derived.Test.YtokmnmngfefmjaaRightsMath
import Derived.Test.YtokmnmngfefmjaaIn
import Derived.Lib.SlBytesConst
namespace Go.Proofs.Ytokmnmngfefmjaa.Rights
open Go.ChangeShapes Go.WideShapes Go.ChangeAt Go.RowKit
open Go.Proofs.Ytokmnmngfefmjaa.Base

theorem impl_ok (r : Int) (w : World) (hr : (Lit.int .i64 r).wf = true) :
    Calls Try.prog 23 #[.int .i64 r] w fun e w' => e = .returned (.bool (rok r)) ∧ w = w' := by
  have h := Lib.hid (andNot3 hr)
  clear hr
  go_enter Try.func23, Try.ntmps23
  go_wp2
  go_ret
  rw [h.out]
  exact ⟨rfl, rfl⟩

theorem impl_has (a b : Int) (w : World) :
    Calls Try.prog 30 #[.int .i64 a, .int .i64 b] w fun e w' => e = .returned (.bool (has a b)) ∧ w = w' := by
  go_enter Try.func30, Try.ntmps30
  go_wp2
  go_ret
  exact ⟨rfl, rfl⟩

theorem impl_both (a b : Int) (w : World) (ha : (Lit.int .i64 a).wf = true) (hb : (Lit.int .i64 b).wf = true) :
    Calls Try.prog 12 #[.int .i64 a, .int .i64 b] w fun e w' => e = .returned (.int .i64 (both a b)) ∧ w = w' := by
  have HA := Lib.hid ha
  have HB := Lib.hid hb
  clear ha hb
  cases h1 : rok a
  all_goals
    cases h2 : rok b
    all_goals
      have hv : both a b = if rok a = true ∧ rok b = true then bits .and .i64 a b else 0 := rfl
      rw [h1, h2] at hv
      simp only [Bool.false_eq_true, and_true, and_false, and_self, if_true, if_false] at hv
      rw [hv]; clear hv
      go_enter Try.func12, Try.ntmps12
      go_wp2_with (go_at_call 23; refine (impl_ok _ _ (by first | exact HA.out | exact HB.out)).mono ?_; rintro e w' ⟨rfl, rfl⟩)
      go_ret
      exact ⟨rfl, rfl⟩

theorem impl_enough (a b : Int) (w : World) (ha : (Lit.int .i64 a).wf = true) (hb : (Lit.int .i64 b).wf = true) :
    Calls Try.prog 17 #[.int .i64 a, .int .i64 b] w fun e w' => e = .returned (.bool (enough a b)) ∧ w = w' := by
  have HA := Lib.hid ha
  have HB := Lib.hid hb
  clear ha hb
  cases h1 : rok a
  all_goals
    cases h2 : rok b
    all_goals
      have hv : enough a b = (rok a && rok b && has a b) := rfl
      rw [h1, h2] at hv
      simp only [Bool.false_and, Bool.and_false, Bool.true_and] at hv
      rw [hv]; clear hv
      go_enter Try.func17, Try.ntmps17
      go_wp2_with (first | (go_at_call 23; refine (impl_ok _ _ (by first | exact HA.out | exact HB.out)).mono ?_; rintro e w' ⟨rfl, rfl⟩) | (go_at_call 30; refine (impl_has _ _ _).mono ?_; rintro e w' ⟨rfl, rfl⟩))
      go_ret
      exact ⟨rfl, rfl⟩

theorem impl_need (b : Bool) (w : World) :
    Calls Try.prog 19 #[.bool b] w fun e w' => e = .returned (.int .i64 (need b)) ∧ w = w' := by
  cases b
  all_goals
    go_enter Try.func19, Try.ntmps19
    go_wp2
    go_ret
    exact ⟨rfl, rfl⟩

theorem in_rok (r : Int) : inB r 0 3 = rok r := by
  rw [Bool.eq_iff_iff, inB_iff, rok_iff]

theorem spec_ok (r : Int) (w : World) :
    Calls Try.prog 24 #[.int .i64 r] w fun e w' => e = .returned (.bool (rok r)) ∧ w = w' := by
  have h := fun V : World => spec_in r 0 3 V
  rw [in_rok] at h
  have H := Lib.hid h
  clear h
  go_enter Try.func24, Try.ntmps24
  go_wp2_with (go_at_call 31; refine (H.out _).mono ?_; rintro e w' ⟨rfl, rfl⟩)
  go_ret
  exact ⟨rfl, rfl⟩

theorem spec_both (a b : Int) (w : World) :
    Calls Try.prog 16 #[.int .i64 a, .int .i64 b] w fun e w' => e = .returned (.int .i64 (both a b)) ∧ w = w' := by
  cases h1 : rok a
  all_goals
    cases h2 : rok b
    all_goals
      have hv : both a b = if rok a = true ∧ rok b = true then bits .and .i64 a b else 0 := rfl
      rw [h1, h2] at hv
      simp only [Bool.false_eq_true, and_true, and_false, and_self, if_true, if_false] at hv
      rw [hv]; clear hv
      go_enter Try.func16, Try.ntmps16
      go_wp2_with (go_at_call 24; refine (spec_ok _ _).mono ?_; rintro e w' ⟨rfl, rfl⟩)
      go_ret
      exact ⟨rfl, rfl⟩

theorem spec_enough (a b : Int) (w : World) :
    Calls Try.prog 18 #[.int .i64 a, .int .i64 b] w fun e w' => e = .returned (.bool (enough a b)) ∧ w = w' := by
  cases h1 : rok a
  all_goals
    cases h2 : rok b
    all_goals
      have hv : enough a b = (rok a && rok b && has a b) := rfl
      rw [h1, h2] at hv
      simp only [Bool.false_and, Bool.and_false, Bool.true_and] at hv
      rw [hv]; clear hv
      go_enter Try.func18, Try.ntmps18
      go_wp2_with (go_at_call 24; refine (spec_ok _ _).mono ?_; rintro e w' ⟨rfl, rfl⟩)
      go_ret
      exact ⟨rfl, rfl⟩

theorem spec_need (b : Bool) (w : World) :
    Calls Try.prog 20 #[.bool b] w fun e w' => e = .returned (.int .i64 (need b)) ∧ w = w' := by
  cases b
  all_goals
    go_enter Try.func20, Try.ntmps20
    go_wp2
    go_ret
    exact ⟨rfl, rfl⟩

/-! ### RightsText -/
theorem infoStr : (Try.prog.info? 9).map (fun i => (i.zero, i.size, i.bytes)) = some (some (.string ⟨#[]⟩), 1, 16) := by kernel_rfl

theorem text_no {r : Int} (h : rok r = false) : text r = ⟨#[63]⟩ := by
  have := rok_false.1 h
  unfold text; rw [if_neg (by omega), if_neg (by omega), if_neg (by omega), if_neg (by omega)]

theorem spec_text (r : Int) (w : World) :
    Calls Try.prog 22 #[.int .i64 r] w fun e w' => e = .returned (.string (text r)) ∧ Below w.heap.size w w' := by
  cases h : rok r
  · rw [text_no h]
    go_enter Try.func22, Try.ntmps22
    go_wp2_with (go_at_call 24; refine (spec_ok _ _).mono ?_; rintro e w' ⟨rfl, rfl⟩)
    go_ret
    exact ⟨rfl, Below.refl _ _⟩
  · rcases rok_four h with rfl | rfl | rfl | rfl
    all_goals
      go_enter Try.func22, Try.ntmps22
      go_wp2_with (go_at_call 24; refine (spec_ok _ _).mono ?_; rintro e w' ⟨rfl, rfl⟩)
      go_ret
      exact ⟨rfl, (Below.refl _ _).alloc (Nat.le_refl _) _⟩

/-- 'string(b)' of a block of two bytes. -/
theorem convert_two {V : World} {g : Nat} {fr : Nat × Nat} {x y : UInt8} (h : V.heap[g]? = some (.cells #[.int .u8 (x.toNat : Int), .int .u8 (y.toNat : Int)] 5 fr)) :
    (convert 22 9 (.slice (some ⟨g, 0, none⟩) 2 2)).run Try.prog V = .ok (.string ⟨#[x, y]⟩) V := by
  refine run_convert_bytes_back V 22 9 5 ⟨g, 0, none⟩ 2 [x, y] Try.underlying22 Try.underlying5 Try.underlying9 fun j hj => ?_
  match j, hj with
  | 0, _ => simp [World.cell?, Addr.add, h]
  | 1, _ => simp [World.cell?, Addr.add, h]
theorem blk_set {w : World} {g i : Nat} {cs : Array Value} {T : TypeId} {fr : Nat × Nat} (h : w.heap[g]? = some (.cells cs T fr)) (u : Value) : (w.setCell ⟨g, i, none⟩ u).heap[g]? = some (.cells (cs.setIfInBounds i u) T fr) := by
  simp [World.setCell, Array.getElem?_modify, h]
theorem cell_blk {w : World} {g i : Nat} {cs : Array Value} {T : TypeId} {fr : Nat × Nat} {v : Value} (h : w.heap[g]? = some (.cells cs T fr)) (hv : cs[i]? = some v) : w.cell? ⟨g, i, none⟩ = some v := by
  simp [World.cell?, h, hv]
theorem unfrozen_blk {w : World} {g i a b : Nat} {cs : Array Value} {T : TypeId} (h : w.heap[g]? = some (.cells cs T (a, b))) (hi : i < a) : w.frozen? ⟨g, i, none⟩ = false := by
  simp [World.frozen?, h]; omega

theorem impl_text (r : Int) (w : World) (hr : (Lit.int .i64 r).wf = true) :
    Calls Try.prog 21 #[.int .i64 r] w fun e w' => e = .returned (.string (text r)) ∧ Below w.heap.size w w' := by
  have HR := Lib.hid hr
  clear hr
  cases h : rok r
  · rw [text_no h]
    go_enter Try.func21, Try.ntmps21
    go_wp2_with (go_at_call 23; refine (impl_ok _ _ HR.out).mono ?_; rintro e w' ⟨rfl, rfl⟩)
    go_ret
    exact ⟨rfl, Below.refl _ _⟩
  · have kc := Lib.run_convert_bytes_const (P := Try.prog) w 22 5 #[.int .u8 45, .int .u8 45] 2 2 Try.underlying22 Try.underlying5
    have b0 := heap_alloc_new w (.cells #[.int .u8 45, .int .u8 45] 5 (2, 3))
    have hB : Below w.heap.size w (w.alloc (.cells #[.int .u8 45, .int .u8 45] 5 (2, 3))) := (Below.refl _ _).alloc (Nat.le_refl _) _
    rcases rok_four h with rfl | rfl | rfl | rfl
    · have k1 : has 0 1 = false := by decide +kernel
      have k2 : has 0 2 = false := by decide +kernel
      have cv := convert_two (V := (w.alloc (.cells #[.int .u8 45, .int .u8 45] 5 (2, 3)))) (x := 45) (y := 45) b0
      have f0 := unfrozen_blk (i := 0) b0 (by decide)
      have f1 := unfrozen_blk (i := 1) b0 (by decide)
      have f2 := unfrozen_blk (i := 1) (blk_set (i := 0) b0 (.int .u8 114)) (by decide)
      have c0 := cell_blk (i := 0) b0 rfl
      have c1 := cell_blk (i := 1) b0 rfl
      have c2 := cell_blk (i := 1) (blk_set (i := 0) b0 (.int .u8 114)) rfl
      have HB := Lib.hid hB
      clear b0 hB
      go_enter Try.func21, Try.ntmps21
      go_wp2_with (first | (go_at_call 23; refine (impl_ok _ _ HR.out).mono ?_; rintro e w' ⟨rfl, rfl⟩) | (go_at_call 30; refine (impl_has _ _ _).mono ?_; rintro e w' ⟨rfl, rfl⟩))
      go_ret
      exact ⟨rfl, HB.out⟩
    · have k1 : has 1 1 = true := by decide +kernel
      have k2 : has 1 2 = false := by decide +kernel
      have cv := convert_two (V := ((w.alloc (.cells #[.int .u8 45, .int .u8 45] 5 (2, 3))).setCell ⟨w.heap.size, 0, none⟩ (.int .u8 114))) (x := 114) (y := 45) (blk_set (i := 0) b0 (.int .u8 114))
      have f0 := unfrozen_blk (i := 0) b0 (by decide)
      have f1 := unfrozen_blk (i := 1) b0 (by decide)
      have f2 := unfrozen_blk (i := 1) (blk_set (i := 0) b0 (.int .u8 114)) (by decide)
      have c0 := cell_blk (i := 0) b0 rfl
      have c1 := cell_blk (i := 1) b0 rfl
      have c2 := cell_blk (i := 1) (blk_set (i := 0) b0 (.int .u8 114)) rfl
      have HB := Lib.hid hB
      clear b0 hB
      go_enter Try.func21, Try.ntmps21
      go_wp2_with (first | (go_at_call 23; refine (impl_ok _ _ HR.out).mono ?_; rintro e w' ⟨rfl, rfl⟩) | (go_at_call 30; refine (impl_has _ _ _).mono ?_; rintro e w' ⟨rfl, rfl⟩))
      go_ret
      exact ⟨rfl, (HB.out.setCell (p := ⟨w.heap.size, 0, none⟩) (Nat.le_refl _) _)⟩
    · have k1 : has 2 1 = false := by decide +kernel
      have k2 : has 2 2 = true := by decide +kernel
      have cv := convert_two (V := ((w.alloc (.cells #[.int .u8 45, .int .u8 45] 5 (2, 3))).setCell ⟨w.heap.size, 1, none⟩ (.int .u8 119))) (x := 45) (y := 119) (blk_set (i := 1) b0 (.int .u8 119))
      have f0 := unfrozen_blk (i := 0) b0 (by decide)
      have f1 := unfrozen_blk (i := 1) b0 (by decide)
      have f2 := unfrozen_blk (i := 1) (blk_set (i := 0) b0 (.int .u8 114)) (by decide)
      have c0 := cell_blk (i := 0) b0 rfl
      have c1 := cell_blk (i := 1) b0 rfl
      have c2 := cell_blk (i := 1) (blk_set (i := 0) b0 (.int .u8 114)) rfl
      have HB := Lib.hid hB
      clear b0 hB
      go_enter Try.func21, Try.ntmps21
      go_wp2_with (first | (go_at_call 23; refine (impl_ok _ _ HR.out).mono ?_; rintro e w' ⟨rfl, rfl⟩) | (go_at_call 30; refine (impl_has _ _ _).mono ?_; rintro e w' ⟨rfl, rfl⟩))
      go_ret
      exact ⟨rfl, (HB.out.setCell (p := ⟨w.heap.size, 1, none⟩) (Nat.le_refl _) _)⟩
    · have k1 : has 3 1 = true := by decide +kernel
      have k2 : has 3 2 = true := by decide +kernel
      have cv := convert_two (V := (((w.alloc (.cells #[.int .u8 45, .int .u8 45] 5 (2, 3))).setCell ⟨w.heap.size, 0, none⟩ (.int .u8 114)).setCell ⟨w.heap.size, 1, none⟩ (.int .u8 119))) (x := 114) (y := 119) (blk_set (i := 1) (blk_set (i := 0) b0 (.int .u8 114)) (.int .u8 119))
      have f0 := unfrozen_blk (i := 0) b0 (by decide)
      have f1 := unfrozen_blk (i := 1) b0 (by decide)
      have f2 := unfrozen_blk (i := 1) (blk_set (i := 0) b0 (.int .u8 114)) (by decide)
      have c0 := cell_blk (i := 0) b0 rfl
      have c1 := cell_blk (i := 1) b0 rfl
      have c2 := cell_blk (i := 1) (blk_set (i := 0) b0 (.int .u8 114)) rfl
      have HB := Lib.hid hB
      clear b0 hB
      go_enter Try.func21, Try.ntmps21
      go_wp2_with (first | (go_at_call 23; refine (impl_ok _ _ HR.out).mono ?_; rintro e w' ⟨rfl, rfl⟩) | (go_at_call 30; refine (impl_has _ _ _).mono ?_; rintro e w' ⟨rfl, rfl⟩))
      go_ret
      exact ⟨rfl, ((HB.out.setCell (p := ⟨w.heap.size, 0, none⟩) (Nat.le_refl _) _).setCell (p := ⟨w.heap.size, 1, none⟩) (Nat.le_refl _) _)⟩
end Go.Proofs.Ytokmnmngfefmjaa.Rights
