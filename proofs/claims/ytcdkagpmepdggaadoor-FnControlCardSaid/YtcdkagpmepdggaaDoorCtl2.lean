/-
  Control blocks: the given model's CtlOk, HasTrap and Posts; no statement about the project's code stands here. No condition.
-/
import Derived.Test.YtcdkagpmepdggaaDoorCtl
namespace Go.Proofs.YtcdkagpmepdggaaDoor.Ctls
set_option maxRecDepth 100000
open Go.ChangeShapes Go.WideShapes Go.ChangeAt Go.RowKit
open Go.Proofs.YtcdkagpmepdggaaDoor.Base Go.Proofs.YtcdkagpmepdggaaDoor.Mem Go.Proofs.YtcdkagpmepdggaaDoor.Data Go.Proofs.YtcdkagpmepdggaaDoor.Ints Go.Proofs.YtcdkagpmepdggaaDoor.Slots
set_option linter.unusedVariables false
set_option linter.unusedSimpArgs false

theorem spec_ctlOk (a b : Int) (o : Bool) (w : World) :
    Calls Tryd.prog 27 #[.agg #[.int .i64 a, .int .i64 b, .bool o]] w fun e w' => e = .returned (.bool (ctlOk (a, b, o))) ∧ Below w.heap.size w w' := by
  have hb0 : Below w.heap.size w (w.alloc (.cells #[.int .i64 a, .int .i64 b, .bool o] 25)) := (Below.refl _ _).alloc (Nat.le_refl _) _
  have HK := Lib.hid (fun V : World => spec_ctlF a b o V)
  have HB := Lib.hid hb0
  clear hb0
  go_enter Tryd.func27, Tryd.ntmps27
  go_wp2_with fail
  refine (HK.out _).mono ?_
  rintro e w1 ⟨A, n, c, rfl, hl, _, hb1⟩
  have HB1 := Lib.hid (btr HB.out hb1)
  have HV := Lib.hid (show ctlOk (a, b, o) = (n == 0) from by unfold ctlOk; rw [hl])
  clear hb1 hl
  by_cases h0 : n = 0
  · subst h0
    go_wp2_with fail
    go_ret
    exact ⟨by rw [HV.out]; rfl, HB1.out⟩
  · have h0' : ((n : Int) == 0) = false := by simpa using h0
    have h0'' : (n == 0) = false := by simpa using h0
    go_wp2_with fail
    go_ret
    exact ⟨by rw [HV.out, h0'']; rfl, HB1.out⟩

set_option maxHeartbeats 1000000 in
theorem spec_hasTrap (a b : Int) (w : World) :
    Calls Tryd.prog 14 #[.int .i64 a, .int .i64 b] w fun e w' => e = .returned (.bool (hasTrap a b)) ∧ w = w' := by
  have K1 := Lib.hid (fun V : World => spec_in a 0 3 V)
  have K2 := Lib.hid (fun V : World => spec_in b 1 2 V)
  have hv : hasTrap a b = (inB a 0 3 && inB b 1 2 && (bits .and .i64 a b != 0)) := rfl
  generalize inB a 0 3 = x at K1 hv
  generalize inB b 1 2 = y at K2 hv
  cases x
  · simp only [Bool.false_and] at hv
    have HV := Lib.hid hv
    clear hv
    go_enter Tryd.func14, Tryd.ntmps14
    go_wp2_with fail
    refine (K1.out _).mono ?_
    rintro e w' ⟨rfl, rfl⟩
    go_wp2_with fail
    go_ret
    exact ⟨by rw [HV.out]; rfl, rfl⟩
  · cases y
    · simp only [Bool.and_false, Bool.false_and] at hv
      have HV := Lib.hid hv
      clear hv
      go_enter Tryd.func14, Tryd.ntmps14
      go_wp2_with fail
      refine (K1.out _).mono ?_
      rintro e w' ⟨rfl, rfl⟩
      go_wp2_with fail
      refine (K2.out _).mono ?_
      rintro e w' ⟨rfl, rfl⟩
      go_wp2_with fail
      go_ret
      exact ⟨by rw [HV.out]; rfl, rfl⟩
    · simp only [Bool.true_and] at hv
      have HV := Lib.hid hv
      clear hv
      go_enter Tryd.func14, Tryd.ntmps14
      go_wp2_with fail
      refine (K1.out _).mono ?_
      rintro e w' ⟨rfl, rfl⟩
      go_wp2_with fail
      refine (K2.out _).mono ?_
      rintro e w' ⟨rfl, rfl⟩
      go_wp2_with fail
      go_ret
      exact ⟨by rw [HV.out]; rfl, rfl⟩

set_option maxHeartbeats 1000000 in
theorem spec_posts (a b : Int) (o : Bool) (n : Int) (w : World) :
    Calls Tryd.prog 16 #[.agg #[.int .i64 a, .int .i64 b, .bool o], .int .i64 n] w fun e w' => e = .returned (.bool (posts (a, b, o) n)) ∧ Below w.heap.size w w' := by
  have hb0 : Below w.heap.size w (w.alloc (.cells #[.int .i64 a, .int .i64 b, .bool o] 25)) := (Below.refl _ _).alloc (Nat.le_refl _) _
  have t0 := Var.new w [.int .i64 a, .int .i64 b, .bool o] 25
  change Var (w.alloc (.cells #[.int .i64 a, .int .i64 b, .bool o] 25)) w.heap.size [.int .i64 a, .int .i64 b, .bool o] at t0
  have hz : w.heap.size < (w.alloc (.cells #[.int .i64 a, .int .i64 b, .bool o] 25)).heap.size := by simp
  have K1 := Lib.hid (fun V : World => spec_ctlOk a b o V)
  have K2 := Lib.hid (fun V : World => spec_in n 0 7 V)
  have hv : posts (a, b, o) n = (ctlOk (a, b, o) && inB n 0 7 && bitAt b n) := rfl
  have h7 : inB n 0 7 = true → 0 ≤ n ∧ n ≤ 7 := inB_iff.1
  generalize ctlOk (a, b, o) = x at K1 hv
  generalize inB n 0 7 = y at K2 hv h7
  go_enter Tryd.func16, Tryd.ntmps16
  go_wp2_with fail
  generalize w.alloc (.cells #[.int .i64 a, .int .i64 b, .bool o] 25) = W0 at t0 hb0 hz ⊢
  refine (K1.out _).mono ?_
  rintro e w1 ⟨rfl, hb1⟩
  have HB := Lib.hid (btr hb0 hb1)
  have v1 := (t0.below hb1 hz).cell 1 (v := .int .i64 b) rfl
  clear hb0 hb1 t0
  cases x
  · simp only [Bool.false_and] at hv
    have HV := Lib.hid hv
    clear hv h7
    go_wp2_with fail
    go_ret
    exact ⟨by rw [HV.out]; rfl, HB.out⟩
  · cases y
    · simp only [Bool.and_false, Bool.false_and] at hv
      have HV := Lib.hid hv
      clear hv h7
      go_wp2_with fail
      refine (K2.out _).mono ?_
      rintro e w' ⟨rfl, rfl⟩
      go_wp2_with fail
      go_ret
      exact ⟨by rw [HV.out]; rfl, HB.out⟩
    · simp only [Bool.true_and] at hv
      obtain ⟨n0, n7⟩ := h7 rfl
      obtain ⟨k, rfl⟩ := Int.eq_ofNat_of_zero_le n0
      have HV := Lib.hid hv
      clear hv h7
      go_wp2_with fail
      refine (K2.out _).mono ?_
      rintro e w' ⟨rfl, rfl⟩
      go_wp2_with fail
      go_ret
      exact ⟨by rw [HV.out]; rfl, HB.out⟩
end Go.Proofs.YtcdkagpmepdggaaDoor.Ctls
