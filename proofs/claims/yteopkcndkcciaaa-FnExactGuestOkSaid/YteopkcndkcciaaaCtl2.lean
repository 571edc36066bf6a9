/-
  Control blocks: the given model's CtlOk, HasTrap and Posts; no statement about the project's code stands here. No condition.
-/
import Derived.Test.YteopkcndkcciaaaCtl
namespace Go.Proofs.Yteopkcndkcciaaa.Ctls
set_option maxRecDepth 100000
open Go.ChangeShapes Go.WideShapes Go.ChangeAt Go.RowKit
open Go.Proofs.Yteopkcndkcciaaa.Base Go.Proofs.Yteopkcndkcciaaa.Mem Go.Proofs.Yteopkcndkcciaaa.Data Go.Proofs.Yteopkcndkcciaaa.Ints Go.Proofs.Yteopkcndkcciaaa.Slots
set_option linter.unusedVariables false
set_option linter.unusedSimpArgs false

theorem spec_ctlOk (a b : Int) (o : Bool) (w : World) :
    Calls Try.prog 64 #[.agg #[.int .i64 a, .int .i64 b, .bool o]] w fun e w' => e = .returned (.bool (ctlOk (a, b, o))) ∧ Below w.heap.size w w' := by
  have hb0 : Below w.heap.size w (w.alloc (.cells #[.int .i64 a, .int .i64 b, .bool o] 29)) := (Below.refl _ _).alloc (Nat.le_refl _) _
  have HK := Lib.hid (fun V : World => spec_ctlF a b o V)
  have HB := Lib.hid hb0
  clear hb0
  go_enter Try.func64, Try.ntmps64
  go_wp2_with fail
  refine (HK.out _).mono ?_
  rintro e w1 ⟨A, n, c, rfl, hl, _, hb1⟩
  have HB1 := Lib.hid (btr HB.out hb1)
  have HV := Lib.hid (show ctlOk (a, b, o) = (n == 0) from by unfold ctlOk; rw [hl])
  clear hb1 hl
  by_cases h0 : n = 0
  · subst h0
    go_wp2_with fail
    go_ret
    exact ⟨by rw [HV.out]; rfl, HB1.out⟩
  · have h0' : ((n : Int) == 0) = false := by simpa using h0
    have h0'' : (n == 0) = false := by simpa using h0
    go_wp2_with fail
    go_ret
    exact ⟨by rw [HV.out, h0'']; rfl, HB1.out⟩

end Go.Proofs.Yteopkcndkcciaaa.Ctls
