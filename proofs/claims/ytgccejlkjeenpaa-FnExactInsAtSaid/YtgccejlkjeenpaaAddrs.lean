/-
  Addresses: AddrPage and AddrCell of the project and of the given model. No condition beyond an int's range.
-/
import Derived.Test.YtgccejlkjeenpaaBase
namespace Go.Proofs.Ytgccejlkjeenpaa.Addrs
set_option maxRecDepth 100000
open Go.ChangeShapes Go.WideShapes Go.ChangeAt Go.RowKit
open Go.Proofs.Ytgccejlkjeenpaa.Base
set_option linter.unusedVariables false

def addrP (x : Int) : Int := if x < 0 then -1 else x / 4
def addrC (x : Int) : Int := if x < 0 then -1 else x % 4
theorem range {x : Int} (h : (Lit.int .i64 x).wf = true) : -9223372036854775808 ≤ x ∧ x ≤ 9223372036854775807 := by
  have hm : IntKind.i64.min = -9223372036854775808 := by decide
  rw [← hm]; simpa [Lit.wf] using h

theorem impl_addrP (x : Int) (w : World) (hx : (Lit.int .i64 x).wf = true) :
    Calls Try.prog 28 #[.int .i64 x] w fun e w' => e = .returned (.int .i64 (addrP x)) ∧ w = w' := by
  have hr := range hx
  clear hx
  by_cases h : x < 0
  · have HV := Lib.hid (show addrP x = -1 from if_pos h)
    go_enter Try.func28, Try.ntmps28
    go_wp2
    go_ret
    exact ⟨by rw [HV.out]; rfl, rfl⟩
  · have HV := Lib.hid (show addrP x = x / 4 from if_neg h)
    go_enter Try.func28, Try.ntmps28
    go_wp2
    go_ret
    exact ⟨by rw [HV.out]; rfl, rfl⟩

theorem spec_addrP (x : Int) (w : World) (hx : (Lit.int .i64 x).wf = true) :
    Calls Try.prog 32 #[.int .i64 x] w fun e w' => e = .returned (.int .i64 (addrP x)) ∧ w = w' := by
  have hr := range hx
  clear hx
  by_cases h : x < 0
  · have HV := Lib.hid (show addrP x = -1 from if_pos h)
    go_enter Try.func32, Try.ntmps32
    go_wp2
    go_ret
    exact ⟨by rw [HV.out]; rfl, rfl⟩
  · have HV := Lib.hid (show addrP x = x / 4 from if_neg h)
    go_enter Try.func32, Try.ntmps32
    go_wp2
    go_ret
    exact ⟨by rw [HV.out]; rfl, rfl⟩

end Go.Proofs.Ytgccejlkjeenpaa.Addrs
