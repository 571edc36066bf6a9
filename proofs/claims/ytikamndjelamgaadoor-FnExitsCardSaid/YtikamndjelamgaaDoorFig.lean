/-
  The given model's digit of a number from 0 to 15. No condition.
-/
import Derived.Test.YtikamndjelamgaaDoorHexMath
namespace Go.Proofs.YtikamndjelamgaaDoor.HexW
set_option maxRecDepth 100000
open Go.ChangeShapes Go.WideShapes Go.ChangeAt Go.RowKit
open Go.Proofs.YtikamndjelamgaaDoor.Base

theorem figure_any (x : Int) (h0 : 0 ≤ x) (h : x < 16) (w : World) :
    Calls Tryd.prog 41 #[.int .i64 x] w fun e w' => e = .returned (.int .u8 (figI x)) ∧ w' = w := by
  by_cases h1 : x < 10
  · have hf : figI x = 48 + x := if_pos h1
    rw [hf]; clear hf
    go_enter Tryd.func41, Tryd.ntmps41
    go_wp2
    go_ret
    exact ⟨rfl, rfl⟩
  · have hf : figI x = 87 + x := if_neg h1
    rw [hf]; clear hf
    go_enter Tryd.func41, Tryd.ntmps41
    go_wp2
    go_ret
    exact ⟨ret_int (by omega), rfl⟩

end Go.Proofs.YtikamndjelamgaaDoor.HexW
