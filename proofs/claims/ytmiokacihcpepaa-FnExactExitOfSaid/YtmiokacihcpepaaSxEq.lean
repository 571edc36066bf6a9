/-
  Structs of numbers and truth values compared. No statement about the project's code stands here. No condition.
-/
import Derived.Test.YtmiokacihcpepaaSx
import Derived.Laws.StructEq
namespace Go.Proofs.Ytmiokacihcpepaa.Sx
set_option maxRecDepth 100000
open Go.ChangeShapes Go.WideShapes Go.ChangeAt Go.RowKit Go.Deep
set_option linter.unusedVariables false

theorem run_eqs {P : Program} {ρ : Operand → Value} {o : Oper} {op : BinOp} {t t' : TypeId} {x y : Operand} {xs ys : Array Value} {v : Value} (hop : o.op = .binOp op t x y t') (hx : ρ x = .agg xs) (hy : ρ y = .agg ys) (hm : P.eqGuardType P.depth t = false)
    (he : ∀ w, (binOp op t (.agg xs) (.agg ys)).run P w = .ok v w) (w : World) : (execOp ρ o).run P w = .ok (.value v) w := by
  unfold execOp
  simp only [hop, hx, hy, Sem.run_bind, run_eqGuard_agg _ _ _ _ _ _ _ hm, he, Sem.run_pure, Result.andThen_ok]
end Go.Proofs.Ytmiokacihcpepaa.Sx
