/-
  What a call hands back: several results, in slots and in cells. No statement about the program stands here. No condition.
-/
import Derived.Test.YtmiokacihcpepaaSx
namespace Go.Proofs.Ytmiokacihcpepaa.Sx
set_option maxRecDepth 100000
open Go.ChangeShapes Go.WideShapes Go.ChangeAt Go.RowKit Go.Deep
open Go.Proofs.Ytmiokacihcpepaa.Base Go.Proofs.Ytmiokacihcpepaa.Mem Go.Proofs.Ytmiokacihcpepaa.Data Go.Proofs.Ytmiokacihcpepaa.Stt
set_option linter.unusedVariables false
set_option linter.unusedSimpArgs false

def resRun (tmps : Array Value) : ResultVar → Sem Value
  | .tmp t => pure (tmps.getD t undef)
  | .cell a t => do loadVar t (← asAddr (tmps.getD a undef))
def IsRes (P : Program) (n : Nat) (w0 : World) (T : Tl) (L : List Res) (r : ResultVar) (v : Value) : Prop := ∀ a w, Ag n T a → St w0 w L → (resRun a.tmps r).run P w = .ok v w
section
variable {P : Program} {n : Nat} {Q : Exit → Act → World → Prop} {w0 : World} {T : Tl} {L : List Res} {fn : Func} {R : Ending → World → Prop}
theorem IsRes.slot {t : Tmp} {v : Value} (ht : look T t = some v) : IsRes P n w0 T L (.tmp t) v := fun a w hA S => by
  simp only [resRun, Sem.run_pure]
  rw [Array.getD_eq_getD_getElem?, hA.at_ t v ht]; rfl
theorem IsRes.row {t : Tmp} {ty : TypeId} (b i : Nat) (vs : List Value) (ht : look T t = some (.pointer (some ⟨b, 0, none⟩))) (hL : L[i]? = some (vr b vs)) (hrow : isRow P ty = true) (hi : (P.info? ty).map (·.size) = some vs.length) : IsRes P n w0 T L (.cell t ty) (.agg vs.toArray) := fun a w hA S => by
  obtain ⟨d, hu, hd⟩ := isRow_spec hrow
  have hl := run_loadVar_mid (P := P) w b 0 ty vs d (S.range i hL) hu hd hi
  have hg : a.tmps.getD t undef = .pointer (some ⟨b, 0, none⟩) := by rw [Array.getD_eq_getD_getElem?, hA.at_ t _ ht]; rfl
  simp only [resRun, hg, asAddr, Sem.run_bind, Sem.run_pure, Result.andThen_ok, hl]
theorem IsRes.one {t : Tmp} {ty : TypeId} (b i : Nat) (v : Value) (ht : look T t = some (.pointer (some ⟨b, 0, none⟩))) (hL : L[i]? = some (vr b [v])) (hr : isCell P ty = true) : IsRes P n w0 T L (.cell t ty) v := fun a w hA S => by
  obtain ⟨d, hu, hd⟩ := isCell_spec hr
  have hcell := S.cell i hL 0 (v := v) rfl
  have hagg : (isAgg ty).run P w = .ok false w := by
    unfold isAgg
    rw [Sem.run_bind, run_underlying hu w]
    cases d <;> simp_all
  have hg : a.tmps.getD t undef = .pointer (some ⟨b, 0, none⟩) := by rw [Array.getD_eq_getD_getElem?, hA.at_ t _ ht]; rfl
  simp only [resRun, hg, asAddr, loadVar, Sem.run_bind, Sem.run_pure, Result.andThen_ok, hagg, Bool.false_eq_true, if_false, run_load, hcell]
theorem results_map (fn : Func) (tmps : Array Value) : results fn tmps = (do let vs ← fn.results.mapM (resRun tmps); pure (if h : vs.size = 1 then vs[0] else .tuple vs)) := by
  have e : (resRun tmps) = (fun | .tmp t => pure (tmps.getD t undef) | .cell a t => do loadVar t (← asAddr (tmps.getD a undef))) := by funext r; cases r <;> rfl
  rw [e]; rfl
theorem results_one {r : ResultVar} {u : Value} {tmps : Array Value} {w : World} (hr : fn.results = #[r]) (h1 : (resRun tmps r).run P w = .ok u w) : (results fn tmps).run P w = .ok u w := by
  rw [results_map, hr]; simp [h1]
theorem results_two {r s : ResultVar} {u v : Value} {tmps : Array Value} {w : World} (hr : fn.results = #[r, s]) (h1 : (resRun tmps r).run P w = .ok u w) (h2 : (resRun tmps s).run P w = .ok v w) : (results fn tmps).run P w = .ok (.tuple #[u, v]) w := by
  rw [results_map, hr]; simp [h1, h2]
theorem results_three {r s q : ResultVar} {u v x : Value} {tmps : Array Value} {w : World} (hr : fn.results = #[r, s, q]) (h1 : (resRun tmps r).run P w = .ok u w) (h2 : (resRun tmps s).run P w = .ok v w) (h3 : (resRun tmps q).run P w = .ok x w) : (results fn tmps).run P w = .ok (.tuple #[u, v, x]) w := by
  rw [results_map, hr]; simp [h1, h2, h3]
theorem E.retg1 {r : ResultVar} (u : Value) (hr : fn.results = #[r]) (h1 : IsRes P n w0 T L r u) (h : ∀ w, St w0 w L → R (.returned u) w) : E n (bodyPost P fn R) w0 T L .ret := fun a w hA S =>
  bodyPost_ret (results_one hr (h1 a w hA S)) hA.defers (h w S)
theorem E.retg2 {r s : ResultVar} (u v : Value) (hr : fn.results = #[r, s]) (h1 : IsRes P n w0 T L r u) (h2 : IsRes P n w0 T L s v) (h : ∀ w, St w0 w L → R (.returned (.tuple #[u, v])) w) : E n (bodyPost P fn R) w0 T L .ret := fun a w hA S =>
  bodyPost_ret (results_two hr (h1 a w hA S) (h2 a w hA S)) hA.defers (h w S)
theorem E.retg3 {r s q : ResultVar} (u v x : Value) (hr : fn.results = #[r, s, q]) (h1 : IsRes P n w0 T L r u) (h2 : IsRes P n w0 T L s v) (h3 : IsRes P n w0 T L q x) (h : ∀ w, St w0 w L → R (.returned (.tuple #[u, v, x])) w) : E n (bodyPost P fn R) w0 T L .ret := fun a w hA S =>
  bodyPost_ret (results_three hr (h1 a w hA S) (h2 a w hA S) (h3 a w hA S)) hA.defers (h w S)
end
end Go.Proofs.Ytmiokacihcpepaa.Sx
