/-
  Methods: a call without a result; a slice compared with nil. No statement about the project's code stands here. No condition.
-/
import Derived.Test.YtmiokacihcpepaaSxRes
import Derived.Test.YtmiokacihcpepaaSxCur
namespace Go.Proofs.Ytmiokacihcpepaa.Sx
set_option maxRecDepth 100000
open Go.ChangeShapes Go.WideShapes Go.ChangeAt Go.RowKit Go.Deep
open Go.Proofs.Ytmiokacihcpepaa.Base Go.Proofs.Ytmiokacihcpepaa.Mem Go.Proofs.Ytmiokacihcpepaa.Data Go.Proofs.Ytmiokacihcpepaa.Stt
set_option linter.unusedVariables false
section
variable {P : Program} {n : Nat} {w0 : World} {T : Tl} {L : List Res} {fn : Func} {R : Ending → World → Prop}
theorem results_none {tmps : Array Value} {w : World} (hr : fn.results = #[]) : (results fn tmps).run P w = .ok (.tuple #[]) w := by
  rw [results_map, hr]; simp
theorem E.ret0 (hr : fn.results = #[]) (h : ∀ w, St w0 w L → R (.returned (.tuple #[])) w) : E n (bodyPost P fn R) w0 T L .ret := fun a w hA S =>
  bodyPost_ret (results_none hr) hA.defers (h w S)
end
section
variable {P : Program} {n : Nat} {Q : Exit → Act → World → Prop} {Z : World → Prop} {w0 : World} {T : Tl} {L : List Res} {l : List Oper} {o : Oper} {r : Ord.Ot}
theorem Alone.box {i : Nat} (t : TypeId) (x : Operand) (vs : List Value) (ho : l[i]? = some o) (hop : o.op = .box t x) (hc : chk n T l.toArray o = true) (hx : (ev T x).cells = vs.toArray) (hZ : ∀ w, St w0 w L → Z w)
    (k : ∀ b, GT P n l.toArray Q Z w0 (up o.dst (.pointer (some ⟨b, 0, none⟩)) T) (vr b vs :: L) r) : Alone P n l.toArray Q Z w0 T L i r :=
  Alone.turns ho hc fun w S => ⟨_, _, _, by
    unfold execOp
    simp only [hop, Sem.run_bind, Instr.box, newVar, newRow, run_newObj_alloc, Sem.run_pure, Result.andThen_ok, hx], S.alloc vs t, fun w S => hZ w (St.tail S), k _⟩
end
theorem lies_nothing {w : World} {lo hi : Nat} {cs : List Value} (h : Lies w lo hi none cs) : cs = [] := by
  rcases cs with _ | ⟨u, r⟩
  · rfl
  · obtain ⟨b, off, e, _⟩ := h 0 u rfl
    cases e
theorem p2_nothing {w : World} {lo hi n c : Nat} {l : List (Int × Int)} (h : rdLst (rPair rInt rInt) w lo hi l [.slice none n c]) : l = [] := by
  have := lies_nothing (p2_lies h)
  cases l with
  | nil => rfl
  | cons s l => simp [pcells] at this
theorem i1_nothing {w : World} {lo hi n c : Nat} {l : List Int} (h : rdLst rInt w lo hi l [.slice none n c]) : l = [] := by
  have := lies_nothing (i1_lies h)
  cases l with
  | nil => rfl
  | cons s l => simp [icells] at this
end Go.Proofs.Ytmiokacihcpepaa.Sx
