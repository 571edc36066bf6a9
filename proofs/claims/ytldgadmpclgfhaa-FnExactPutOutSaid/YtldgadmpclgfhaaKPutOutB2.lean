/-
  The texts that KPutOut wants, part 2: KitG. No condition.
-/
import Derived.Test.YtldgadmpclgfhaaKPutOutB1
namespace Go.Proofs.Ytldgadmpclgfhaa.Kit
set_option maxRecDepth 100000
open Go.ChangeShapes Go.WideShapes Go.ChangeAt Go.RowKit Go.Deep
open Go.Proofs.Ytldgadmpclgfhaa.Base Go.Proofs.Ytldgadmpclgfhaa.Mem Go.Proofs.Ytldgadmpclgfhaa.Data Go.Proofs.Ytldgadmpclgfhaa.Stt Go.Proofs.Ytldgadmpclgfhaa.Guests Go.Proofs.Ytldgadmpclgfhaa.Ctls Go.Proofs.Ytldgadmpclgfhaa.Exits
set_option linter.unusedVariables false
set_option linter.unusedSimpArgs false
set_option maxRecDepth 100000 in
set_option maxHeartbeats 4000000 in
theorem keq_Ctl (x : CT) (w : World)  : Calls Try.prog 71 #[.agg #[.int .i64 x.1, .int .i64 x.2.1, .bool x.2.2], .agg #[.int .i64 x.1, .int .i64 x.2.1, .bool x.2.2]] w (fun e w' => e = .returned (.bool true) ∧ Below w.heap.size w w') := by
  refine Sx.enter (args := [.agg #[.int .i64 x.1, .int .i64 x.2.1, .bool x.2.2], .agg #[.int .i64 x.1, .int .i64 x.2.1, .bool x.2.2]]) Try.func71 rfl Try.ntmps71 rfl ?_
  refine Sx.C.seq ?_
  refine Sx.C.region ?_
  refine Sx.G.box 47 (.tmp 0) [.int .i64 x.1, .int .i64 x.2.1, .bool x.2.2] rfl (by kernel_rfl) (by kernel_rfl) (fun b1 => ?_)
  refine Sx.G.box 47 (.tmp 1) [.int .i64 x.1, .int .i64 x.2.1, .bool x.2.2] rfl (by kernel_rfl) (by kernel_rfl) (fun b2 => ?_)
  refine Sx.G.pure (.bool false) (by kernel_rfl) (fun w => by kernel_rfl) ?_
  refine Sx.G.nil ?_
  refine Sx.E.next ?_
  refine Sx.C.seq ?_
  refine Sx.C.seq ?_
  refine Sx.C.region ?_
  refine Sx.G.pure (.pointer (some ⟨b1, 0, none⟩)) (by kernel_rfl) (fun w => by kernel_rfl) ?_
  refine Sx.G.ld1 3 (.tmp 5) b1 0 1 [.int .i64 x.1, .int .i64 x.2.1, .bool x.2.2] (.int .i64 x.1) rfl (by kernel_rfl) (by kernel_rfl) rfl (by kernel_rfl) (by kernel_rfl) ?_
  refine Sx.G.pure (.pointer (some ⟨b2, 0, none⟩)) (by kernel_rfl) (fun w => by kernel_rfl) ?_
  refine Sx.G.ld1 3 (.tmp 7) b2 0 0 [.int .i64 x.1, .int .i64 x.2.1, .bool x.2.2] (.int .i64 x.1) rfl (by kernel_rfl) (by kernel_rfl) rfl (by kernel_rfl) (by kernel_rfl) ?_
  refine Sx.G.pureq (.bool (x.1 != x.1)) (.bool false) (by kernel_rfl) (fun w => by kernel_rfl) (congrArg Value.bool (bne_self_eq_false _)) ?_
  refine Sx.G.nil ?_
  refine Sx.E.next ?_
  refine Sx.C.no (by kernel_rfl) (by kernel_rfl) ?_
  refine Sx.C.skip ?_
  refine Sx.E.next ?_
  refine Sx.C.seq ?_
  refine Sx.C.seq ?_
  refine Sx.C.region ?_
  refine Sx.G.pure (.pointer (some ⟨b1, 1, none⟩)) (by kernel_rfl) (fun w => by kernel_rfl) ?_
  refine Sx.G.ld1 3 (.tmp 10) b1 1 1 [.int .i64 x.1, .int .i64 x.2.1, .bool x.2.2] (.int .i64 x.2.1) rfl (by kernel_rfl) (by kernel_rfl) rfl (by kernel_rfl) (by kernel_rfl) ?_
  refine Sx.G.pure (.pointer (some ⟨b2, 1, none⟩)) (by kernel_rfl) (fun w => by kernel_rfl) ?_
  refine Sx.G.ld1 3 (.tmp 12) b2 1 0 [.int .i64 x.1, .int .i64 x.2.1, .bool x.2.2] (.int .i64 x.2.1) rfl (by kernel_rfl) (by kernel_rfl) rfl (by kernel_rfl) (by kernel_rfl) ?_
  refine Sx.G.pureq (.bool (x.2.1 != x.2.1)) (.bool false) (by kernel_rfl) (fun w => by kernel_rfl) (congrArg Value.bool (bne_self_eq_false _)) ?_
  refine Sx.G.nil ?_
  refine Sx.E.next ?_
  refine Sx.C.no (by kernel_rfl) (by kernel_rfl) ?_
  refine Sx.C.skip ?_
  refine Sx.E.next ?_
  refine Sx.C.seq ?_
  refine Sx.C.seq ?_
  refine Sx.C.region ?_
  refine Sx.G.pure (.pointer (some ⟨b1, 2, none⟩)) (by kernel_rfl) (fun w => by kernel_rfl) ?_
  refine Sx.G.ld1 4 (.tmp 15) b1 2 1 [.int .i64 x.1, .int .i64 x.2.1, .bool x.2.2] (.bool x.2.2) rfl (by kernel_rfl) (by kernel_rfl) rfl (by kernel_rfl) (by kernel_rfl) ?_
  refine Sx.G.pure (.pointer (some ⟨b2, 2, none⟩)) (by kernel_rfl) (fun w => by kernel_rfl) ?_
  refine Sx.G.ld1 4 (.tmp 17) b2 2 0 [.int .i64 x.1, .int .i64 x.2.1, .bool x.2.2] (.bool x.2.2) rfl (by kernel_rfl) (by kernel_rfl) rfl (by kernel_rfl) (by kernel_rfl) ?_
  refine Sx.G.pureq (.bool (x.2.2 != x.2.2)) (.bool false) (by kernel_rfl) (fun w => by kernel_rfl) (congrArg Value.bool (bne_self_eq_false _)) ?_
  refine Sx.G.nil ?_
  refine Sx.E.next ?_
  refine Sx.C.no (by kernel_rfl) (by kernel_rfl) ?_
  refine Sx.C.skip ?_
  refine Sx.E.next ?_
  refine Sx.C.seq ?_
  refine Sx.C.region ?_
  refine Sx.G.pure (.bool true) (by kernel_rfl) (fun w => by kernel_rfl) ?_
  refine Sx.G.nil ?_
  refine Sx.E.next ?_
  refine Sx.C.ret ?_
  refine Sx.E.ret1 (.bool true) rfl (by kernel_rfl) (fun w S => ?_)
  exact ⟨rfl, S.below⟩
set_option maxRecDepth 100000 in
set_option maxHeartbeats 4000000 in
theorem kto_Ctl (x : CT) (w : World)  : Calls Try.prog 79 #[.agg #[.int .i64 x.1, .int .i64 x.2.1, .bool x.2.2]] w (fun e w' => e = .returned (.agg #[.int .i64 x.1, .int .i64 x.2.1, .bool x.2.2]) ∧ Below w.heap.size w w') := by
  refine Sx.enter (args := [.agg #[.int .i64 x.1, .int .i64 x.2.1, .bool x.2.2]]) Try.func79 rfl Try.ntmps79 rfl ?_
  refine Sx.C.seq ?_
  refine Sx.C.region ?_
  refine Sx.G.box 59 (.tmp 0) [.int .i64 x.1, .int .i64 x.2.1, .bool x.2.2] rfl (by kernel_rfl) (by kernel_rfl) (fun b1 => ?_)
  refine Sx.G.alloc 47 (.agg #[.int .i64 0, .int .i64 0, .bool false]) [.int .i64 0, .int .i64 0, .bool false] rfl (by kernel_rfl) (fun w => by kernel_rfl) (by kernel_rfl) (fun b2 => ?_)
  refine Sx.G.nil ?_
  refine Sx.E.next ?_
  refine Sx.C.seq ?_
  refine Sx.C.region ?_
  refine Sx.G.alloc 47 (.agg #[.int .i64 0, .int .i64 0, .bool false]) [.int .i64 0, .int .i64 0, .bool false] rfl (by kernel_rfl) (fun w => by kernel_rfl) (by kernel_rfl) (fun b3 => ?_)
  refine Sx.G.nil ?_
  refine Sx.E.next ?_
  refine Sx.C.seq ?_
  refine Sx.C.region ?_
  refine Sx.G.pure (.pointer (some ⟨b1, 0, none⟩)) (by kernel_rfl) (fun w => by kernel_rfl) ?_
  refine Sx.G.ld1 3 (.tmp 4) b1 0 2 [.int .i64 x.1, .int .i64 x.2.1, .bool x.2.2] (.int .i64 x.1) rfl (by kernel_rfl) (by kernel_rfl) rfl (by kernel_rfl) (by kernel_rfl) ?_
  refine Sx.G.pure (.pointer (some ⟨b3, 0, none⟩)) (by kernel_rfl) (fun w => by kernel_rfl) ?_
  refine Sx.G.sto 3 (.tmp 6) (.tmp 5) b3 0 0 [.int .i64 0, .int .i64 0, .bool false] [.int .i64 x.1] [.int .i64 x.1, .int .i64 0, .bool false] [vr b3 [.int .i64 x.1, .int .i64 0, .bool false], vr b2 [.int .i64 0, .int .i64 0, .bool false], vr b1 [.int .i64 x.1, .int .i64 x.2.1, .bool x.2.2]] rfl (by kernel_rfl) (by kernel_rfl) (by kernel_rfl) rfl (by kernel_rfl) rfl (by kernel_rfl) (by kernel_rfl) (by kernel_rfl) ?_
  refine Sx.G.nil ?_
  refine Sx.E.next ?_
  refine Sx.C.seq ?_
  refine Sx.C.region ?_
  refine Sx.G.pure (.pointer (some ⟨b1, 1, none⟩)) (by kernel_rfl) (fun w => by kernel_rfl) ?_
  refine Sx.G.ld1 3 (.tmp 7) b1 1 2 [.int .i64 x.1, .int .i64 x.2.1, .bool x.2.2] (.int .i64 x.2.1) rfl (by kernel_rfl) (by kernel_rfl) rfl (by kernel_rfl) (by kernel_rfl) ?_
  refine Sx.G.pure (.pointer (some ⟨b3, 1, none⟩)) (by kernel_rfl) (fun w => by kernel_rfl) ?_
  refine Sx.G.sto 3 (.tmp 9) (.tmp 8) b3 1 0 [.int .i64 x.1, .int .i64 0, .bool false] [.int .i64 x.2.1] [.int .i64 x.1, .int .i64 x.2.1, .bool false] [vr b3 [.int .i64 x.1, .int .i64 x.2.1, .bool false], vr b2 [.int .i64 0, .int .i64 0, .bool false], vr b1 [.int .i64 x.1, .int .i64 x.2.1, .bool x.2.2]] rfl (by kernel_rfl) (by kernel_rfl) (by kernel_rfl) rfl (by kernel_rfl) rfl (by kernel_rfl) (by kernel_rfl) (by kernel_rfl) ?_
  refine Sx.G.nil ?_
  refine Sx.E.next ?_
  refine Sx.C.seq ?_
  refine Sx.C.region ?_
  refine Sx.G.pure (.pointer (some ⟨b1, 2, none⟩)) (by kernel_rfl) (fun w => by kernel_rfl) ?_
  refine Sx.G.ld1 4 (.tmp 10) b1 2 2 [.int .i64 x.1, .int .i64 x.2.1, .bool x.2.2] (.bool x.2.2) rfl (by kernel_rfl) (by kernel_rfl) rfl (by kernel_rfl) (by kernel_rfl) ?_
  refine Sx.G.pure (.pointer (some ⟨b3, 2, none⟩)) (by kernel_rfl) (fun w => by kernel_rfl) ?_
  refine Sx.G.sto 4 (.tmp 12) (.tmp 11) b3 2 0 [.int .i64 x.1, .int .i64 x.2.1, .bool false] [.bool x.2.2] [.int .i64 x.1, .int .i64 x.2.1, .bool x.2.2] [vr b3 [.int .i64 x.1, .int .i64 x.2.1, .bool x.2.2], vr b2 [.int .i64 0, .int .i64 0, .bool false], vr b1 [.int .i64 x.1, .int .i64 x.2.1, .bool x.2.2]] rfl (by kernel_rfl) (by kernel_rfl) (by kernel_rfl) rfl (by kernel_rfl) rfl (by kernel_rfl) (by kernel_rfl) (by kernel_rfl) ?_
  refine Sx.G.nil ?_
  refine Sx.E.next ?_
  refine Sx.C.seq ?_
  refine Sx.C.region ?_
  refine Sx.G.ld 47 (.tmp 3) b3 0 0 [.int .i64 x.1, .int .i64 x.2.1, .bool x.2.2] [.int .i64 x.1, .int .i64 x.2.1, .bool x.2.2] rfl (by kernel_rfl) (by kernel_rfl) rfl (by kernel_rfl) (by kernel_rfl) (by kernel_rfl) ?_
  refine Sx.G.sto 47 (.tmp 2) (.tmp 13) b2 0 1 [.int .i64 0, .int .i64 0, .bool false] [.int .i64 x.1, .int .i64 x.2.1, .bool x.2.2] [.int .i64 x.1, .int .i64 x.2.1, .bool x.2.2] [vr b3 [.int .i64 x.1, .int .i64 x.2.1, .bool x.2.2], vr b2 [.int .i64 x.1, .int .i64 x.2.1, .bool x.2.2], vr b1 [.int .i64 x.1, .int .i64 x.2.1, .bool x.2.2]] rfl (by kernel_rfl) (by kernel_rfl) (by kernel_rfl) rfl (by kernel_rfl) rfl (by kernel_rfl) (by kernel_rfl) (by kernel_rfl) ?_
  refine Sx.G.nil ?_
  refine Sx.E.next ?_
  refine Sx.C.ret ?_
  refine Sx.E.retc b2 1 [.int .i64 x.1, .int .i64 x.2.1, .bool x.2.2] rfl (by kernel_rfl) rfl (by kernel_rfl) (by kernel_rfl) (fun w S => ?_)
  exact ⟨rfl, S.below⟩
set_option maxRecDepth 100000 in
set_option maxHeartbeats 4000000 in
theorem keq_Exit (x : QT) (w : World)  : Calls Try.prog 72 #[.agg #[.int .i64 x.1, .int .i64 x.2.1, .bool x.2.2.1, .int .i64 x.2.2.2], .agg #[.int .i64 x.1, .int .i64 x.2.1, .bool x.2.2.1, .int .i64 x.2.2.2]] w (fun e w' => e = .returned (.bool true) ∧ Below w.heap.size w w') := by
  refine Sx.enter (args := [.agg #[.int .i64 x.1, .int .i64 x.2.1, .bool x.2.2.1, .int .i64 x.2.2.2], .agg #[.int .i64 x.1, .int .i64 x.2.1, .bool x.2.2.1, .int .i64 x.2.2.2]]) Try.func72 rfl Try.ntmps72 rfl ?_
  refine Sx.C.seq ?_
  refine Sx.C.region ?_
  refine Sx.G.box 49 (.tmp 0) [.int .i64 x.1, .int .i64 x.2.1, .bool x.2.2.1, .int .i64 x.2.2.2] rfl (by kernel_rfl) (by kernel_rfl) (fun b1 => ?_)
  refine Sx.G.box 49 (.tmp 1) [.int .i64 x.1, .int .i64 x.2.1, .bool x.2.2.1, .int .i64 x.2.2.2] rfl (by kernel_rfl) (by kernel_rfl) (fun b2 => ?_)
  refine Sx.G.pure (.bool false) (by kernel_rfl) (fun w => by kernel_rfl) ?_
  refine Sx.G.nil ?_
  refine Sx.E.next ?_
  refine Sx.C.seq ?_
  refine Sx.C.seq ?_
  refine Sx.C.region ?_
  refine Sx.G.pure (.pointer (some ⟨b1, 0, none⟩)) (by kernel_rfl) (fun w => by kernel_rfl) ?_
  refine Sx.G.ld1 3 (.tmp 5) b1 0 1 [.int .i64 x.1, .int .i64 x.2.1, .bool x.2.2.1, .int .i64 x.2.2.2] (.int .i64 x.1) rfl (by kernel_rfl) (by kernel_rfl) rfl (by kernel_rfl) (by kernel_rfl) ?_
  refine Sx.G.pure (.pointer (some ⟨b2, 0, none⟩)) (by kernel_rfl) (fun w => by kernel_rfl) ?_
  refine Sx.G.ld1 3 (.tmp 7) b2 0 0 [.int .i64 x.1, .int .i64 x.2.1, .bool x.2.2.1, .int .i64 x.2.2.2] (.int .i64 x.1) rfl (by kernel_rfl) (by kernel_rfl) rfl (by kernel_rfl) (by kernel_rfl) ?_
  refine Sx.G.pureq (.bool (x.1 != x.1)) (.bool false) (by kernel_rfl) (fun w => by kernel_rfl) (congrArg Value.bool (bne_self_eq_false _)) ?_
  refine Sx.G.nil ?_
  refine Sx.E.next ?_
  refine Sx.C.no (by kernel_rfl) (by kernel_rfl) ?_
  refine Sx.C.skip ?_
  refine Sx.E.next ?_
  refine Sx.C.seq ?_
  refine Sx.C.seq ?_
  refine Sx.C.region ?_
  refine Sx.G.pure (.pointer (some ⟨b1, 1, none⟩)) (by kernel_rfl) (fun w => by kernel_rfl) ?_
  refine Sx.G.ld1 3 (.tmp 10) b1 1 1 [.int .i64 x.1, .int .i64 x.2.1, .bool x.2.2.1, .int .i64 x.2.2.2] (.int .i64 x.2.1) rfl (by kernel_rfl) (by kernel_rfl) rfl (by kernel_rfl) (by kernel_rfl) ?_
  refine Sx.G.pure (.pointer (some ⟨b2, 1, none⟩)) (by kernel_rfl) (fun w => by kernel_rfl) ?_
  refine Sx.G.ld1 3 (.tmp 12) b2 1 0 [.int .i64 x.1, .int .i64 x.2.1, .bool x.2.2.1, .int .i64 x.2.2.2] (.int .i64 x.2.1) rfl (by kernel_rfl) (by kernel_rfl) rfl (by kernel_rfl) (by kernel_rfl) ?_
  refine Sx.G.pureq (.bool (x.2.1 != x.2.1)) (.bool false) (by kernel_rfl) (fun w => by kernel_rfl) (congrArg Value.bool (bne_self_eq_false _)) ?_
  refine Sx.G.nil ?_
  refine Sx.E.next ?_
  refine Sx.C.no (by kernel_rfl) (by kernel_rfl) ?_
  refine Sx.C.skip ?_
  refine Sx.E.next ?_
  refine Sx.C.seq ?_
  refine Sx.C.seq ?_
  refine Sx.C.region ?_
  refine Sx.G.pure (.pointer (some ⟨b1, 2, none⟩)) (by kernel_rfl) (fun w => by kernel_rfl) ?_
  refine Sx.G.ld1 4 (.tmp 15) b1 2 1 [.int .i64 x.1, .int .i64 x.2.1, .bool x.2.2.1, .int .i64 x.2.2.2] (.bool x.2.2.1) rfl (by kernel_rfl) (by kernel_rfl) rfl (by kernel_rfl) (by kernel_rfl) ?_
  refine Sx.G.pure (.pointer (some ⟨b2, 2, none⟩)) (by kernel_rfl) (fun w => by kernel_rfl) ?_
  refine Sx.G.ld1 4 (.tmp 17) b2 2 0 [.int .i64 x.1, .int .i64 x.2.1, .bool x.2.2.1, .int .i64 x.2.2.2] (.bool x.2.2.1) rfl (by kernel_rfl) (by kernel_rfl) rfl (by kernel_rfl) (by kernel_rfl) ?_
  refine Sx.G.pureq (.bool (x.2.2.1 != x.2.2.1)) (.bool false) (by kernel_rfl) (fun w => by kernel_rfl) (congrArg Value.bool (bne_self_eq_false _)) ?_
  refine Sx.G.nil ?_
  refine Sx.E.next ?_
  refine Sx.C.no (by kernel_rfl) (by kernel_rfl) ?_
  refine Sx.C.skip ?_
  refine Sx.E.next ?_
  refine Sx.C.seq ?_
  refine Sx.C.seq ?_
  refine Sx.C.region ?_
  refine Sx.G.pure (.pointer (some ⟨b1, 3, none⟩)) (by kernel_rfl) (fun w => by kernel_rfl) ?_
  refine Sx.G.ld1 3 (.tmp 20) b1 3 1 [.int .i64 x.1, .int .i64 x.2.1, .bool x.2.2.1, .int .i64 x.2.2.2] (.int .i64 x.2.2.2) rfl (by kernel_rfl) (by kernel_rfl) rfl (by kernel_rfl) (by kernel_rfl) ?_
  refine Sx.G.pure (.pointer (some ⟨b2, 3, none⟩)) (by kernel_rfl) (fun w => by kernel_rfl) ?_
  refine Sx.G.ld1 3 (.tmp 22) b2 3 0 [.int .i64 x.1, .int .i64 x.2.1, .bool x.2.2.1, .int .i64 x.2.2.2] (.int .i64 x.2.2.2) rfl (by kernel_rfl) (by kernel_rfl) rfl (by kernel_rfl) (by kernel_rfl) ?_
  refine Sx.G.pureq (.bool (x.2.2.2 != x.2.2.2)) (.bool false) (by kernel_rfl) (fun w => by kernel_rfl) (congrArg Value.bool (bne_self_eq_false _)) ?_
  refine Sx.G.nil ?_
  refine Sx.E.next ?_
  refine Sx.C.no (by kernel_rfl) (by kernel_rfl) ?_
  refine Sx.C.skip ?_
  refine Sx.E.next ?_
  refine Sx.C.seq ?_
  refine Sx.C.region ?_
  refine Sx.G.pure (.bool true) (by kernel_rfl) (fun w => by kernel_rfl) ?_
  refine Sx.G.nil ?_
  refine Sx.E.next ?_
  refine Sx.C.ret ?_
  refine Sx.E.ret1 (.bool true) rfl (by kernel_rfl) (fun w S => ?_)
  exact ⟨rfl, S.below⟩
set_option maxRecDepth 100000 in
set_option maxHeartbeats 4000000 in
theorem kto_Exit (x : QT) (w : World)  : Calls Try.prog 80 #[.agg #[.int .i64 x.1, .int .i64 x.2.1, .bool x.2.2.1, .int .i64 x.2.2.2]] w (fun e w' => e = .returned (.agg #[.int .i64 x.1, .int .i64 x.2.1, .bool x.2.2.1, .int .i64 x.2.2.2]) ∧ Below w.heap.size w w') := by
  refine Sx.enter (args := [.agg #[.int .i64 x.1, .int .i64 x.2.1, .bool x.2.2.1, .int .i64 x.2.2.2]]) Try.func80 rfl Try.ntmps80 rfl ?_
  refine Sx.C.seq ?_
  refine Sx.C.region ?_
  refine Sx.G.box 60 (.tmp 0) [.int .i64 x.1, .int .i64 x.2.1, .bool x.2.2.1, .int .i64 x.2.2.2] rfl (by kernel_rfl) (by kernel_rfl) (fun b1 => ?_)
  refine Sx.G.alloc 49 (.agg #[.int .i64 0, .int .i64 0, .bool false, .int .i64 0]) [.int .i64 0, .int .i64 0, .bool false, .int .i64 0] rfl (by kernel_rfl) (fun w => by kernel_rfl) (by kernel_rfl) (fun b2 => ?_)
  refine Sx.G.nil ?_
  refine Sx.E.next ?_
  refine Sx.C.seq ?_
  refine Sx.C.region ?_
  refine Sx.G.alloc 49 (.agg #[.int .i64 0, .int .i64 0, .bool false, .int .i64 0]) [.int .i64 0, .int .i64 0, .bool false, .int .i64 0] rfl (by kernel_rfl) (fun w => by kernel_rfl) (by kernel_rfl) (fun b3 => ?_)
  refine Sx.G.nil ?_
  refine Sx.E.next ?_
  refine Sx.C.seq ?_
  refine Sx.C.region ?_
  refine Sx.G.pure (.pointer (some ⟨b1, 0, none⟩)) (by kernel_rfl) (fun w => by kernel_rfl) ?_
  refine Sx.G.ld1 3 (.tmp 4) b1 0 2 [.int .i64 x.1, .int .i64 x.2.1, .bool x.2.2.1, .int .i64 x.2.2.2] (.int .i64 x.1) rfl (by kernel_rfl) (by kernel_rfl) rfl (by kernel_rfl) (by kernel_rfl) ?_
  refine Sx.G.pure (.pointer (some ⟨b3, 0, none⟩)) (by kernel_rfl) (fun w => by kernel_rfl) ?_
  refine Sx.G.sto 3 (.tmp 6) (.tmp 5) b3 0 0 [.int .i64 0, .int .i64 0, .bool false, .int .i64 0] [.int .i64 x.1] [.int .i64 x.1, .int .i64 0, .bool false, .int .i64 0] [vr b3 [.int .i64 x.1, .int .i64 0, .bool false, .int .i64 0], vr b2 [.int .i64 0, .int .i64 0, .bool false, .int .i64 0], vr b1 [.int .i64 x.1, .int .i64 x.2.1, .bool x.2.2.1, .int .i64 x.2.2.2]] rfl (by kernel_rfl) (by kernel_rfl) (by kernel_rfl) rfl (by kernel_rfl) rfl (by kernel_rfl) (by kernel_rfl) (by kernel_rfl) ?_
  refine Sx.G.nil ?_
  refine Sx.E.next ?_
  refine Sx.C.seq ?_
  refine Sx.C.region ?_
  refine Sx.G.pure (.pointer (some ⟨b1, 1, none⟩)) (by kernel_rfl) (fun w => by kernel_rfl) ?_
  refine Sx.G.ld1 3 (.tmp 7) b1 1 2 [.int .i64 x.1, .int .i64 x.2.1, .bool x.2.2.1, .int .i64 x.2.2.2] (.int .i64 x.2.1) rfl (by kernel_rfl) (by kernel_rfl) rfl (by kernel_rfl) (by kernel_rfl) ?_
  refine Sx.G.pure (.pointer (some ⟨b3, 1, none⟩)) (by kernel_rfl) (fun w => by kernel_rfl) ?_
  refine Sx.G.sto 3 (.tmp 9) (.tmp 8) b3 1 0 [.int .i64 x.1, .int .i64 0, .bool false, .int .i64 0] [.int .i64 x.2.1] [.int .i64 x.1, .int .i64 x.2.1, .bool false, .int .i64 0] [vr b3 [.int .i64 x.1, .int .i64 x.2.1, .bool false, .int .i64 0], vr b2 [.int .i64 0, .int .i64 0, .bool false, .int .i64 0], vr b1 [.int .i64 x.1, .int .i64 x.2.1, .bool x.2.2.1, .int .i64 x.2.2.2]] rfl (by kernel_rfl) (by kernel_rfl) (by kernel_rfl) rfl (by kernel_rfl) rfl (by kernel_rfl) (by kernel_rfl) (by kernel_rfl) ?_
  refine Sx.G.nil ?_
  refine Sx.E.next ?_
  refine Sx.C.seq ?_
  refine Sx.C.region ?_
  refine Sx.G.pure (.pointer (some ⟨b1, 2, none⟩)) (by kernel_rfl) (fun w => by kernel_rfl) ?_
  refine Sx.G.ld1 4 (.tmp 10) b1 2 2 [.int .i64 x.1, .int .i64 x.2.1, .bool x.2.2.1, .int .i64 x.2.2.2] (.bool x.2.2.1) rfl (by kernel_rfl) (by kernel_rfl) rfl (by kernel_rfl) (by kernel_rfl) ?_
  refine Sx.G.pure (.pointer (some ⟨b3, 2, none⟩)) (by kernel_rfl) (fun w => by kernel_rfl) ?_
  refine Sx.G.sto 4 (.tmp 12) (.tmp 11) b3 2 0 [.int .i64 x.1, .int .i64 x.2.1, .bool false, .int .i64 0] [.bool x.2.2.1] [.int .i64 x.1, .int .i64 x.2.1, .bool x.2.2.1, .int .i64 0] [vr b3 [.int .i64 x.1, .int .i64 x.2.1, .bool x.2.2.1, .int .i64 0], vr b2 [.int .i64 0, .int .i64 0, .bool false, .int .i64 0], vr b1 [.int .i64 x.1, .int .i64 x.2.1, .bool x.2.2.1, .int .i64 x.2.2.2]] rfl (by kernel_rfl) (by kernel_rfl) (by kernel_rfl) rfl (by kernel_rfl) rfl (by kernel_rfl) (by kernel_rfl) (by kernel_rfl) ?_
  refine Sx.G.nil ?_
  refine Sx.E.next ?_
  refine Sx.C.seq ?_
  refine Sx.C.region ?_
  refine Sx.G.pure (.pointer (some ⟨b1, 3, none⟩)) (by kernel_rfl) (fun w => by kernel_rfl) ?_
  refine Sx.G.ld1 3 (.tmp 13) b1 3 2 [.int .i64 x.1, .int .i64 x.2.1, .bool x.2.2.1, .int .i64 x.2.2.2] (.int .i64 x.2.2.2) rfl (by kernel_rfl) (by kernel_rfl) rfl (by kernel_rfl) (by kernel_rfl) ?_
  refine Sx.G.pure (.pointer (some ⟨b3, 3, none⟩)) (by kernel_rfl) (fun w => by kernel_rfl) ?_
  refine Sx.G.sto 3 (.tmp 15) (.tmp 14) b3 3 0 [.int .i64 x.1, .int .i64 x.2.1, .bool x.2.2.1, .int .i64 0] [.int .i64 x.2.2.2] [.int .i64 x.1, .int .i64 x.2.1, .bool x.2.2.1, .int .i64 x.2.2.2] [vr b3 [.int .i64 x.1, .int .i64 x.2.1, .bool x.2.2.1, .int .i64 x.2.2.2], vr b2 [.int .i64 0, .int .i64 0, .bool false, .int .i64 0], vr b1 [.int .i64 x.1, .int .i64 x.2.1, .bool x.2.2.1, .int .i64 x.2.2.2]] rfl (by kernel_rfl) (by kernel_rfl) (by kernel_rfl) rfl (by kernel_rfl) rfl (by kernel_rfl) (by kernel_rfl) (by kernel_rfl) ?_
  refine Sx.G.nil ?_
  refine Sx.E.next ?_
  refine Sx.C.seq ?_
  refine Sx.C.region ?_
  refine Sx.G.ld 49 (.tmp 3) b3 0 0 [.int .i64 x.1, .int .i64 x.2.1, .bool x.2.2.1, .int .i64 x.2.2.2] [.int .i64 x.1, .int .i64 x.2.1, .bool x.2.2.1, .int .i64 x.2.2.2] rfl (by kernel_rfl) (by kernel_rfl) rfl (by kernel_rfl) (by kernel_rfl) (by kernel_rfl) ?_
  refine Sx.G.sto 49 (.tmp 2) (.tmp 16) b2 0 1 [.int .i64 0, .int .i64 0, .bool false, .int .i64 0] [.int .i64 x.1, .int .i64 x.2.1, .bool x.2.2.1, .int .i64 x.2.2.2] [.int .i64 x.1, .int .i64 x.2.1, .bool x.2.2.1, .int .i64 x.2.2.2] [vr b3 [.int .i64 x.1, .int .i64 x.2.1, .bool x.2.2.1, .int .i64 x.2.2.2], vr b2 [.int .i64 x.1, .int .i64 x.2.1, .bool x.2.2.1, .int .i64 x.2.2.2], vr b1 [.int .i64 x.1, .int .i64 x.2.1, .bool x.2.2.1, .int .i64 x.2.2.2]] rfl (by kernel_rfl) (by kernel_rfl) (by kernel_rfl) rfl (by kernel_rfl) rfl (by kernel_rfl) (by kernel_rfl) (by kernel_rfl) ?_
  refine Sx.G.nil ?_
  refine Sx.E.next ?_
  refine Sx.C.ret ?_
  refine Sx.E.retc b2 1 [.int .i64 x.1, .int .i64 x.2.1, .bool x.2.2.1, .int .i64 x.2.2.2] rfl (by kernel_rfl) rfl (by kernel_rfl) (by kernel_rfl) (fun w S => ?_)
  exact ⟨rfl, S.below⟩
/-- How a gT lies in memory. -/
def wG : Rp gT := rVia (rPair ((rLsw (rPair rInt rInt))) (rPair rInt (rPair rInt (rPair ((rLsw (rPair rInt rInt))) (rPair ((rLsw (rPair rInt rInt))) (rPair rCtl (rPair rInt (rPair rExit (rPair rBool ((rLsw rInt))))))))))) (fun g => (g.prog, g.a, g.pc, g.wr, g.lv, g.t, g.pd, g.x, g.hl, g.seen)) (fun k => ⟨k.1, k.2.1, k.2.2.1, k.2.2.2.1, k.2.2.2.2.1, k.2.2.2.2.2.1, k.2.2.2.2.2.2.1, k.2.2.2.2.2.2.2.1, k.2.2.2.2.2.2.2.2.1, k.2.2.2.2.2.2.2.2.2⟩)
theorem wG_rd {w : World} {lo hi : Nat} {g : gT} {cs : List Value} (h : wG.rd w lo hi g cs) : ∃ P0 P1 P2 P3, cs = [P0, .int .i64 g.a, .int .i64 g.pc, P1, P2, .int .i64 g.t.1, .int .i64 g.t.2.1, .bool g.t.2.2, .int .i64 g.pd, .int .i64 g.x.1, .int .i64 g.x.2.1, .bool g.x.2.2.1, .int .i64 g.x.2.2.2, .bool g.hl, P3] ∧ ((rLsw (rPair rInt rInt))).rd w lo hi g.prog [P0] ∧ ((rLsw (rPair rInt rInt))).rd w lo hi g.wr [P1] ∧ ((rLsw (rPair rInt rInt))).rd w lo hi g.lv [P2] ∧ ((rLsw rInt)).rd w lo hi g.seen [P3] := by
  obtain ⟨c0, s0, rfl, h0, g0⟩ := h
  obtain ⟨P0, rfl⟩ := lst_rd h0
  obtain ⟨c1, s1, rfl, h1, g1⟩ := g0
  obtain rfl := show _ = _ from h1
  obtain ⟨c2, s2, rfl, h2, g2⟩ := g1
  obtain rfl := show _ = _ from h2
  obtain ⟨c3, s3, rfl, h3, g3⟩ := g2
  obtain ⟨P1, rfl⟩ := lst_rd h3
  obtain ⟨c4, s4, rfl, h4, g4⟩ := g3
  obtain ⟨P2, rfl⟩ := lst_rd h4
  obtain ⟨c5, s5, rfl, h5, g5⟩ := g4
  obtain ⟨u5_0, v5_0, rfl, x5_0, q5_0⟩ := h5
  obtain rfl := show _ = _ from x5_0
  obtain ⟨u5_1, v5_1, rfl, x5_1, q5_1⟩ := q5_0
  obtain rfl := show _ = _ from x5_1
  obtain rfl := show _ = _ from q5_1
  obtain ⟨c6, s6, rfl, h6, g6⟩ := g5
  obtain rfl := show _ = _ from h6
  obtain ⟨c7, s7, rfl, h7, g7⟩ := g6
  obtain ⟨u7_0, v7_0, rfl, x7_0, q7_0⟩ := h7
  obtain rfl := show _ = _ from x7_0
  obtain ⟨u7_1, v7_1, rfl, x7_1, q7_1⟩ := q7_0
  obtain rfl := show _ = _ from x7_1
  obtain ⟨u7_2, v7_2, rfl, x7_2, q7_2⟩ := q7_1
  obtain rfl := show _ = _ from x7_2
  obtain rfl := show _ = _ from q7_2
  obtain ⟨c8, s8, rfl, h8, g8⟩ := g7
  obtain rfl := show _ = _ from h8
  obtain ⟨P3, rfl⟩ := lst_rd g8
  exact ⟨P0, P1, P2, P3, by simp, h0, h3, h4, g8⟩
theorem wG_own {w : World} {lo hi : Nat} {g : gT} {cs : List Value} {F : List Nat} (h : wG.own w lo hi g cs F) : ∃ P0 P1 P2 P3 F0 F1 F2 F3, cs = [P0, .int .i64 g.a, .int .i64 g.pc, P1, P2, .int .i64 g.t.1, .int .i64 g.t.2.1, .bool g.t.2.2, .int .i64 g.pd, .int .i64 g.x.1, .int .i64 g.x.2.1, .bool g.x.2.2.1, .int .i64 g.x.2.2.2, .bool g.hl, P3] ∧ F = F0 ++ (F1 ++ (F2 ++ F3)) ∧ ((rLsw (rPair rInt rInt))).own w lo hi g.prog [P0] F0 ∧ ((rLsw (rPair rInt rInt))).own w lo hi g.wr [P1] F1 ∧ ((rLsw (rPair rInt rInt))).own w lo hi g.lv [P2] F2 ∧ ((rLsw rInt)).own w lo hi g.seen [P3] F3 := by
  obtain ⟨c0, s0, G0, H0, rfl, rfl, h0, g0⟩ := h
  obtain ⟨P0, rfl⟩ := lsw_own h0
  obtain ⟨c1, s1, G1, H1, rfl, rfl, h1, g1⟩ := g0
  obtain ⟨rfl, rfl⟩ := h1
  obtain ⟨c2, s2, G2, H2, rfl, rfl, h2, g2⟩ := g1
  obtain ⟨rfl, rfl⟩ := h2
  obtain ⟨c3, s3, G3, H3, rfl, rfl, h3, g3⟩ := g2
  obtain ⟨P1, rfl⟩ := lsw_own h3
  obtain ⟨c4, s4, G4, H4, rfl, rfl, h4, g4⟩ := g3
  obtain ⟨P2, rfl⟩ := lsw_own h4
  obtain ⟨c5, s5, G5, H5, rfl, rfl, h5, g5⟩ := g4
  obtain ⟨u5_0, v5_0, U5_0, V5_0, rfl, rfl, ⟨rfl, rfl⟩, q5_0⟩ := h5
  obtain ⟨u5_1, v5_1, U5_1, V5_1, rfl, rfl, ⟨rfl, rfl⟩, q5_1⟩ := q5_0
  obtain ⟨rfl, rfl⟩ := q5_1
  obtain ⟨c6, s6, G6, H6, rfl, rfl, h6, g6⟩ := g5
  obtain ⟨rfl, rfl⟩ := h6
  obtain ⟨c7, s7, G7, H7, rfl, rfl, h7, g7⟩ := g6
  obtain ⟨u7_0, v7_0, U7_0, V7_0, rfl, rfl, ⟨rfl, rfl⟩, q7_0⟩ := h7
  obtain ⟨u7_1, v7_1, U7_1, V7_1, rfl, rfl, ⟨rfl, rfl⟩, q7_1⟩ := q7_0
  obtain ⟨u7_2, v7_2, U7_2, V7_2, rfl, rfl, ⟨rfl, rfl⟩, q7_2⟩ := q7_1
  obtain ⟨rfl, rfl⟩ := q7_2
  obtain ⟨c8, s8, G8, H8, rfl, rfl, h8, g8⟩ := g7
  obtain ⟨rfl, rfl⟩ := h8
  obtain ⟨P3, rfl⟩ := lsw_own g8
  exact ⟨P0, P1, P2, P3, G0, G3, G4, H8, by simp, by simp, h0, h3, h4, g8⟩
theorem wG_own_mk {w : World} {lo hi : Nat} {g : gT} {P0 P1 P2 P3 : Value} {F0 F1 F2 F3 : List Nat} (h0 : ((rLsw (rPair rInt rInt))).own w lo hi g.prog [P0] F0) (h1 : ((rLsw (rPair rInt rInt))).own w lo hi g.wr [P1] F1) (h2 : ((rLsw (rPair rInt rInt))).own w lo hi g.lv [P2] F2) (h3 : ((rLsw rInt)).own w lo hi g.seen [P3] F3) : wG.own w lo hi g [P0, .int .i64 g.a, .int .i64 g.pc, P1, P2, .int .i64 g.t.1, .int .i64 g.t.2.1, .bool g.t.2.2, .int .i64 g.pd, .int .i64 g.x.1, .int .i64 g.x.2.1, .bool g.x.2.2.1, .int .i64 g.x.2.2.2, .bool g.hl, P3] (F0 ++ (F1 ++ (F2 ++ F3))) := by
  have h : wG.own w lo hi g [P0, .int .i64 g.a, .int .i64 g.pc, P1, P2, .int .i64 g.t.1, .int .i64 g.t.2.1, .bool g.t.2.2, .int .i64 g.pd, .int .i64 g.x.1, .int .i64 g.x.2.1, .bool g.x.2.2.1, .int .i64 g.x.2.2.2, .bool g.hl, P3] _ := ⟨[_], _, F0, _, rfl, rfl, h0, ⟨[_], _, [], _, rfl, rfl, ⟨rfl, rfl⟩, ⟨[_], _, [], _, rfl, rfl, ⟨rfl, rfl⟩, ⟨[_], _, F1, _, rfl, rfl, h1, ⟨[_], _, F2, _, rfl, rfl, h2, ⟨[_, _, _], _, [], _, rfl, rfl, ⟨[_], _, [], [], rfl, rfl, ⟨rfl, rfl⟩, ⟨[_], _, [], [], rfl, rfl, ⟨rfl, rfl⟩, ⟨rfl, rfl⟩⟩⟩, ⟨[_], _, [], _, rfl, rfl, ⟨rfl, rfl⟩, ⟨[_, _, _, _], _, [], _, rfl, rfl, ⟨[_], _, [], [], rfl, rfl, ⟨rfl, rfl⟩, ⟨[_], _, [], [], rfl, rfl, ⟨rfl, rfl⟩, ⟨[_], _, [], [], rfl, rfl, ⟨rfl, rfl⟩, ⟨rfl, rfl⟩⟩⟩⟩, ⟨[_], _, [], _, rfl, rfl, ⟨rfl, rfl⟩, h3⟩⟩⟩⟩⟩⟩⟩⟩⟩
  simpa using h
theorem wG_shut {w0 w : World} {g : gT} {L : List Res} {P0 P1 P2 P3 : Value} {F0 F1 F2 F3 : List Nat} {l0 k0 l1 k1 l2 k2 l3 k3 : Nat} (S : St w0 w L) (i0 : Nat) (e0 : L[i0]? = some (ow (rLsw (rPair rInt rInt)) l0 k0 g.prog [P0] F0)) (i1 : Nat) (e1 : L[i1]? = some (ow (rLsw (rPair rInt rInt)) l1 k1 g.wr [P1] F1)) (i2 : Nat) (e2 : L[i2]? = some (ow (rLsw (rPair rInt rInt)) l2 k2 g.lv [P2] F2)) (i3 : Nat) (e3 : L[i3]? = some (ow (rLsw rInt) l3 k3 g.seen [P3] F3)) (n01 : i0 ≠ i1) (n02 : i0 ≠ i2) (n03 : i0 ≠ i3) (n12 : i1 ≠ i2) (n13 : i1 ≠ i3) (n23 : i2 ≠ i3) : wG.own w w0.heap.size w.heap.size g [P0, .int .i64 g.a, .int .i64 g.pc, P1, P2, .int .i64 g.t.1, .int .i64 g.t.2.1, .bool g.t.2.2, .int .i64 g.pd, .int .i64 g.x.1, .int .i64 g.x.2.1, .bool g.x.2.2.1, .int .i64 g.x.2.2.2, .bool g.hl, P3] (F0 ++ (F1 ++ (F2 ++ F3))) ∧ (F0 ++ (F1 ++ (F2 ++ F3))).Nodup := by
  refine ⟨wG_own_mk (S.own i0 e0) (S.own i1 e1) (S.own i2 e2) (S.own i3 e3), ?_⟩
  exact (nodup_app (S.nodup i0 e0) (nodup_app (S.nodup i1 e1) (nodup_app (S.nodup i2 e2) (S.nodup i3 e3) (fun k hk => (S.disj i2 i3 e2 e3 n23 k hk))) (fun k hk => (not_app (S.disj i1 i2 e1 e2 n12 k hk) (S.disj i1 i3 e1 e3 n13 k hk)))) (fun k hk => (not_app (S.disj i0 i1 e0 e1 n01 k hk) (not_app (S.disj i0 i2 e0 e2 n02 k hk) (S.disj i0 i3 e0 e3 n03 k hk)))))
theorem wG_open2 {w0 w : World} {lo hi : Nat} {g : gT} {cs : List Value} {F : List Nat} {T : List Res} (S : St w0 w (ow wG lo hi g cs F :: T)) : ∃ P0 P1 P2 P3 F0 F1 F2 F3, cs = [P0, .int .i64 g.a, .int .i64 g.pc, P1, P2, .int .i64 g.t.1, .int .i64 g.t.2.1, .bool g.t.2.2, .int .i64 g.pd, .int .i64 g.x.1, .int .i64 g.x.2.1, .bool g.x.2.2.1, .int .i64 g.x.2.2.2, .bool g.hl, P3] ∧ F = F0 ++ (F1 ++ (F2 ++ F3)) ∧ St w0 w (ow (rLsw (rPair rInt rInt)) lo hi g.prog [P0] F0 :: ow (rLsw (rPair rInt rInt)) lo hi g.wr [P1] F1 :: ow (rLsw (rPair rInt rInt)) lo hi g.lv [P2] F2 :: ow (rLsw rInt) lo hi g.seen [P3] F3 :: T) := by
  obtain ⟨hown, hnd⟩ := S.at_ 0 rfl
  have hl := S.lo 0 _ rfl
  have hh := S.hi 0 _ rfl
  obtain ⟨P0, P1, P2, P3, F0, F1, F2, F3, rfl, rfl, q0, q1, q2, q3⟩ := wG_own hown
  obtain ⟨m0, n0, d0⟩ := List.nodup_append.1 hnd
  obtain ⟨m1, n1, d1⟩ := List.nodup_append.1 n0
  obtain ⟨m2, n2, d2⟩ := List.nodup_append.1 n1
  have m3 := n2
  refine ⟨P0, P1, P2, P3, F0, F1, F2, F3, rfl, rfl, S.parts [ow (rLsw (rPair rInt rInt)) lo hi g.prog [P0] F0, ow (rLsw (rPair rInt rInt)) lo hi g.wr [P1] F1, ow (rLsw (rPair rInt rInt)) lo hi g.lv [P2] F2, ow (rLsw rInt) lo hi g.seen [P3] F3] ?_ ?_⟩
  · intro s hs
    simp only [List.mem_cons, List.not_mem_nil, or_false] at hs
    rcases hs with rfl | rfl | rfl | rfl
    · exact ⟨⟨q0, m0⟩, fun k hk => ⟨by simp [hk.1], hk.2⟩, hl, hh⟩
    · exact ⟨⟨q1, m1⟩, fun k hk => ⟨by simp [hk.1], hk.2⟩, hl, hh⟩
    · exact ⟨⟨q2, m2⟩, fun k hk => ⟨by simp [hk.1], hk.2⟩, hl, hh⟩
    · exact ⟨⟨q3, m3⟩, fun k hk => ⟨by simp [hk.1], hk.2⟩, hl, hh⟩
  · simp only [List.pairwise_cons, List.mem_cons, List.not_mem_nil, or_false, forall_eq_or_imp, forall_eq, List.Pairwise.nil, and_true, false_implies, implies_true, ow]
    exact ⟨⟨(fun k hk hk' => d0 k hk.1 k (by simp [hk'.1]) rfl), (fun k hk hk' => d0 k hk.1 k (by simp [hk'.1]) rfl), (fun k hk hk' => d0 k hk.1 k (by simp [hk'.1]) rfl)⟩, ⟨(fun k hk hk' => d1 k hk.1 k (by simp [hk'.1]) rfl), (fun k hk hk' => d1 k hk.1 k (by simp [hk'.1]) rfl)⟩, (fun k hk hk' => d2 k hk.1 k (by simp [hk'.1]) rfl)⟩
theorem wG_shut2 {w0 w : World} {lo hi : Nat} {g : gT} {P0 P1 P2 P3 : Value} {F0 F1 F2 F3 : List Nat} {T : List Res} (S : St w0 w (ow (rLsw (rPair rInt rInt)) lo hi g.prog [P0] F0 :: ow (rLsw (rPair rInt rInt)) lo hi g.wr [P1] F1 :: ow (rLsw (rPair rInt rInt)) lo hi g.lv [P2] F2 :: ow (rLsw rInt) lo hi g.seen [P3] F3 :: T)) : St w0 w (ow wG lo hi g [P0, .int .i64 g.a, .int .i64 g.pc, P1, P2, .int .i64 g.t.1, .int .i64 g.t.2.1, .bool g.t.2.2, .int .i64 g.pd, .int .i64 g.x.1, .int .i64 g.x.2.1, .bool g.x.2.2.1, .int .i64 g.x.2.2.2, .bool g.hl, P3] (F0 ++ (F1 ++ (F2 ++ F3))) :: T) := by
  have hnd := (wG_shut (g := g) S 0 rfl 1 rfl 2 rfl 3 rfl (by decide) (by decide) (by decide) (by decide) (by decide) (by decide)).2
  refine Sx.St.merge (rs := [ow (rLsw (rPair rInt rInt)) lo hi g.prog [P0] F0, ow (rLsw (rPair rInt rInt)) lo hi g.wr [P1] F1, ow (rLsw (rPair rInt rInt)) lo hi g.lv [P2] F2, ow (rLsw rInt) lo hi g.seen [P3] F3]) S (ow wG lo hi g [P0, .int .i64 g.a, .int .i64 g.pc, P1, P2, .int .i64 g.t.1, .int .i64 g.t.2.1, .bool g.t.2.2, .int .i64 g.pd, .int .i64 g.x.1, .int .i64 g.x.2.1, .bool g.x.2.2.1, .int .i64 g.x.2.2.2, .bool g.hl, P3] (F0 ++ (F1 ++ (F2 ++ F3)))) ⟨wG_own_mk (S.at_ 0 rfl).1 (S.at_ 1 rfl).1 (S.at_ 2 rfl).1 (S.at_ 3 rfl).1, hnd⟩ (fun k hk => ?_) (S.lo 0 _ rfl : w0.heap.size ≤ lo) (S.hi 0 _ rfl : hi ≤ w.heap.size)
  obtain ⟨hk, hb⟩ := hk
  simp only [List.mem_append] at hk
  rcases hk with h | h | h | h
  · exact ⟨_, List.mem_cons_self, h, hb⟩
  · exact ⟨_, List.mem_cons_of_mem _ (List.mem_cons_self), h, hb⟩
  · exact ⟨_, List.mem_cons_of_mem _ (List.mem_cons_of_mem _ (List.mem_cons_self)), h, hb⟩
  · exact ⟨_, List.mem_cons_of_mem _ (List.mem_cons_of_mem _ (List.mem_cons_of_mem _ (List.mem_cons_self))), h, hb⟩
theorem copen_Guest {P : Program} {n : Nat} {Q : Exit → Act → World → Prop} {w0 : World} {T : Sx.Tl} {c : Code} {lo hi : Nat} {g : gT} {es : List Value} {Fi : List Nat} {H : Res} {rest : List Res} (kk : ∀ P0 P1 P2 P3 F0 F1 F2 F3, es = [P0, .int .i64 g.a, .int .i64 g.pc, P1, P2, .int .i64 g.t.1, .int .i64 g.t.2.1, .bool g.t.2.2, .int .i64 g.pd, .int .i64 g.x.1, .int .i64 g.x.2.1, .bool g.x.2.2.1, .int .i64 g.x.2.2.2, .bool g.hl, P3] → Fi = F0 ++ (F1 ++ (F2 ++ F3)) → Sx.C P n Q w0 T (H :: ow (rLsw (rPair rInt rInt)) lo hi g.prog [P0] F0 :: ow (rLsw (rPair rInt rInt)) lo hi g.wr [P1] F1 :: ow (rLsw (rPair rInt rInt)) lo hi g.lv [P2] F2 :: ow (rLsw rInt) lo hi g.seen [P3] F3 :: rest) c) : Sx.C P n Q w0 T (H :: ow wG lo hi g es Fi :: rest) c := fun a w hA S => by
  obtain ⟨P0, P1, P2, P3, F0, F1, F2, F3, e1, e2, S'⟩ := wG_open2 (Sx.St.front S 1 rfl)
  exact kk P0 P1 P2 P3 F0 F1 F2 F3 e1 e2 a w hA (Sx.St.front S' 4 rfl)
theorem cshut_Guest {w0 w : World} {lo hi : Nat} {g : gT} {P0 P1 P2 P3 : Value} {F0 F1 F2 F3 : List Nat} {H : Res} {rest : List Res} (S : St w0 w (H :: ow (rLsw (rPair rInt rInt)) lo hi g.prog [P0] F0 :: ow (rLsw (rPair rInt rInt)) lo hi g.wr [P1] F1 :: ow (rLsw (rPair rInt rInt)) lo hi g.lv [P2] F2 :: ow (rLsw rInt) lo hi g.seen [P3] F3 :: rest)) : St w0 w (H :: ow wG lo hi g [P0, .int .i64 g.a, .int .i64 g.pc, P1, P2, .int .i64 g.t.1, .int .i64 g.t.2.1, .bool g.t.2.2, .int .i64 g.pd, .int .i64 g.x.1, .int .i64 g.x.2.1, .bool g.x.2.2.1, .int .i64 g.x.2.2.2, .bool g.hl, P3] (F0 ++ (F1 ++ (F2 ++ F3))) :: rest) :=
  Sx.St.front (wG_shut2 (g := g) (Sx.St.front (Sx.St.front (Sx.St.front (Sx.St.front S 4 rfl) 4 rfl) 4 rfl) 4 rfl)) 1 rfl
theorem size_Guest (g : gT) : wG.size g = (g.prog.length + sizeAll (rPair rInt rInt) g.prog) + (g.wr.length + sizeAll (rPair rInt rInt) g.wr) + (g.lv.length + sizeAll (rPair rInt rInt) g.lv) + (g.seen.length + sizeAll rInt g.seen) := by simp only [wG, rVia, rPair, rInt, rBool, rLsw, rCtl, rExit]; omega
theorem cnt_Guest (g : gT) : wG.cnt g = cntAll (rPair rInt rInt) g.prog + cntAll (rPair rInt rInt) g.wr + cntAll (rPair rInt rInt) g.lv + cntAll rInt g.seen + 11 := by simp only [wG, rVia, rPair, rInt, rBool, rLsw, rCtl, rExit]; omega
theorem own_zero_Guest (w : World) (lo hi : Nat) : wG.own w lo hi ({ prog := [], a := 0, pc := 0, wr := [], lv := [], t := (0, 0, false), pd := 0, x := (0, 0, false, 0), hl := false, seen := [] } : gT) [.slice none 0 0, .int .i64 0, .int .i64 0, .slice none 0 0, .slice none 0 0, .int .i64 0, .int .i64 0, .bool false, .int .i64 0, .int .i64 0, .int .i64 0, .bool false, .int .i64 0, .bool false, .slice none 0 0] [] := by
  have h := wG_own_mk (w := w) (lo := lo) (hi := hi) (g := ({ prog := [], a := 0, pc := 0, wr := [], lv := [], t := (0, 0, false), pd := 0, x := (0, 0, false, 0), hl := false, seen := [] } : gT)) (P0 := .slice none 0 0) (F0 := []) (P1 := .slice none 0 0) (F1 := []) (P2 := .slice none 0 0) (F2 := []) (P3 := .slice none 0 0) (F3 := []) (own_nil _ _ _) (own_nil _ _ _) (own_nil _ _ _) (own_nil _ _ _)
  exact h
theorem open_zero_Guest {w : World} {lo hi : Nat} {es : List Value} {F : List Nat} (h : wG.own w lo hi ({ prog := [], a := 0, pc := 0, wr := [], lv := [], t := (0, 0, false), pd := 0, x := (0, 0, false, 0), hl := false, seen := [] } : gT) es F) : ∃ A0 A1 A2 A3 c0 c1 c2 c3, es = [.slice A0 0 c0, .int .i64 ({ prog := [], a := 0, pc := 0, wr := [], lv := [], t := (0, 0, false), pd := 0, x := (0, 0, false, 0), hl := false, seen := [] } : gT).a, .int .i64 ({ prog := [], a := 0, pc := 0, wr := [], lv := [], t := (0, 0, false), pd := 0, x := (0, 0, false, 0), hl := false, seen := [] } : gT).pc, .slice A1 0 c1, .slice A2 0 c2, .int .i64 ({ prog := [], a := 0, pc := 0, wr := [], lv := [], t := (0, 0, false), pd := 0, x := (0, 0, false, 0), hl := false, seen := [] } : gT).t.1, .int .i64 ({ prog := [], a := 0, pc := 0, wr := [], lv := [], t := (0, 0, false), pd := 0, x := (0, 0, false, 0), hl := false, seen := [] } : gT).t.2.1, .bool ({ prog := [], a := 0, pc := 0, wr := [], lv := [], t := (0, 0, false), pd := 0, x := (0, 0, false, 0), hl := false, seen := [] } : gT).t.2.2, .int .i64 ({ prog := [], a := 0, pc := 0, wr := [], lv := [], t := (0, 0, false), pd := 0, x := (0, 0, false, 0), hl := false, seen := [] } : gT).pd, .int .i64 ({ prog := [], a := 0, pc := 0, wr := [], lv := [], t := (0, 0, false), pd := 0, x := (0, 0, false, 0), hl := false, seen := [] } : gT).x.1, .int .i64 ({ prog := [], a := 0, pc := 0, wr := [], lv := [], t := (0, 0, false), pd := 0, x := (0, 0, false, 0), hl := false, seen := [] } : gT).x.2.1, .bool ({ prog := [], a := 0, pc := 0, wr := [], lv := [], t := (0, 0, false), pd := 0, x := (0, 0, false, 0), hl := false, seen := [] } : gT).x.2.2.1, .int .i64 ({ prog := [], a := 0, pc := 0, wr := [], lv := [], t := (0, 0, false), pd := 0, x := (0, 0, false, 0), hl := false, seen := [] } : gT).x.2.2.2, .bool ({ prog := [], a := 0, pc := 0, wr := [], lv := [], t := (0, 0, false), pd := 0, x := (0, 0, false, 0), hl := false, seen := [] } : gT).hl, .slice A3 0 c3] := by
  obtain ⟨P0, P1, P2, P3, F0, F1, F2, F3, rfl, -, q0, q1, q2, q3⟩ := wG_own h
  obtain ⟨A0, c0, e0, -⟩ := lst_val ((rLsw _).reads q0)
  subst e0
  obtain ⟨A1, c1, e1, -⟩ := lst_val ((rLsw _).reads q1)
  subst e1
  obtain ⟨A2, c2, e2, -⟩ := lst_val ((rLsw _).reads q2)
  subst e2
  obtain ⟨A3, c3, e3, -⟩ := lst_val ((rLsw _).reads q3)
  subst e3
  exact ⟨A0, A1, A2, A3, c0, c1, c2, c3, rfl⟩
set_option maxRecDepth 100000 in
set_option maxHeartbeats 4000000 in
theorem keq_Guest (x : gT) (cs ds : List Value) (w : World) (hc : wG.cap x) (h : wG.rd w 0 w.heap.size x cs) (j : wG.rd w 0 w.heap.size x ds) : Calls Try.prog 24 #[.agg cs.toArray, .agg ds.toArray] w (fun e w' => e = .returned (.bool true) ∧ Below w.heap.size w w') := by
  obtain ⟨hcap0, hcap1, hcap2, hcap3, hcap4, hcap5, hcap6, hcap7, hcap8, hcap9⟩ := hc
  have hR := h
  obtain ⟨hP0, hP1, hP2, hP3, rfl, hf0, hf1, hf2, hf3⟩ := wG_rd h
  obtain ⟨hA0, hK0, he0, -⟩ := lst_val hf0
  subst he0
  obtain ⟨hA1, hK1, he1, -⟩ := lst_val hf1
  subst he1
  obtain ⟨hA2, hK2, he2, -⟩ := lst_val hf2
  subst he2
  obtain ⟨hA3, hK3, he3, -⟩ := lst_val hf3
  subst he3
  have jR := j
  obtain ⟨jP0, jP1, jP2, jP3, rfl, jf0, jf1, jf2, jf3⟩ := wG_rd j
  obtain ⟨jA0, jK0, je0, -⟩ := lst_val jf0
  subst je0
  obtain ⟨jA1, jK1, je1, -⟩ := lst_val jf1
  subst je1
  obtain ⟨jA2, jK2, je2, -⟩ := lst_val jf2
  subst je2
  obtain ⟨jA3, jK3, je3, -⟩ := lst_val jf3
  subst je3
  refine Sx.enter (args := [.agg #[.slice hA0 x.prog.length hK0, .int .i64 x.a, .int .i64 x.pc, .slice hA1 x.wr.length hK1, .slice hA2 x.lv.length hK2, .int .i64 x.t.1, .int .i64 x.t.2.1, .bool x.t.2.2, .int .i64 x.pd, .int .i64 x.x.1, .int .i64 x.x.2.1, .bool x.x.2.2.1, .int .i64 x.x.2.2.2, .bool x.hl, .slice hA3 x.seen.length hK3], .agg #[.slice jA0 x.prog.length jK0, .int .i64 x.a, .int .i64 x.pc, .slice jA1 x.wr.length jK1, .slice jA2 x.lv.length jK2, .int .i64 x.t.1, .int .i64 x.t.2.1, .bool x.t.2.2, .int .i64 x.pd, .int .i64 x.x.1, .int .i64 x.x.2.1, .bool x.x.2.2.1, .int .i64 x.x.2.2.2, .bool x.hl, .slice jA3 x.seen.length jK3]]) Try.func24 rfl Try.ntmps24 rfl ?_
  refine Sx.C.seq ?_
  refine Sx.C.region ?_
  refine Sx.G.box 51 (.tmp 0) [.slice hA0 x.prog.length hK0, .int .i64 x.a, .int .i64 x.pc, .slice hA1 x.wr.length hK1, .slice hA2 x.lv.length hK2, .int .i64 x.t.1, .int .i64 x.t.2.1, .bool x.t.2.2, .int .i64 x.pd, .int .i64 x.x.1, .int .i64 x.x.2.1, .bool x.x.2.2.1, .int .i64 x.x.2.2.2, .bool x.hl, .slice hA3 x.seen.length hK3] rfl (by kernel_rfl) (by kernel_rfl) (fun b1 => ?_)
  refine Sx.G.box 51 (.tmp 1) [.slice jA0 x.prog.length jK0, .int .i64 x.a, .int .i64 x.pc, .slice jA1 x.wr.length jK1, .slice jA2 x.lv.length jK2, .int .i64 x.t.1, .int .i64 x.t.2.1, .bool x.t.2.2, .int .i64 x.pd, .int .i64 x.x.1, .int .i64 x.x.2.1, .bool x.x.2.2.1, .int .i64 x.x.2.2.2, .bool x.hl, .slice jA3 x.seen.length jK3] rfl (by kernel_rfl) (by kernel_rfl) (fun b2 => ?_)
  refine Sx.G.pure (.bool false) (by kernel_rfl) (fun w => by kernel_rfl) ?_
  refine Sx.G.nil ?_
  refine Sx.E.next ?_
  refine Sx.C.seq ?_
  refine Sx.C.seq ?_
  refine Sx.C.region ?_
  refine Sx.G.pure (.pointer (some ⟨b1, 0, none⟩)) (by kernel_rfl) (fun w => by kernel_rfl) ?_
  refine Sx.G.ld1 44 (.tmp 5) b1 0 1 [.slice hA0 x.prog.length hK0, .int .i64 x.a, .int .i64 x.pc, .slice hA1 x.wr.length hK1, .slice hA2 x.lv.length hK2, .int .i64 x.t.1, .int .i64 x.t.2.1, .bool x.t.2.2, .int .i64 x.pd, .int .i64 x.x.1, .int .i64 x.x.2.1, .bool x.x.2.2.1, .int .i64 x.x.2.2.2, .bool x.hl, .slice hA3 x.seen.length hK3] (.slice hA0 x.prog.length hK0) rfl (by kernel_rfl) (by kernel_rfl) rfl (by kernel_rfl) (by kernel_rfl) ?_
  refine Sx.G.pure (.pointer (some ⟨b2, 0, none⟩)) (by kernel_rfl) (fun w => by kernel_rfl) ?_
  refine Sx.G.ld1 44 (.tmp 7) b2 0 0 [.slice jA0 x.prog.length jK0, .int .i64 x.a, .int .i64 x.pc, .slice jA1 x.wr.length jK1, .slice jA2 x.lv.length jK2, .int .i64 x.t.1, .int .i64 x.t.2.1, .bool x.t.2.2, .int .i64 x.pd, .int .i64 x.x.1, .int .i64 x.x.2.1, .bool x.x.2.2.1, .int .i64 x.x.2.2.2, .bool x.hl, .slice jA3 x.seen.length jK3] (.slice jA0 x.prog.length jK0) rfl (by kernel_rfl) (by kernel_rfl) rfl (by kernel_rfl) (by kernel_rfl) ?_
  refine Sx.G.plain 44 #[.slice hA0 x.prog.length hK0, .slice jA0 x.prog.length jK0] (.bool true) (by kernel_rfl) (fun w => by kernel_rfl) (fun w S => by exact Kit.keq_InsS x.prog hA0 hK0 jA0 jK0 _ hcap0 (St.old (r := (rLsw (rPair rInt rInt))) S hf0) (St.old (r := (rLsw (rPair rInt rInt))) S jf0)) ?_
  refine Sx.G.pure (.bool false) (by kernel_rfl) (fun w => by kernel_rfl) ?_
  refine Sx.G.nil ?_
  refine Sx.E.next ?_
  refine Sx.C.no (by kernel_rfl) (by kernel_rfl) ?_
  refine Sx.C.skip ?_
  refine Sx.E.next ?_
  refine Sx.C.seq ?_
  refine Sx.C.seq ?_
  refine Sx.C.region ?_
  refine Sx.G.pure (.pointer (some ⟨b1, 1, none⟩)) (by kernel_rfl) (fun w => by kernel_rfl) ?_
  refine Sx.G.ld1 3 (.tmp 11) b1 1 1 [.slice hA0 x.prog.length hK0, .int .i64 x.a, .int .i64 x.pc, .slice hA1 x.wr.length hK1, .slice hA2 x.lv.length hK2, .int .i64 x.t.1, .int .i64 x.t.2.1, .bool x.t.2.2, .int .i64 x.pd, .int .i64 x.x.1, .int .i64 x.x.2.1, .bool x.x.2.2.1, .int .i64 x.x.2.2.2, .bool x.hl, .slice hA3 x.seen.length hK3] (.int .i64 x.a) rfl (by kernel_rfl) (by kernel_rfl) rfl (by kernel_rfl) (by kernel_rfl) ?_
  refine Sx.G.pure (.pointer (some ⟨b2, 1, none⟩)) (by kernel_rfl) (fun w => by kernel_rfl) ?_
  refine Sx.G.ld1 3 (.tmp 13) b2 1 0 [.slice jA0 x.prog.length jK0, .int .i64 x.a, .int .i64 x.pc, .slice jA1 x.wr.length jK1, .slice jA2 x.lv.length jK2, .int .i64 x.t.1, .int .i64 x.t.2.1, .bool x.t.2.2, .int .i64 x.pd, .int .i64 x.x.1, .int .i64 x.x.2.1, .bool x.x.2.2.1, .int .i64 x.x.2.2.2, .bool x.hl, .slice jA3 x.seen.length jK3] (.int .i64 x.a) rfl (by kernel_rfl) (by kernel_rfl) rfl (by kernel_rfl) (by kernel_rfl) ?_
  refine Sx.G.pureq (.bool (x.a != x.a)) (.bool false) (by kernel_rfl) (fun w => by kernel_rfl) (congrArg Value.bool (bne_self_eq_false _)) ?_
  refine Sx.G.nil ?_
  refine Sx.E.next ?_
  refine Sx.C.no (by kernel_rfl) (by kernel_rfl) ?_
  refine Sx.C.skip ?_
  refine Sx.E.next ?_
  refine Sx.C.seq ?_
  refine Sx.C.seq ?_
  refine Sx.C.region ?_
  refine Sx.G.pure (.pointer (some ⟨b1, 2, none⟩)) (by kernel_rfl) (fun w => by kernel_rfl) ?_
  refine Sx.G.ld1 3 (.tmp 16) b1 2 1 [.slice hA0 x.prog.length hK0, .int .i64 x.a, .int .i64 x.pc, .slice hA1 x.wr.length hK1, .slice hA2 x.lv.length hK2, .int .i64 x.t.1, .int .i64 x.t.2.1, .bool x.t.2.2, .int .i64 x.pd, .int .i64 x.x.1, .int .i64 x.x.2.1, .bool x.x.2.2.1, .int .i64 x.x.2.2.2, .bool x.hl, .slice hA3 x.seen.length hK3] (.int .i64 x.pc) rfl (by kernel_rfl) (by kernel_rfl) rfl (by kernel_rfl) (by kernel_rfl) ?_
  refine Sx.G.pure (.pointer (some ⟨b2, 2, none⟩)) (by kernel_rfl) (fun w => by kernel_rfl) ?_
  refine Sx.G.ld1 3 (.tmp 18) b2 2 0 [.slice jA0 x.prog.length jK0, .int .i64 x.a, .int .i64 x.pc, .slice jA1 x.wr.length jK1, .slice jA2 x.lv.length jK2, .int .i64 x.t.1, .int .i64 x.t.2.1, .bool x.t.2.2, .int .i64 x.pd, .int .i64 x.x.1, .int .i64 x.x.2.1, .bool x.x.2.2.1, .int .i64 x.x.2.2.2, .bool x.hl, .slice jA3 x.seen.length jK3] (.int .i64 x.pc) rfl (by kernel_rfl) (by kernel_rfl) rfl (by kernel_rfl) (by kernel_rfl) ?_
  refine Sx.G.pureq (.bool (x.pc != x.pc)) (.bool false) (by kernel_rfl) (fun w => by kernel_rfl) (congrArg Value.bool (bne_self_eq_false _)) ?_
  refine Sx.G.nil ?_
  refine Sx.E.next ?_
  refine Sx.C.no (by kernel_rfl) (by kernel_rfl) ?_
  refine Sx.C.skip ?_
  refine Sx.E.next ?_
  refine Sx.C.seq ?_
  refine Sx.C.seq ?_
  refine Sx.C.region ?_
  refine Sx.G.pure (.pointer (some ⟨b1, 3, none⟩)) (by kernel_rfl) (fun w => by kernel_rfl) ?_
  refine Sx.G.ld1 45 (.tmp 21) b1 3 1 [.slice hA0 x.prog.length hK0, .int .i64 x.a, .int .i64 x.pc, .slice hA1 x.wr.length hK1, .slice hA2 x.lv.length hK2, .int .i64 x.t.1, .int .i64 x.t.2.1, .bool x.t.2.2, .int .i64 x.pd, .int .i64 x.x.1, .int .i64 x.x.2.1, .bool x.x.2.2.1, .int .i64 x.x.2.2.2, .bool x.hl, .slice hA3 x.seen.length hK3] (.slice hA1 x.wr.length hK1) rfl (by kernel_rfl) (by kernel_rfl) rfl (by kernel_rfl) (by kernel_rfl) ?_
  refine Sx.G.pure (.pointer (some ⟨b2, 3, none⟩)) (by kernel_rfl) (fun w => by kernel_rfl) ?_
  refine Sx.G.ld1 45 (.tmp 23) b2 3 0 [.slice jA0 x.prog.length jK0, .int .i64 x.a, .int .i64 x.pc, .slice jA1 x.wr.length jK1, .slice jA2 x.lv.length jK2, .int .i64 x.t.1, .int .i64 x.t.2.1, .bool x.t.2.2, .int .i64 x.pd, .int .i64 x.x.1, .int .i64 x.x.2.1, .bool x.x.2.2.1, .int .i64 x.x.2.2.2, .bool x.hl, .slice jA3 x.seen.length jK3] (.slice jA1 x.wr.length jK1) rfl (by kernel_rfl) (by kernel_rfl) rfl (by kernel_rfl) (by kernel_rfl) ?_
  refine Sx.G.plain 70 #[.slice hA1 x.wr.length hK1, .slice jA1 x.wr.length jK1] (.bool true) (by kernel_rfl) (fun w => by kernel_rfl) (fun w S => by exact Kit.keq_SlotS x.wr hA1 hK1 jA1 jK1 _ hcap3 (St.old (r := (rLsw (rPair rInt rInt))) S hf1) (St.old (r := (rLsw (rPair rInt rInt))) S jf1)) ?_
  refine Sx.G.pure (.bool false) (by kernel_rfl) (fun w => by kernel_rfl) ?_
  refine Sx.G.nil ?_
  refine Sx.E.next ?_
  refine Sx.C.no (by kernel_rfl) (by kernel_rfl) ?_
  refine Sx.C.skip ?_
  refine Sx.E.next ?_
  refine Sx.C.seq ?_
  refine Sx.C.seq ?_
  refine Sx.C.region ?_
  refine Sx.G.pure (.pointer (some ⟨b1, 4, none⟩)) (by kernel_rfl) (fun w => by kernel_rfl) ?_
  refine Sx.G.ld1 45 (.tmp 27) b1 4 1 [.slice hA0 x.prog.length hK0, .int .i64 x.a, .int .i64 x.pc, .slice hA1 x.wr.length hK1, .slice hA2 x.lv.length hK2, .int .i64 x.t.1, .int .i64 x.t.2.1, .bool x.t.2.2, .int .i64 x.pd, .int .i64 x.x.1, .int .i64 x.x.2.1, .bool x.x.2.2.1, .int .i64 x.x.2.2.2, .bool x.hl, .slice hA3 x.seen.length hK3] (.slice hA2 x.lv.length hK2) rfl (by kernel_rfl) (by kernel_rfl) rfl (by kernel_rfl) (by kernel_rfl) ?_
  refine Sx.G.pure (.pointer (some ⟨b2, 4, none⟩)) (by kernel_rfl) (fun w => by kernel_rfl) ?_
  refine Sx.G.ld1 45 (.tmp 29) b2 4 0 [.slice jA0 x.prog.length jK0, .int .i64 x.a, .int .i64 x.pc, .slice jA1 x.wr.length jK1, .slice jA2 x.lv.length jK2, .int .i64 x.t.1, .int .i64 x.t.2.1, .bool x.t.2.2, .int .i64 x.pd, .int .i64 x.x.1, .int .i64 x.x.2.1, .bool x.x.2.2.1, .int .i64 x.x.2.2.2, .bool x.hl, .slice jA3 x.seen.length jK3] (.slice jA2 x.lv.length jK2) rfl (by kernel_rfl) (by kernel_rfl) rfl (by kernel_rfl) (by kernel_rfl) ?_
  refine Sx.G.plain 70 #[.slice hA2 x.lv.length hK2, .slice jA2 x.lv.length jK2] (.bool true) (by kernel_rfl) (fun w => by kernel_rfl) (fun w S => by exact Kit.keq_SlotS x.lv hA2 hK2 jA2 jK2 _ hcap4 (St.old (r := (rLsw (rPair rInt rInt))) S hf2) (St.old (r := (rLsw (rPair rInt rInt))) S jf2)) ?_
  refine Sx.G.pure (.bool false) (by kernel_rfl) (fun w => by kernel_rfl) ?_
  refine Sx.G.nil ?_
  refine Sx.E.next ?_
  refine Sx.C.no (by kernel_rfl) (by kernel_rfl) ?_
  refine Sx.C.skip ?_
  refine Sx.E.next ?_
  refine Sx.C.seq ?_
  refine Sx.C.seq ?_
  refine Sx.C.region ?_
  refine Sx.G.pure (.pointer (some ⟨b1, 5, none⟩)) (by kernel_rfl) (fun w => by kernel_rfl) ?_
  refine Sx.G.ld 47 (.tmp 33) b1 5 1 [.slice hA0 x.prog.length hK0, .int .i64 x.a, .int .i64 x.pc, .slice hA1 x.wr.length hK1, .slice hA2 x.lv.length hK2, .int .i64 x.t.1, .int .i64 x.t.2.1, .bool x.t.2.2, .int .i64 x.pd, .int .i64 x.x.1, .int .i64 x.x.2.1, .bool x.x.2.2.1, .int .i64 x.x.2.2.2, .bool x.hl, .slice hA3 x.seen.length hK3] [.int .i64 x.t.1, .int .i64 x.t.2.1, .bool x.t.2.2] rfl (by kernel_rfl) (by kernel_rfl) rfl (by kernel_rfl) (by kernel_rfl) (by kernel_rfl) ?_
  refine Sx.G.pure (.pointer (some ⟨b2, 5, none⟩)) (by kernel_rfl) (fun w => by kernel_rfl) ?_
  refine Sx.G.ld 47 (.tmp 35) b2 5 0 [.slice jA0 x.prog.length jK0, .int .i64 x.a, .int .i64 x.pc, .slice jA1 x.wr.length jK1, .slice jA2 x.lv.length jK2, .int .i64 x.t.1, .int .i64 x.t.2.1, .bool x.t.2.2, .int .i64 x.pd, .int .i64 x.x.1, .int .i64 x.x.2.1, .bool x.x.2.2.1, .int .i64 x.x.2.2.2, .bool x.hl, .slice jA3 x.seen.length jK3] [.int .i64 x.t.1, .int .i64 x.t.2.1, .bool x.t.2.2] rfl (by kernel_rfl) (by kernel_rfl) rfl (by kernel_rfl) (by kernel_rfl) (by kernel_rfl) ?_
  refine Sx.G.plain 71 #[.agg #[.int .i64 x.t.1, .int .i64 x.t.2.1, .bool x.t.2.2], .agg #[.int .i64 x.t.1, .int .i64 x.t.2.1, .bool x.t.2.2]] (.bool true) (by kernel_rfl) (fun w => by kernel_rfl) (fun w S => by exact Kit.keq_Ctl x.t _) ?_
  refine Sx.G.pure (.bool false) (by kernel_rfl) (fun w => by kernel_rfl) ?_
  refine Sx.G.nil ?_
  refine Sx.E.next ?_
  refine Sx.C.no (by kernel_rfl) (by kernel_rfl) ?_
  refine Sx.C.skip ?_
  refine Sx.E.next ?_
  refine Sx.C.seq ?_
  refine Sx.C.seq ?_
  refine Sx.C.region ?_
  refine Sx.G.pure (.pointer (some ⟨b1, 8, none⟩)) (by kernel_rfl) (fun w => by kernel_rfl) ?_
  refine Sx.G.ld1 3 (.tmp 39) b1 8 1 [.slice hA0 x.prog.length hK0, .int .i64 x.a, .int .i64 x.pc, .slice hA1 x.wr.length hK1, .slice hA2 x.lv.length hK2, .int .i64 x.t.1, .int .i64 x.t.2.1, .bool x.t.2.2, .int .i64 x.pd, .int .i64 x.x.1, .int .i64 x.x.2.1, .bool x.x.2.2.1, .int .i64 x.x.2.2.2, .bool x.hl, .slice hA3 x.seen.length hK3] (.int .i64 x.pd) rfl (by kernel_rfl) (by kernel_rfl) rfl (by kernel_rfl) (by kernel_rfl) ?_
  refine Sx.G.pure (.pointer (some ⟨b2, 8, none⟩)) (by kernel_rfl) (fun w => by kernel_rfl) ?_
  refine Sx.G.ld1 3 (.tmp 41) b2 8 0 [.slice jA0 x.prog.length jK0, .int .i64 x.a, .int .i64 x.pc, .slice jA1 x.wr.length jK1, .slice jA2 x.lv.length jK2, .int .i64 x.t.1, .int .i64 x.t.2.1, .bool x.t.2.2, .int .i64 x.pd, .int .i64 x.x.1, .int .i64 x.x.2.1, .bool x.x.2.2.1, .int .i64 x.x.2.2.2, .bool x.hl, .slice jA3 x.seen.length jK3] (.int .i64 x.pd) rfl (by kernel_rfl) (by kernel_rfl) rfl (by kernel_rfl) (by kernel_rfl) ?_
  refine Sx.G.pureq (.bool (x.pd != x.pd)) (.bool false) (by kernel_rfl) (fun w => by kernel_rfl) (congrArg Value.bool (bne_self_eq_false _)) ?_
  refine Sx.G.nil ?_
  refine Sx.E.next ?_
  refine Sx.C.no (by kernel_rfl) (by kernel_rfl) ?_
  refine Sx.C.skip ?_
  refine Sx.E.next ?_
  refine Sx.C.seq ?_
  refine Sx.C.seq ?_
  refine Sx.C.region ?_
  refine Sx.G.pure (.pointer (some ⟨b1, 9, none⟩)) (by kernel_rfl) (fun w => by kernel_rfl) ?_
  refine Sx.G.ld 49 (.tmp 44) b1 9 1 [.slice hA0 x.prog.length hK0, .int .i64 x.a, .int .i64 x.pc, .slice hA1 x.wr.length hK1, .slice hA2 x.lv.length hK2, .int .i64 x.t.1, .int .i64 x.t.2.1, .bool x.t.2.2, .int .i64 x.pd, .int .i64 x.x.1, .int .i64 x.x.2.1, .bool x.x.2.2.1, .int .i64 x.x.2.2.2, .bool x.hl, .slice hA3 x.seen.length hK3] [.int .i64 x.x.1, .int .i64 x.x.2.1, .bool x.x.2.2.1, .int .i64 x.x.2.2.2] rfl (by kernel_rfl) (by kernel_rfl) rfl (by kernel_rfl) (by kernel_rfl) (by kernel_rfl) ?_
  refine Sx.G.pure (.pointer (some ⟨b2, 9, none⟩)) (by kernel_rfl) (fun w => by kernel_rfl) ?_
  refine Sx.G.ld 49 (.tmp 46) b2 9 0 [.slice jA0 x.prog.length jK0, .int .i64 x.a, .int .i64 x.pc, .slice jA1 x.wr.length jK1, .slice jA2 x.lv.length jK2, .int .i64 x.t.1, .int .i64 x.t.2.1, .bool x.t.2.2, .int .i64 x.pd, .int .i64 x.x.1, .int .i64 x.x.2.1, .bool x.x.2.2.1, .int .i64 x.x.2.2.2, .bool x.hl, .slice jA3 x.seen.length jK3] [.int .i64 x.x.1, .int .i64 x.x.2.1, .bool x.x.2.2.1, .int .i64 x.x.2.2.2] rfl (by kernel_rfl) (by kernel_rfl) rfl (by kernel_rfl) (by kernel_rfl) (by kernel_rfl) ?_
  refine Sx.G.plain 72 #[.agg #[.int .i64 x.x.1, .int .i64 x.x.2.1, .bool x.x.2.2.1, .int .i64 x.x.2.2.2], .agg #[.int .i64 x.x.1, .int .i64 x.x.2.1, .bool x.x.2.2.1, .int .i64 x.x.2.2.2]] (.bool true) (by kernel_rfl) (fun w => by kernel_rfl) (fun w S => by exact Kit.keq_Exit x.x _) ?_
  refine Sx.G.pure (.bool false) (by kernel_rfl) (fun w => by kernel_rfl) ?_
  refine Sx.G.nil ?_
  refine Sx.E.next ?_
  refine Sx.C.no (by kernel_rfl) (by kernel_rfl) ?_
  refine Sx.C.skip ?_
  refine Sx.E.next ?_
  refine Sx.C.seq ?_
  refine Sx.C.seq ?_
  refine Sx.C.region ?_
  refine Sx.G.pure (.pointer (some ⟨b1, 13, none⟩)) (by kernel_rfl) (fun w => by kernel_rfl) ?_
  refine Sx.G.ld1 4 (.tmp 50) b1 13 1 [.slice hA0 x.prog.length hK0, .int .i64 x.a, .int .i64 x.pc, .slice hA1 x.wr.length hK1, .slice hA2 x.lv.length hK2, .int .i64 x.t.1, .int .i64 x.t.2.1, .bool x.t.2.2, .int .i64 x.pd, .int .i64 x.x.1, .int .i64 x.x.2.1, .bool x.x.2.2.1, .int .i64 x.x.2.2.2, .bool x.hl, .slice hA3 x.seen.length hK3] (.bool x.hl) rfl (by kernel_rfl) (by kernel_rfl) rfl (by kernel_rfl) (by kernel_rfl) ?_
  refine Sx.G.pure (.pointer (some ⟨b2, 13, none⟩)) (by kernel_rfl) (fun w => by kernel_rfl) ?_
  refine Sx.G.ld1 4 (.tmp 52) b2 13 0 [.slice jA0 x.prog.length jK0, .int .i64 x.a, .int .i64 x.pc, .slice jA1 x.wr.length jK1, .slice jA2 x.lv.length jK2, .int .i64 x.t.1, .int .i64 x.t.2.1, .bool x.t.2.2, .int .i64 x.pd, .int .i64 x.x.1, .int .i64 x.x.2.1, .bool x.x.2.2.1, .int .i64 x.x.2.2.2, .bool x.hl, .slice jA3 x.seen.length jK3] (.bool x.hl) rfl (by kernel_rfl) (by kernel_rfl) rfl (by kernel_rfl) (by kernel_rfl) ?_
  refine Sx.G.pureq (.bool (x.hl != x.hl)) (.bool false) (by kernel_rfl) (fun w => by kernel_rfl) (congrArg Value.bool (bne_self_eq_false _)) ?_
  refine Sx.G.nil ?_
  refine Sx.E.next ?_
  refine Sx.C.no (by kernel_rfl) (by kernel_rfl) ?_
  refine Sx.C.skip ?_
  refine Sx.E.next ?_
  refine Sx.C.seq ?_
  refine Sx.C.seq ?_
  refine Sx.C.region ?_
  refine Sx.G.pure (.pointer (some ⟨b1, 14, none⟩)) (by kernel_rfl) (fun w => by kernel_rfl) ?_
  refine Sx.G.ld1 26 (.tmp 55) b1 14 1 [.slice hA0 x.prog.length hK0, .int .i64 x.a, .int .i64 x.pc, .slice hA1 x.wr.length hK1, .slice hA2 x.lv.length hK2, .int .i64 x.t.1, .int .i64 x.t.2.1, .bool x.t.2.2, .int .i64 x.pd, .int .i64 x.x.1, .int .i64 x.x.2.1, .bool x.x.2.2.1, .int .i64 x.x.2.2.2, .bool x.hl, .slice hA3 x.seen.length hK3] (.slice hA3 x.seen.length hK3) rfl (by kernel_rfl) (by kernel_rfl) rfl (by kernel_rfl) (by kernel_rfl) ?_
  refine Sx.G.pure (.pointer (some ⟨b2, 14, none⟩)) (by kernel_rfl) (fun w => by kernel_rfl) ?_
  refine Sx.G.ld1 26 (.tmp 57) b2 14 0 [.slice jA0 x.prog.length jK0, .int .i64 x.a, .int .i64 x.pc, .slice jA1 x.wr.length jK1, .slice jA2 x.lv.length jK2, .int .i64 x.t.1, .int .i64 x.t.2.1, .bool x.t.2.2, .int .i64 x.pd, .int .i64 x.x.1, .int .i64 x.x.2.1, .bool x.x.2.2.1, .int .i64 x.x.2.2.2, .bool x.hl, .slice jA3 x.seen.length jK3] (.slice jA3 x.seen.length jK3) rfl (by kernel_rfl) (by kernel_rfl) rfl (by kernel_rfl) (by kernel_rfl) ?_
  refine Sx.G.plain 43 #[.slice hA3 x.seen.length hK3, .slice jA3 x.seen.length jK3] (.bool true) (by kernel_rfl) (fun w => by kernel_rfl) (fun w S => by exact Kit.keq_IntS x.seen hA3 hK3 jA3 jK3 _ hcap9 (St.old (r := (rLsw rInt)) S hf3) (St.old (r := (rLsw rInt)) S jf3)) ?_
  refine Sx.G.pure (.bool false) (by kernel_rfl) (fun w => by kernel_rfl) ?_
  refine Sx.G.nil ?_
  refine Sx.E.next ?_
  refine Sx.C.no (by kernel_rfl) (by kernel_rfl) ?_
  refine Sx.C.skip ?_
  refine Sx.E.next ?_
  refine Sx.C.seq ?_
  refine Sx.C.region ?_
  refine Sx.G.pure (.bool true) (by kernel_rfl) (fun w => by kernel_rfl) ?_
  refine Sx.G.nil ?_
  refine Sx.E.next ?_
  refine Sx.C.ret ?_
  refine Sx.E.ret1 (.bool true) rfl (by kernel_rfl) (fun w S => ?_)
  exact ⟨rfl, S.below⟩
set_option maxRecDepth 100000 in
set_option maxHeartbeats 4000000 in
theorem ksz_Guest (x : gT) (cs : List Value) (left : Int) (w : World) (hw : wG.wf x) (h0 : 0 ≤ left) (h1 : left ≤ 1048576) (h : wG.rd w 0 w.heap.size x cs) : Calls Try.prog 27 #[.agg cs.toArray, .int .i64 left] w (fun e w' => ∃ l, e = .returned (.int .i64 l) ∧ Kit.Sz left (wG.size x) l ∧ Below w.heap.size w w') := by
  obtain ⟨hwf0, hwf1, hwf2, hwf3, hwf4, hwf5, hwf6, hwf7, hwf8, hwf9⟩ := hw
  have hR := h
  obtain ⟨hP0, hP1, hP2, hP3, rfl, hf0, hf1, hf2, hf3⟩ := wG_rd h
  obtain ⟨hA0, hK0, he0, -⟩ := lst_val hf0
  subst he0
  obtain ⟨hA1, hK1, he1, -⟩ := lst_val hf1
  subst he1
  obtain ⟨hA2, hK2, he2, -⟩ := lst_val hf2
  subst he2
  obtain ⟨hA3, hK3, he3, -⟩ := lst_val hf3
  subst he3
  refine Sx.enter (args := [.agg #[.slice hA0 x.prog.length hK0, .int .i64 x.a, .int .i64 x.pc, .slice hA1 x.wr.length hK1, .slice hA2 x.lv.length hK2, .int .i64 x.t.1, .int .i64 x.t.2.1, .bool x.t.2.2, .int .i64 x.pd, .int .i64 x.x.1, .int .i64 x.x.2.1, .bool x.x.2.2.1, .int .i64 x.x.2.2.2, .bool x.hl, .slice hA3 x.seen.length hK3], .int .i64 left]) Try.func27 rfl Try.ntmps27 rfl ?_
  refine Sx.C.seq ?_
  refine Sx.C.region ?_
  refine Sx.G.box 62 (.tmp 0) [.slice hA0 x.prog.length hK0, .int .i64 x.a, .int .i64 x.pc, .slice hA1 x.wr.length hK1, .slice hA2 x.lv.length hK2, .int .i64 x.t.1, .int .i64 x.t.2.1, .bool x.t.2.2, .int .i64 x.pd, .int .i64 x.x.1, .int .i64 x.x.2.1, .bool x.x.2.2.1, .int .i64 x.x.2.2.2, .bool x.hl, .slice hA3 x.seen.length hK3] rfl (by kernel_rfl) (by kernel_rfl) (fun b1 => ?_)
  refine Sx.G.pure (.int .i64 0) (by kernel_rfl) (fun w => by kernel_rfl) ?_
  refine Sx.G.nil ?_
  refine Sx.E.next ?_
  refine Sx.C.seq ?_
  refine Sx.C.region ?_
  refine Sx.G.pure (.pointer (some ⟨b1, 0, none⟩)) (by kernel_rfl) (fun w => by kernel_rfl) ?_
  refine Sx.G.ld1 57 (.tmp 5) b1 0 0 [.slice hA0 x.prog.length hK0, .int .i64 x.a, .int .i64 x.pc, .slice hA1 x.wr.length hK1, .slice hA2 x.lv.length hK2, .int .i64 x.t.1, .int .i64 x.t.2.1, .bool x.t.2.2, .int .i64 x.pd, .int .i64 x.x.1, .int .i64 x.x.2.1, .bool x.x.2.2.1, .int .i64 x.x.2.2.2, .bool x.hl, .slice hA3 x.seen.length hK3] (.slice hA0 x.prog.length hK0) rfl (by kernel_rfl) (by kernel_rfl) rfl (by kernel_rfl) (by kernel_rfl) ?_
  refine Sx.G.pure (.int .i64 left) (by kernel_rfl) (fun w => by kernel_rfl) ?_
  refine Sx.G.call 35 #[.slice hA0 x.prog.length hK0, .int .i64 left] (by kernel_rfl) (fun w => by kernel_rfl) (fun w2 S => (Kit.ksz_InsS x.prog hA0 hK0 left _ hwf0 (by omega) (by omega) (St.old (r := (rLsw (rPair rInt rInt))) S hf0)).mono fun e w2' hp => ?_)
  obtain ⟨l2, rfl, hz2, hb⟩ := hp
  replace hz2 : Kit.Sz left (x.prog.length + sizeAll (rPair rInt rInt) x.prog) l2 := hz2
  unfold Kit.Sz at hz2
  refine ⟨_, _, rfl, (S.call hb), ?_⟩
  clear S hb
  refine Sx.G.pure (.int .i64 l2) (by kernel_rfl) (fun w => by kernel_rfl) ?_
  refine Sx.G.nil ?_
  refine Sx.E.next ?_
  refine Sx.C.seq ?_
  refine Sx.C.seq ?_
  refine Sx.C.region ?_
  refine Sx.G.pure (.int .i64 l2) (by kernel_rfl) (fun w => by kernel_rfl) ?_
  refine Sx.G.pure (.bool (decide (l2 < 0))) (by kernel_rfl) (fun w => by kernel_rfl) ?_
  refine Sx.G.nil ?_
  refine Sx.E.next ?_
  cases hc3 : (decide (l2 < 0))
  · have hb3 := hc3
    replace hc3 := of_decide_eq_false hc3
    refine Sx.C.no (by kernel_rfl) (by kernel_rfl) ?_
    refine Sx.C.skip ?_
    refine Sx.E.next ?_
    refine Sx.C.seq ?_
    refine Sx.C.region ?_
    refine Sx.G.pure (.pointer (some ⟨b1, 3, none⟩)) (by kernel_rfl) (fun w => by kernel_rfl) ?_
    refine Sx.G.ld1 58 (.tmp 11) b1 3 0 [.slice hA0 x.prog.length hK0, .int .i64 x.a, .int .i64 x.pc, .slice hA1 x.wr.length hK1, .slice hA2 x.lv.length hK2, .int .i64 x.t.1, .int .i64 x.t.2.1, .bool x.t.2.2, .int .i64 x.pd, .int .i64 x.x.1, .int .i64 x.x.2.1, .bool x.x.2.2.1, .int .i64 x.x.2.2.2, .bool x.hl, .slice hA3 x.seen.length hK3] (.slice hA1 x.wr.length hK1) rfl (by kernel_rfl) (by kernel_rfl) rfl (by kernel_rfl) (by kernel_rfl) ?_
    refine Sx.G.pure (.int .i64 l2) (by kernel_rfl) (fun w => by kernel_rfl) ?_
    refine Sx.G.call 76 #[.slice hA1 x.wr.length hK1, .int .i64 l2] (by kernel_rfl) (fun w => by kernel_rfl) (fun w4 S => (Kit.ksz_SlotS x.wr hA1 hK1 l2 _ hwf3 (by omega) (by omega) (St.old (r := (rLsw (rPair rInt rInt))) S hf1)).mono fun e w4' hp => ?_)
    obtain ⟨l4, rfl, hz4, hb⟩ := hp
    replace hz4 : Kit.Sz l2 (x.wr.length + sizeAll (rPair rInt rInt) x.wr) l4 := hz4
    unfold Kit.Sz at hz4
    refine ⟨_, _, rfl, (S.call hb), ?_⟩
    clear S hb
    refine Sx.G.pure (.int .i64 l4) (by kernel_rfl) (fun w => by kernel_rfl) ?_
    refine Sx.G.nil ?_
    refine Sx.E.next ?_
    refine Sx.C.seq ?_
    refine Sx.C.seq ?_
    refine Sx.C.region ?_
    refine Sx.G.pure (.int .i64 l4) (by kernel_rfl) (fun w => by kernel_rfl) ?_
    refine Sx.G.pure (.bool (decide (l4 < 0))) (by kernel_rfl) (fun w => by kernel_rfl) ?_
    refine Sx.G.nil ?_
    refine Sx.E.next ?_
    cases hc5 : (decide (l4 < 0))
    · have hb5 := hc5
      replace hc5 := of_decide_eq_false hc5
      refine Sx.C.no (by kernel_rfl) (by kernel_rfl) ?_
      refine Sx.C.skip ?_
      refine Sx.E.next ?_
      refine Sx.C.seq ?_
      refine Sx.C.region ?_
      refine Sx.G.pure (.pointer (some ⟨b1, 4, none⟩)) (by kernel_rfl) (fun w => by kernel_rfl) ?_
      refine Sx.G.ld1 58 (.tmp 17) b1 4 0 [.slice hA0 x.prog.length hK0, .int .i64 x.a, .int .i64 x.pc, .slice hA1 x.wr.length hK1, .slice hA2 x.lv.length hK2, .int .i64 x.t.1, .int .i64 x.t.2.1, .bool x.t.2.2, .int .i64 x.pd, .int .i64 x.x.1, .int .i64 x.x.2.1, .bool x.x.2.2.1, .int .i64 x.x.2.2.2, .bool x.hl, .slice hA3 x.seen.length hK3] (.slice hA2 x.lv.length hK2) rfl (by kernel_rfl) (by kernel_rfl) rfl (by kernel_rfl) (by kernel_rfl) ?_
      refine Sx.G.pure (.int .i64 l4) (by kernel_rfl) (fun w => by kernel_rfl) ?_
      refine Sx.G.call 76 #[.slice hA2 x.lv.length hK2, .int .i64 l4] (by kernel_rfl) (fun w => by kernel_rfl) (fun w6 S => (Kit.ksz_SlotS x.lv hA2 hK2 l4 _ hwf4 (by omega) (by omega) (St.old (r := (rLsw (rPair rInt rInt))) S hf2)).mono fun e w6' hp => ?_)
      obtain ⟨l6, rfl, hz6, hb⟩ := hp
      replace hz6 : Kit.Sz l4 (x.lv.length + sizeAll (rPair rInt rInt) x.lv) l6 := hz6
      unfold Kit.Sz at hz6
      refine ⟨_, _, rfl, (S.call hb), ?_⟩
      clear S hb
      refine Sx.G.pure (.int .i64 l6) (by kernel_rfl) (fun w => by kernel_rfl) ?_
      refine Sx.G.nil ?_
      refine Sx.E.next ?_
      refine Sx.C.seq ?_
      refine Sx.C.seq ?_
      refine Sx.C.region ?_
      refine Sx.G.pure (.int .i64 l6) (by kernel_rfl) (fun w => by kernel_rfl) ?_
      refine Sx.G.pure (.bool (decide (l6 < 0))) (by kernel_rfl) (fun w => by kernel_rfl) ?_
      refine Sx.G.nil ?_
      refine Sx.E.next ?_
      cases hc7 : (decide (l6 < 0))
      · have hb7 := hc7
        replace hc7 := of_decide_eq_false hc7
        refine Sx.C.no (by kernel_rfl) (by kernel_rfl) ?_
        refine Sx.C.skip ?_
        refine Sx.E.next ?_
        refine Sx.C.seq ?_
        refine Sx.C.region ?_
        refine Sx.G.pure (.pointer (some ⟨b1, 14, none⟩)) (by kernel_rfl) (fun w => by kernel_rfl) ?_
        refine Sx.G.ld1 26 (.tmp 23) b1 14 0 [.slice hA0 x.prog.length hK0, .int .i64 x.a, .int .i64 x.pc, .slice hA1 x.wr.length hK1, .slice hA2 x.lv.length hK2, .int .i64 x.t.1, .int .i64 x.t.2.1, .bool x.t.2.2, .int .i64 x.pd, .int .i64 x.x.1, .int .i64 x.x.2.1, .bool x.x.2.2.1, .int .i64 x.x.2.2.2, .bool x.hl, .slice hA3 x.seen.length hK3] (.slice hA3 x.seen.length hK3) rfl (by kernel_rfl) (by kernel_rfl) rfl (by kernel_rfl) (by kernel_rfl) ?_
        refine Sx.G.pure (.int .i64 l6) (by kernel_rfl) (fun w => by kernel_rfl) ?_
        refine Sx.G.call 54 #[.slice hA3 x.seen.length hK3, .int .i64 l6] (by kernel_rfl) (fun w => by kernel_rfl) (fun w8 S => (Kit.ksz_IntS x.seen hA3 hK3 l6 _ hwf9 (by omega) (by omega) (St.old (r := (rLsw rInt)) S hf3)).mono fun e w8' hp => ?_)
        obtain ⟨l8, rfl, hz8, hb⟩ := hp
        replace hz8 : Kit.Sz l6 (x.seen.length + sizeAll rInt x.seen) l8 := hz8
        unfold Kit.Sz at hz8
        refine ⟨_, _, rfl, (S.call hb), ?_⟩
        clear S hb
        refine Sx.G.pure (.int .i64 l8) (by kernel_rfl) (fun w => by kernel_rfl) ?_
        refine Sx.G.nil ?_
        refine Sx.E.next ?_
        refine Sx.C.seq ?_
        refine Sx.C.seq ?_
        refine Sx.C.region ?_
        refine Sx.G.pure (.int .i64 l8) (by kernel_rfl) (fun w => by kernel_rfl) ?_
        refine Sx.G.pure (.bool (decide (l8 < 0))) (by kernel_rfl) (fun w => by kernel_rfl) ?_
        refine Sx.G.nil ?_
        refine Sx.E.next ?_
        cases hc9 : (decide (l8 < 0))
        · have hb9 := hc9
          replace hc9 := of_decide_eq_false hc9
          refine Sx.C.no (by kernel_rfl) (by kernel_rfl) ?_
          refine Sx.C.skip ?_
          refine Sx.E.next ?_
          refine Sx.C.seq ?_
          refine Sx.C.region ?_
          refine Sx.G.pure (.int .i64 l8) (by kernel_rfl) (fun w => by kernel_rfl) ?_
          refine Sx.G.pure (.int .i64 l8) (by kernel_rfl) (fun w => by kernel_rfl) ?_
          refine Sx.G.nil ?_
          refine Sx.E.next ?_
          refine Sx.C.ret ?_
          refine Sx.E.ret1 (.int .i64 l8) rfl (by kernel_rfl) (fun w S => ?_)
          exact ⟨_, rfl, by unfold Kit.Sz; rw [size_Guest]; omega, S.below⟩
        · have hb9 := hc9
          replace hc9 := of_decide_eq_true hc9
          refine Sx.C.yes (by kernel_rfl) (by kernel_rfl) ?_
          refine Sx.C.seq ?_
          refine Sx.C.region ?_
          refine Sx.G.pure (.int .i64 (-1)) (by kernel_rfl) (fun w => by kernel_rfl) ?_
          refine Sx.G.nil ?_
          refine Sx.E.next ?_
          refine Sx.C.ret ?_
          refine Sx.E.then_ret ?_
          refine Sx.E.ret1 (.int .i64 (-1)) rfl (by kernel_rfl) (fun w S => ?_)
          exact ⟨_, rfl, by unfold Kit.Sz; rw [size_Guest]; omega, S.below⟩
      · have hb7 := hc7
        replace hc7 := of_decide_eq_true hc7
        refine Sx.C.yes (by kernel_rfl) (by kernel_rfl) ?_
        refine Sx.C.seq ?_
        refine Sx.C.region ?_
        refine Sx.G.pure (.int .i64 (-1)) (by kernel_rfl) (fun w => by kernel_rfl) ?_
        refine Sx.G.nil ?_
        refine Sx.E.next ?_
        refine Sx.C.ret ?_
        refine Sx.E.then_ret ?_
        refine Sx.E.ret1 (.int .i64 (-1)) rfl (by kernel_rfl) (fun w S => ?_)
        exact ⟨_, rfl, by unfold Kit.Sz; rw [size_Guest]; omega, S.below⟩
    · have hb5 := hc5
      replace hc5 := of_decide_eq_true hc5
      refine Sx.C.yes (by kernel_rfl) (by kernel_rfl) ?_
      refine Sx.C.seq ?_
      refine Sx.C.region ?_
      refine Sx.G.pure (.int .i64 (-1)) (by kernel_rfl) (fun w => by kernel_rfl) ?_
      refine Sx.G.nil ?_
      refine Sx.E.next ?_
      refine Sx.C.ret ?_
      refine Sx.E.then_ret ?_
      refine Sx.E.ret1 (.int .i64 (-1)) rfl (by kernel_rfl) (fun w S => ?_)
      exact ⟨_, rfl, by unfold Kit.Sz; rw [size_Guest]; omega, S.below⟩
  · have hb3 := hc3
    replace hc3 := of_decide_eq_true hc3
    refine Sx.C.yes (by kernel_rfl) (by kernel_rfl) ?_
    refine Sx.C.seq ?_
    refine Sx.C.region ?_
    refine Sx.G.pure (.int .i64 (-1)) (by kernel_rfl) (fun w => by kernel_rfl) ?_
    refine Sx.G.nil ?_
    refine Sx.E.next ?_
    refine Sx.C.ret ?_
    refine Sx.E.then_ret ?_
    refine Sx.E.ret1 (.int .i64 (-1)) rfl (by kernel_rfl) (fun w S => ?_)
    exact ⟨_, rfl, by unfold Kit.Sz; rw [size_Guest]; omega, S.below⟩
set_option maxRecDepth 100000 in
set_option maxHeartbeats 4000000 in
theorem kto_Guest (x : gT) (cs : List Value) (w : World) (hc : wG.cap x) (h : wG.rd w 0 w.heap.size x cs) : Calls Try.prog 29 #[.agg cs.toArray] w (Gives wG w x) := by
  obtain ⟨hcap0, hcap1, hcap2, hcap3, hcap4, hcap5, hcap6, hcap7, hcap8, hcap9⟩ := hc
  have hR := h
  obtain ⟨hP0, hP1, hP2, hP3, rfl, hf0, hf1, hf2, hf3⟩ := wG_rd h
  obtain ⟨hA0, hK0, he0, -⟩ := lst_val hf0
  subst he0
  obtain ⟨hA1, hK1, he1, -⟩ := lst_val hf1
  subst he1
  obtain ⟨hA2, hK2, he2, -⟩ := lst_val hf2
  subst he2
  obtain ⟨hA3, hK3, he3, -⟩ := lst_val hf3
  subst he3
  refine Sx.enter (args := [.agg #[.slice hA0 x.prog.length hK0, .int .i64 x.a, .int .i64 x.pc, .slice hA1 x.wr.length hK1, .slice hA2 x.lv.length hK2, .int .i64 x.t.1, .int .i64 x.t.2.1, .bool x.t.2.2, .int .i64 x.pd, .int .i64 x.x.1, .int .i64 x.x.2.1, .bool x.x.2.2.1, .int .i64 x.x.2.2.2, .bool x.hl, .slice hA3 x.seen.length hK3]]) Try.func29 rfl Try.ntmps29 rfl ?_
  refine Sx.C.seq ?_
  refine Sx.C.region ?_
  refine Sx.G.box 62 (.tmp 0) [.slice hA0 x.prog.length hK0, .int .i64 x.a, .int .i64 x.pc, .slice hA1 x.wr.length hK1, .slice hA2 x.lv.length hK2, .int .i64 x.t.1, .int .i64 x.t.2.1, .bool x.t.2.2, .int .i64 x.pd, .int .i64 x.x.1, .int .i64 x.x.2.1, .bool x.x.2.2.1, .int .i64 x.x.2.2.2, .bool x.hl, .slice hA3 x.seen.length hK3] rfl (by kernel_rfl) (by kernel_rfl) (fun b1 => ?_)
  refine Sx.G.alloc 51 (.agg #[.slice none 0 0, .int .i64 0, .int .i64 0, .slice none 0 0, .slice none 0 0, .int .i64 0, .int .i64 0, .bool false, .int .i64 0, .int .i64 0, .int .i64 0, .bool false, .int .i64 0, .bool false, .slice none 0 0]) [.slice none 0 0, .int .i64 0, .int .i64 0, .slice none 0 0, .slice none 0 0, .int .i64 0, .int .i64 0, .bool false, .int .i64 0, .int .i64 0, .int .i64 0, .bool false, .int .i64 0, .bool false, .slice none 0 0] rfl (by kernel_rfl) (fun w => by kernel_rfl) (by kernel_rfl) (fun b2 => ?_)
  refine Sx.G.nil ?_
  refine Sx.E.next ?_
  refine Sx.C.seq ?_
  refine Sx.C.region ?_
  refine Sx.G.alloc 51 (.agg #[.slice none 0 0, .int .i64 0, .int .i64 0, .slice none 0 0, .slice none 0 0, .int .i64 0, .int .i64 0, .bool false, .int .i64 0, .int .i64 0, .int .i64 0, .bool false, .int .i64 0, .bool false, .slice none 0 0]) [.slice none 0 0, .int .i64 0, .int .i64 0, .slice none 0 0, .slice none 0 0, .int .i64 0, .int .i64 0, .bool false, .int .i64 0, .int .i64 0, .int .i64 0, .bool false, .int .i64 0, .bool false, .slice none 0 0] rfl (by kernel_rfl) (fun w => by kernel_rfl) (by kernel_rfl) (fun b3 => ?_)
  refine Sx.G.nil ?_
  refine Sx.E.next ?_
  refine Sx.C.seq ?_
  refine Sx.C.region ?_
  refine Sx.G.pure (.pointer (some ⟨b1, 0, none⟩)) (by kernel_rfl) (fun w => by kernel_rfl) ?_
  refine Sx.G.ld1 57 (.tmp 4) b1 0 2 [.slice hA0 x.prog.length hK0, .int .i64 x.a, .int .i64 x.pc, .slice hA1 x.wr.length hK1, .slice hA2 x.lv.length hK2, .int .i64 x.t.1, .int .i64 x.t.2.1, .bool x.t.2.2, .int .i64 x.pd, .int .i64 x.x.1, .int .i64 x.x.2.1, .bool x.x.2.2.1, .int .i64 x.x.2.2.2, .bool x.hl, .slice hA3 x.seen.length hK3] (.slice hA0 x.prog.length hK0) rfl (by kernel_rfl) (by kernel_rfl) rfl (by kernel_rfl) (by kernel_rfl) ?_
  refine Sx.G.call 38 #[.slice hA0 x.prog.length hK0] (by kernel_rfl) (fun w => by kernel_rfl) (fun w4 S => (Kit.kto_InsS x.prog hA0 hK0 _ hcap0 (St.old (r := (rLsw (rPair rInt rInt))) S hf0)).mono fun e w4' hp => ?_)
  obtain ⟨cs, F, rfl, ho, hF, hb⟩ := hp
  obtain ⟨u4, rfl⟩ := lsw_own ho
  obtain ⟨A4, c4, e4, -⟩ := lst_val ((St.got S hb ho hF).reads 0 rfl)
  subst e4
  generalize F = F4 at ho hF
  refine ⟨_, _, rfl, (St.got S hb ho hF), ?_⟩
  clear S hb ho hF
  refine Sx.G.pure (.pointer (some ⟨b3, 0, none⟩)) (by kernel_rfl) (fun w => by kernel_rfl) ?_
  refine Sx.G.sto 44 (.tmp 7) (.tmp 6) b3 0 1 [.slice none 0 0, .int .i64 0, .int .i64 0, .slice none 0 0, .slice none 0 0, .int .i64 0, .int .i64 0, .bool false, .int .i64 0, .int .i64 0, .int .i64 0, .bool false, .int .i64 0, .bool false, .slice none 0 0] [.slice A4 x.prog.length c4] [.slice A4 x.prog.length c4, .int .i64 0, .int .i64 0, .slice none 0 0, .slice none 0 0, .int .i64 0, .int .i64 0, .bool false, .int .i64 0, .int .i64 0, .int .i64 0, .bool false, .int .i64 0, .bool false, .slice none 0 0] [ow (rLsw (rPair rInt rInt)) w4.heap.size w4'.heap.size x.prog [.slice A4 x.prog.length c4] F4, vr b3 [.slice A4 x.prog.length c4, .int .i64 0, .int .i64 0, .slice none 0 0, .slice none 0 0, .int .i64 0, .int .i64 0, .bool false, .int .i64 0, .int .i64 0, .int .i64 0, .bool false, .int .i64 0, .bool false, .slice none 0 0], vr b2 [.slice none 0 0, .int .i64 0, .int .i64 0, .slice none 0 0, .slice none 0 0, .int .i64 0, .int .i64 0, .bool false, .int .i64 0, .int .i64 0, .int .i64 0, .bool false, .int .i64 0, .bool false, .slice none 0 0], vr b1 [.slice hA0 x.prog.length hK0, .int .i64 x.a, .int .i64 x.pc, .slice hA1 x.wr.length hK1, .slice hA2 x.lv.length hK2, .int .i64 x.t.1, .int .i64 x.t.2.1, .bool x.t.2.2, .int .i64 x.pd, .int .i64 x.x.1, .int .i64 x.x.2.1, .bool x.x.2.2.1, .int .i64 x.x.2.2.2, .bool x.hl, .slice hA3 x.seen.length hK3]] rfl (by kernel_rfl) (by kernel_rfl) (by kernel_rfl) rfl (by kernel_rfl) rfl (by kernel_rfl) (by kernel_rfl) (by kernel_rfl) ?_
  refine Sx.G.nil ?_
  refine Sx.E.next ?_
  refine Sx.C.seq ?_
  refine Sx.C.region ?_
  refine Sx.G.pure (.pointer (some ⟨b1, 1, none⟩)) (by kernel_rfl) (fun w => by kernel_rfl) ?_
  refine Sx.G.ld1 3 (.tmp 8) b1 1 3 [.slice hA0 x.prog.length hK0, .int .i64 x.a, .int .i64 x.pc, .slice hA1 x.wr.length hK1, .slice hA2 x.lv.length hK2, .int .i64 x.t.1, .int .i64 x.t.2.1, .bool x.t.2.2, .int .i64 x.pd, .int .i64 x.x.1, .int .i64 x.x.2.1, .bool x.x.2.2.1, .int .i64 x.x.2.2.2, .bool x.hl, .slice hA3 x.seen.length hK3] (.int .i64 x.a) rfl (by kernel_rfl) (by kernel_rfl) rfl (by kernel_rfl) (by kernel_rfl) ?_
  refine Sx.G.pure (.pointer (some ⟨b3, 1, none⟩)) (by kernel_rfl) (fun w => by kernel_rfl) ?_
  refine Sx.G.sto 3 (.tmp 10) (.tmp 9) b3 1 1 [.slice A4 x.prog.length c4, .int .i64 0, .int .i64 0, .slice none 0 0, .slice none 0 0, .int .i64 0, .int .i64 0, .bool false, .int .i64 0, .int .i64 0, .int .i64 0, .bool false, .int .i64 0, .bool false, .slice none 0 0] [.int .i64 x.a] [.slice A4 x.prog.length c4, .int .i64 x.a, .int .i64 0, .slice none 0 0, .slice none 0 0, .int .i64 0, .int .i64 0, .bool false, .int .i64 0, .int .i64 0, .int .i64 0, .bool false, .int .i64 0, .bool false, .slice none 0 0] [ow (rLsw (rPair rInt rInt)) w4.heap.size w4'.heap.size x.prog [.slice A4 x.prog.length c4] F4, vr b3 [.slice A4 x.prog.length c4, .int .i64 x.a, .int .i64 0, .slice none 0 0, .slice none 0 0, .int .i64 0, .int .i64 0, .bool false, .int .i64 0, .int .i64 0, .int .i64 0, .bool false, .int .i64 0, .bool false, .slice none 0 0], vr b2 [.slice none 0 0, .int .i64 0, .int .i64 0, .slice none 0 0, .slice none 0 0, .int .i64 0, .int .i64 0, .bool false, .int .i64 0, .int .i64 0, .int .i64 0, .bool false, .int .i64 0, .bool false, .slice none 0 0], vr b1 [.slice hA0 x.prog.length hK0, .int .i64 x.a, .int .i64 x.pc, .slice hA1 x.wr.length hK1, .slice hA2 x.lv.length hK2, .int .i64 x.t.1, .int .i64 x.t.2.1, .bool x.t.2.2, .int .i64 x.pd, .int .i64 x.x.1, .int .i64 x.x.2.1, .bool x.x.2.2.1, .int .i64 x.x.2.2.2, .bool x.hl, .slice hA3 x.seen.length hK3]] rfl (by kernel_rfl) (by kernel_rfl) (by kernel_rfl) rfl (by kernel_rfl) rfl (by kernel_rfl) (by kernel_rfl) (by kernel_rfl) ?_
  refine Sx.G.nil ?_
  refine Sx.E.next ?_
  refine Sx.C.seq ?_
  refine Sx.C.region ?_
  refine Sx.G.pure (.pointer (some ⟨b1, 2, none⟩)) (by kernel_rfl) (fun w => by kernel_rfl) ?_
  refine Sx.G.ld1 3 (.tmp 11) b1 2 3 [.slice hA0 x.prog.length hK0, .int .i64 x.a, .int .i64 x.pc, .slice hA1 x.wr.length hK1, .slice hA2 x.lv.length hK2, .int .i64 x.t.1, .int .i64 x.t.2.1, .bool x.t.2.2, .int .i64 x.pd, .int .i64 x.x.1, .int .i64 x.x.2.1, .bool x.x.2.2.1, .int .i64 x.x.2.2.2, .bool x.hl, .slice hA3 x.seen.length hK3] (.int .i64 x.pc) rfl (by kernel_rfl) (by kernel_rfl) rfl (by kernel_rfl) (by kernel_rfl) ?_
  refine Sx.G.pure (.pointer (some ⟨b3, 2, none⟩)) (by kernel_rfl) (fun w => by kernel_rfl) ?_
  refine Sx.G.sto 3 (.tmp 13) (.tmp 12) b3 2 1 [.slice A4 x.prog.length c4, .int .i64 x.a, .int .i64 0, .slice none 0 0, .slice none 0 0, .int .i64 0, .int .i64 0, .bool false, .int .i64 0, .int .i64 0, .int .i64 0, .bool false, .int .i64 0, .bool false, .slice none 0 0] [.int .i64 x.pc] [.slice A4 x.prog.length c4, .int .i64 x.a, .int .i64 x.pc, .slice none 0 0, .slice none 0 0, .int .i64 0, .int .i64 0, .bool false, .int .i64 0, .int .i64 0, .int .i64 0, .bool false, .int .i64 0, .bool false, .slice none 0 0] [ow (rLsw (rPair rInt rInt)) w4.heap.size w4'.heap.size x.prog [.slice A4 x.prog.length c4] F4, vr b3 [.slice A4 x.prog.length c4, .int .i64 x.a, .int .i64 x.pc, .slice none 0 0, .slice none 0 0, .int .i64 0, .int .i64 0, .bool false, .int .i64 0, .int .i64 0, .int .i64 0, .bool false, .int .i64 0, .bool false, .slice none 0 0], vr b2 [.slice none 0 0, .int .i64 0, .int .i64 0, .slice none 0 0, .slice none 0 0, .int .i64 0, .int .i64 0, .bool false, .int .i64 0, .int .i64 0, .int .i64 0, .bool false, .int .i64 0, .bool false, .slice none 0 0], vr b1 [.slice hA0 x.prog.length hK0, .int .i64 x.a, .int .i64 x.pc, .slice hA1 x.wr.length hK1, .slice hA2 x.lv.length hK2, .int .i64 x.t.1, .int .i64 x.t.2.1, .bool x.t.2.2, .int .i64 x.pd, .int .i64 x.x.1, .int .i64 x.x.2.1, .bool x.x.2.2.1, .int .i64 x.x.2.2.2, .bool x.hl, .slice hA3 x.seen.length hK3]] rfl (by kernel_rfl) (by kernel_rfl) (by kernel_rfl) rfl (by kernel_rfl) rfl (by kernel_rfl) (by kernel_rfl) (by kernel_rfl) ?_
  refine Sx.G.nil ?_
  refine Sx.E.next ?_
  refine Sx.C.seq ?_
  refine Sx.C.region ?_
  refine Sx.G.pure (.pointer (some ⟨b1, 3, none⟩)) (by kernel_rfl) (fun w => by kernel_rfl) ?_
  refine Sx.G.ld1 58 (.tmp 14) b1 3 3 [.slice hA0 x.prog.length hK0, .int .i64 x.a, .int .i64 x.pc, .slice hA1 x.wr.length hK1, .slice hA2 x.lv.length hK2, .int .i64 x.t.1, .int .i64 x.t.2.1, .bool x.t.2.2, .int .i64 x.pd, .int .i64 x.x.1, .int .i64 x.x.2.1, .bool x.x.2.2.1, .int .i64 x.x.2.2.2, .bool x.hl, .slice hA3 x.seen.length hK3] (.slice hA1 x.wr.length hK1) rfl (by kernel_rfl) (by kernel_rfl) rfl (by kernel_rfl) (by kernel_rfl) ?_
  refine Sx.G.call 78 #[.slice hA1 x.wr.length hK1] (by kernel_rfl) (fun w => by kernel_rfl) (fun w5 S => (Kit.kto_SlotS x.wr hA1 hK1 _ hcap3 (St.old (r := (rLsw (rPair rInt rInt))) S hf1)).mono fun e w5' hp => ?_)
  obtain ⟨cs, F, rfl, ho, hF, hb⟩ := hp
  obtain ⟨u5, rfl⟩ := lsw_own ho
  obtain ⟨A5, c5, e5, -⟩ := lst_val ((St.got S hb ho hF).reads 0 rfl)
  subst e5
  generalize F = F5 at ho hF
  refine ⟨_, _, rfl, (St.got S hb ho hF), ?_⟩
  clear S hb ho hF
  refine Sx.G.pure (.pointer (some ⟨b3, 3, none⟩)) (by kernel_rfl) (fun w => by kernel_rfl) ?_
  refine Sx.G.sto 45 (.tmp 17) (.tmp 16) b3 3 2 [.slice A4 x.prog.length c4, .int .i64 x.a, .int .i64 x.pc, .slice none 0 0, .slice none 0 0, .int .i64 0, .int .i64 0, .bool false, .int .i64 0, .int .i64 0, .int .i64 0, .bool false, .int .i64 0, .bool false, .slice none 0 0] [.slice A5 x.wr.length c5] [.slice A4 x.prog.length c4, .int .i64 x.a, .int .i64 x.pc, .slice A5 x.wr.length c5, .slice none 0 0, .int .i64 0, .int .i64 0, .bool false, .int .i64 0, .int .i64 0, .int .i64 0, .bool false, .int .i64 0, .bool false, .slice none 0 0] [ow (rLsw (rPair rInt rInt)) w5.heap.size w5'.heap.size x.wr [.slice A5 x.wr.length c5] F5, ow (rLsw (rPair rInt rInt)) w4.heap.size w4'.heap.size x.prog [.slice A4 x.prog.length c4] F4, vr b3 [.slice A4 x.prog.length c4, .int .i64 x.a, .int .i64 x.pc, .slice A5 x.wr.length c5, .slice none 0 0, .int .i64 0, .int .i64 0, .bool false, .int .i64 0, .int .i64 0, .int .i64 0, .bool false, .int .i64 0, .bool false, .slice none 0 0], vr b2 [.slice none 0 0, .int .i64 0, .int .i64 0, .slice none 0 0, .slice none 0 0, .int .i64 0, .int .i64 0, .bool false, .int .i64 0, .int .i64 0, .int .i64 0, .bool false, .int .i64 0, .bool false, .slice none 0 0], vr b1 [.slice hA0 x.prog.length hK0, .int .i64 x.a, .int .i64 x.pc, .slice hA1 x.wr.length hK1, .slice hA2 x.lv.length hK2, .int .i64 x.t.1, .int .i64 x.t.2.1, .bool x.t.2.2, .int .i64 x.pd, .int .i64 x.x.1, .int .i64 x.x.2.1, .bool x.x.2.2.1, .int .i64 x.x.2.2.2, .bool x.hl, .slice hA3 x.seen.length hK3]] rfl (by kernel_rfl) (by kernel_rfl) (by kernel_rfl) rfl (by kernel_rfl) rfl (by kernel_rfl) (by kernel_rfl) (by kernel_rfl) ?_
  refine Sx.G.nil ?_
  refine Sx.E.next ?_
  refine Sx.C.seq ?_
  refine Sx.C.region ?_
  refine Sx.G.pure (.pointer (some ⟨b1, 4, none⟩)) (by kernel_rfl) (fun w => by kernel_rfl) ?_
  refine Sx.G.ld1 58 (.tmp 18) b1 4 4 [.slice hA0 x.prog.length hK0, .int .i64 x.a, .int .i64 x.pc, .slice hA1 x.wr.length hK1, .slice hA2 x.lv.length hK2, .int .i64 x.t.1, .int .i64 x.t.2.1, .bool x.t.2.2, .int .i64 x.pd, .int .i64 x.x.1, .int .i64 x.x.2.1, .bool x.x.2.2.1, .int .i64 x.x.2.2.2, .bool x.hl, .slice hA3 x.seen.length hK3] (.slice hA2 x.lv.length hK2) rfl (by kernel_rfl) (by kernel_rfl) rfl (by kernel_rfl) (by kernel_rfl) ?_
  refine Sx.G.call 78 #[.slice hA2 x.lv.length hK2] (by kernel_rfl) (fun w => by kernel_rfl) (fun w6 S => (Kit.kto_SlotS x.lv hA2 hK2 _ hcap4 (St.old (r := (rLsw (rPair rInt rInt))) S hf2)).mono fun e w6' hp => ?_)
  obtain ⟨cs, F, rfl, ho, hF, hb⟩ := hp
  obtain ⟨u6, rfl⟩ := lsw_own ho
  obtain ⟨A6, c6, e6, -⟩ := lst_val ((St.got S hb ho hF).reads 0 rfl)
  subst e6
  generalize F = F6 at ho hF
  refine ⟨_, _, rfl, (St.got S hb ho hF), ?_⟩
  clear S hb ho hF
  refine Sx.G.pure (.pointer (some ⟨b3, 4, none⟩)) (by kernel_rfl) (fun w => by kernel_rfl) ?_
  refine Sx.G.sto 45 (.tmp 21) (.tmp 20) b3 4 3 [.slice A4 x.prog.length c4, .int .i64 x.a, .int .i64 x.pc, .slice A5 x.wr.length c5, .slice none 0 0, .int .i64 0, .int .i64 0, .bool false, .int .i64 0, .int .i64 0, .int .i64 0, .bool false, .int .i64 0, .bool false, .slice none 0 0] [.slice A6 x.lv.length c6] [.slice A4 x.prog.length c4, .int .i64 x.a, .int .i64 x.pc, .slice A5 x.wr.length c5, .slice A6 x.lv.length c6, .int .i64 0, .int .i64 0, .bool false, .int .i64 0, .int .i64 0, .int .i64 0, .bool false, .int .i64 0, .bool false, .slice none 0 0] [ow (rLsw (rPair rInt rInt)) w6.heap.size w6'.heap.size x.lv [.slice A6 x.lv.length c6] F6, ow (rLsw (rPair rInt rInt)) w5.heap.size w5'.heap.size x.wr [.slice A5 x.wr.length c5] F5, ow (rLsw (rPair rInt rInt)) w4.heap.size w4'.heap.size x.prog [.slice A4 x.prog.length c4] F4, vr b3 [.slice A4 x.prog.length c4, .int .i64 x.a, .int .i64 x.pc, .slice A5 x.wr.length c5, .slice A6 x.lv.length c6, .int .i64 0, .int .i64 0, .bool false, .int .i64 0, .int .i64 0, .int .i64 0, .bool false, .int .i64 0, .bool false, .slice none 0 0], vr b2 [.slice none 0 0, .int .i64 0, .int .i64 0, .slice none 0 0, .slice none 0 0, .int .i64 0, .int .i64 0, .bool false, .int .i64 0, .int .i64 0, .int .i64 0, .bool false, .int .i64 0, .bool false, .slice none 0 0], vr b1 [.slice hA0 x.prog.length hK0, .int .i64 x.a, .int .i64 x.pc, .slice hA1 x.wr.length hK1, .slice hA2 x.lv.length hK2, .int .i64 x.t.1, .int .i64 x.t.2.1, .bool x.t.2.2, .int .i64 x.pd, .int .i64 x.x.1, .int .i64 x.x.2.1, .bool x.x.2.2.1, .int .i64 x.x.2.2.2, .bool x.hl, .slice hA3 x.seen.length hK3]] rfl (by kernel_rfl) (by kernel_rfl) (by kernel_rfl) rfl (by kernel_rfl) rfl (by kernel_rfl) (by kernel_rfl) (by kernel_rfl) ?_
  refine Sx.G.nil ?_
  refine Sx.E.next ?_
  refine Sx.C.seq ?_
  refine Sx.C.region ?_
  refine Sx.G.pure (.pointer (some ⟨b1, 5, none⟩)) (by kernel_rfl) (fun w => by kernel_rfl) ?_
  refine Sx.G.ld 59 (.tmp 22) b1 5 5 [.slice hA0 x.prog.length hK0, .int .i64 x.a, .int .i64 x.pc, .slice hA1 x.wr.length hK1, .slice hA2 x.lv.length hK2, .int .i64 x.t.1, .int .i64 x.t.2.1, .bool x.t.2.2, .int .i64 x.pd, .int .i64 x.x.1, .int .i64 x.x.2.1, .bool x.x.2.2.1, .int .i64 x.x.2.2.2, .bool x.hl, .slice hA3 x.seen.length hK3] [.int .i64 x.t.1, .int .i64 x.t.2.1, .bool x.t.2.2] rfl (by kernel_rfl) (by kernel_rfl) rfl (by kernel_rfl) (by kernel_rfl) (by kernel_rfl) ?_
  refine Sx.G.plain 79 #[.agg #[.int .i64 x.t.1, .int .i64 x.t.2.1, .bool x.t.2.2]] (.agg #[.int .i64 x.t.1, .int .i64 x.t.2.1, .bool x.t.2.2]) (by kernel_rfl) (fun w => by kernel_rfl) (fun w S => by exact Kit.kto_Ctl x.t _) ?_
  refine Sx.G.pure (.pointer (some ⟨b3, 5, none⟩)) (by kernel_rfl) (fun w => by kernel_rfl) ?_
  refine Sx.G.sto 47 (.tmp 25) (.tmp 24) b3 5 3 [.slice A4 x.prog.length c4, .int .i64 x.a, .int .i64 x.pc, .slice A5 x.wr.length c5, .slice A6 x.lv.length c6, .int .i64 0, .int .i64 0, .bool false, .int .i64 0, .int .i64 0, .int .i64 0, .bool false, .int .i64 0, .bool false, .slice none 0 0] [.int .i64 x.t.1, .int .i64 x.t.2.1, .bool x.t.2.2] [.slice A4 x.prog.length c4, .int .i64 x.a, .int .i64 x.pc, .slice A5 x.wr.length c5, .slice A6 x.lv.length c6, .int .i64 x.t.1, .int .i64 x.t.2.1, .bool x.t.2.2, .int .i64 0, .int .i64 0, .int .i64 0, .bool false, .int .i64 0, .bool false, .slice none 0 0] [ow (rLsw (rPair rInt rInt)) w6.heap.size w6'.heap.size x.lv [.slice A6 x.lv.length c6] F6, ow (rLsw (rPair rInt rInt)) w5.heap.size w5'.heap.size x.wr [.slice A5 x.wr.length c5] F5, ow (rLsw (rPair rInt rInt)) w4.heap.size w4'.heap.size x.prog [.slice A4 x.prog.length c4] F4, vr b3 [.slice A4 x.prog.length c4, .int .i64 x.a, .int .i64 x.pc, .slice A5 x.wr.length c5, .slice A6 x.lv.length c6, .int .i64 x.t.1, .int .i64 x.t.2.1, .bool x.t.2.2, .int .i64 0, .int .i64 0, .int .i64 0, .bool false, .int .i64 0, .bool false, .slice none 0 0], vr b2 [.slice none 0 0, .int .i64 0, .int .i64 0, .slice none 0 0, .slice none 0 0, .int .i64 0, .int .i64 0, .bool false, .int .i64 0, .int .i64 0, .int .i64 0, .bool false, .int .i64 0, .bool false, .slice none 0 0], vr b1 [.slice hA0 x.prog.length hK0, .int .i64 x.a, .int .i64 x.pc, .slice hA1 x.wr.length hK1, .slice hA2 x.lv.length hK2, .int .i64 x.t.1, .int .i64 x.t.2.1, .bool x.t.2.2, .int .i64 x.pd, .int .i64 x.x.1, .int .i64 x.x.2.1, .bool x.x.2.2.1, .int .i64 x.x.2.2.2, .bool x.hl, .slice hA3 x.seen.length hK3]] rfl (by kernel_rfl) (by kernel_rfl) (by kernel_rfl) rfl (by kernel_rfl) rfl (by kernel_rfl) (by kernel_rfl) (by kernel_rfl) ?_
  refine Sx.G.nil ?_
  refine Sx.E.next ?_
  refine Sx.C.seq ?_
  refine Sx.C.region ?_
  refine Sx.G.pure (.pointer (some ⟨b1, 8, none⟩)) (by kernel_rfl) (fun w => by kernel_rfl) ?_
  refine Sx.G.ld1 3 (.tmp 26) b1 8 5 [.slice hA0 x.prog.length hK0, .int .i64 x.a, .int .i64 x.pc, .slice hA1 x.wr.length hK1, .slice hA2 x.lv.length hK2, .int .i64 x.t.1, .int .i64 x.t.2.1, .bool x.t.2.2, .int .i64 x.pd, .int .i64 x.x.1, .int .i64 x.x.2.1, .bool x.x.2.2.1, .int .i64 x.x.2.2.2, .bool x.hl, .slice hA3 x.seen.length hK3] (.int .i64 x.pd) rfl (by kernel_rfl) (by kernel_rfl) rfl (by kernel_rfl) (by kernel_rfl) ?_
  refine Sx.G.pure (.pointer (some ⟨b3, 8, none⟩)) (by kernel_rfl) (fun w => by kernel_rfl) ?_
  refine Sx.G.sto 3 (.tmp 28) (.tmp 27) b3 8 3 [.slice A4 x.prog.length c4, .int .i64 x.a, .int .i64 x.pc, .slice A5 x.wr.length c5, .slice A6 x.lv.length c6, .int .i64 x.t.1, .int .i64 x.t.2.1, .bool x.t.2.2, .int .i64 0, .int .i64 0, .int .i64 0, .bool false, .int .i64 0, .bool false, .slice none 0 0] [.int .i64 x.pd] [.slice A4 x.prog.length c4, .int .i64 x.a, .int .i64 x.pc, .slice A5 x.wr.length c5, .slice A6 x.lv.length c6, .int .i64 x.t.1, .int .i64 x.t.2.1, .bool x.t.2.2, .int .i64 x.pd, .int .i64 0, .int .i64 0, .bool false, .int .i64 0, .bool false, .slice none 0 0] [ow (rLsw (rPair rInt rInt)) w6.heap.size w6'.heap.size x.lv [.slice A6 x.lv.length c6] F6, ow (rLsw (rPair rInt rInt)) w5.heap.size w5'.heap.size x.wr [.slice A5 x.wr.length c5] F5, ow (rLsw (rPair rInt rInt)) w4.heap.size w4'.heap.size x.prog [.slice A4 x.prog.length c4] F4, vr b3 [.slice A4 x.prog.length c4, .int .i64 x.a, .int .i64 x.pc, .slice A5 x.wr.length c5, .slice A6 x.lv.length c6, .int .i64 x.t.1, .int .i64 x.t.2.1, .bool x.t.2.2, .int .i64 x.pd, .int .i64 0, .int .i64 0, .bool false, .int .i64 0, .bool false, .slice none 0 0], vr b2 [.slice none 0 0, .int .i64 0, .int .i64 0, .slice none 0 0, .slice none 0 0, .int .i64 0, .int .i64 0, .bool false, .int .i64 0, .int .i64 0, .int .i64 0, .bool false, .int .i64 0, .bool false, .slice none 0 0], vr b1 [.slice hA0 x.prog.length hK0, .int .i64 x.a, .int .i64 x.pc, .slice hA1 x.wr.length hK1, .slice hA2 x.lv.length hK2, .int .i64 x.t.1, .int .i64 x.t.2.1, .bool x.t.2.2, .int .i64 x.pd, .int .i64 x.x.1, .int .i64 x.x.2.1, .bool x.x.2.2.1, .int .i64 x.x.2.2.2, .bool x.hl, .slice hA3 x.seen.length hK3]] rfl (by kernel_rfl) (by kernel_rfl) (by kernel_rfl) rfl (by kernel_rfl) rfl (by kernel_rfl) (by kernel_rfl) (by kernel_rfl) ?_
  refine Sx.G.nil ?_
  refine Sx.E.next ?_
  refine Sx.C.seq ?_
  refine Sx.C.region ?_
  refine Sx.G.pure (.pointer (some ⟨b1, 9, none⟩)) (by kernel_rfl) (fun w => by kernel_rfl) ?_
  refine Sx.G.ld 60 (.tmp 29) b1 9 5 [.slice hA0 x.prog.length hK0, .int .i64 x.a, .int .i64 x.pc, .slice hA1 x.wr.length hK1, .slice hA2 x.lv.length hK2, .int .i64 x.t.1, .int .i64 x.t.2.1, .bool x.t.2.2, .int .i64 x.pd, .int .i64 x.x.1, .int .i64 x.x.2.1, .bool x.x.2.2.1, .int .i64 x.x.2.2.2, .bool x.hl, .slice hA3 x.seen.length hK3] [.int .i64 x.x.1, .int .i64 x.x.2.1, .bool x.x.2.2.1, .int .i64 x.x.2.2.2] rfl (by kernel_rfl) (by kernel_rfl) rfl (by kernel_rfl) (by kernel_rfl) (by kernel_rfl) ?_
  refine Sx.G.plain 80 #[.agg #[.int .i64 x.x.1, .int .i64 x.x.2.1, .bool x.x.2.2.1, .int .i64 x.x.2.2.2]] (.agg #[.int .i64 x.x.1, .int .i64 x.x.2.1, .bool x.x.2.2.1, .int .i64 x.x.2.2.2]) (by kernel_rfl) (fun w => by kernel_rfl) (fun w S => by exact Kit.kto_Exit x.x _) ?_
  refine Sx.G.pure (.pointer (some ⟨b3, 9, none⟩)) (by kernel_rfl) (fun w => by kernel_rfl) ?_
  refine Sx.G.sto 49 (.tmp 32) (.tmp 31) b3 9 3 [.slice A4 x.prog.length c4, .int .i64 x.a, .int .i64 x.pc, .slice A5 x.wr.length c5, .slice A6 x.lv.length c6, .int .i64 x.t.1, .int .i64 x.t.2.1, .bool x.t.2.2, .int .i64 x.pd, .int .i64 0, .int .i64 0, .bool false, .int .i64 0, .bool false, .slice none 0 0] [.int .i64 x.x.1, .int .i64 x.x.2.1, .bool x.x.2.2.1, .int .i64 x.x.2.2.2] [.slice A4 x.prog.length c4, .int .i64 x.a, .int .i64 x.pc, .slice A5 x.wr.length c5, .slice A6 x.lv.length c6, .int .i64 x.t.1, .int .i64 x.t.2.1, .bool x.t.2.2, .int .i64 x.pd, .int .i64 x.x.1, .int .i64 x.x.2.1, .bool x.x.2.2.1, .int .i64 x.x.2.2.2, .bool false, .slice none 0 0] [ow (rLsw (rPair rInt rInt)) w6.heap.size w6'.heap.size x.lv [.slice A6 x.lv.length c6] F6, ow (rLsw (rPair rInt rInt)) w5.heap.size w5'.heap.size x.wr [.slice A5 x.wr.length c5] F5, ow (rLsw (rPair rInt rInt)) w4.heap.size w4'.heap.size x.prog [.slice A4 x.prog.length c4] F4, vr b3 [.slice A4 x.prog.length c4, .int .i64 x.a, .int .i64 x.pc, .slice A5 x.wr.length c5, .slice A6 x.lv.length c6, .int .i64 x.t.1, .int .i64 x.t.2.1, .bool x.t.2.2, .int .i64 x.pd, .int .i64 x.x.1, .int .i64 x.x.2.1, .bool x.x.2.2.1, .int .i64 x.x.2.2.2, .bool false, .slice none 0 0], vr b2 [.slice none 0 0, .int .i64 0, .int .i64 0, .slice none 0 0, .slice none 0 0, .int .i64 0, .int .i64 0, .bool false, .int .i64 0, .int .i64 0, .int .i64 0, .bool false, .int .i64 0, .bool false, .slice none 0 0], vr b1 [.slice hA0 x.prog.length hK0, .int .i64 x.a, .int .i64 x.pc, .slice hA1 x.wr.length hK1, .slice hA2 x.lv.length hK2, .int .i64 x.t.1, .int .i64 x.t.2.1, .bool x.t.2.2, .int .i64 x.pd, .int .i64 x.x.1, .int .i64 x.x.2.1, .bool x.x.2.2.1, .int .i64 x.x.2.2.2, .bool x.hl, .slice hA3 x.seen.length hK3]] rfl (by kernel_rfl) (by kernel_rfl) (by kernel_rfl) rfl (by kernel_rfl) rfl (by kernel_rfl) (by kernel_rfl) (by kernel_rfl) ?_
  refine Sx.G.nil ?_
  refine Sx.E.next ?_
  refine Sx.C.seq ?_
  refine Sx.C.region ?_
  refine Sx.G.pure (.pointer (some ⟨b1, 13, none⟩)) (by kernel_rfl) (fun w => by kernel_rfl) ?_
  refine Sx.G.ld1 4 (.tmp 33) b1 13 5 [.slice hA0 x.prog.length hK0, .int .i64 x.a, .int .i64 x.pc, .slice hA1 x.wr.length hK1, .slice hA2 x.lv.length hK2, .int .i64 x.t.1, .int .i64 x.t.2.1, .bool x.t.2.2, .int .i64 x.pd, .int .i64 x.x.1, .int .i64 x.x.2.1, .bool x.x.2.2.1, .int .i64 x.x.2.2.2, .bool x.hl, .slice hA3 x.seen.length hK3] (.bool x.hl) rfl (by kernel_rfl) (by kernel_rfl) rfl (by kernel_rfl) (by kernel_rfl) ?_
  refine Sx.G.pure (.pointer (some ⟨b3, 13, none⟩)) (by kernel_rfl) (fun w => by kernel_rfl) ?_
  refine Sx.G.sto 4 (.tmp 35) (.tmp 34) b3 13 3 [.slice A4 x.prog.length c4, .int .i64 x.a, .int .i64 x.pc, .slice A5 x.wr.length c5, .slice A6 x.lv.length c6, .int .i64 x.t.1, .int .i64 x.t.2.1, .bool x.t.2.2, .int .i64 x.pd, .int .i64 x.x.1, .int .i64 x.x.2.1, .bool x.x.2.2.1, .int .i64 x.x.2.2.2, .bool false, .slice none 0 0] [.bool x.hl] [.slice A4 x.prog.length c4, .int .i64 x.a, .int .i64 x.pc, .slice A5 x.wr.length c5, .slice A6 x.lv.length c6, .int .i64 x.t.1, .int .i64 x.t.2.1, .bool x.t.2.2, .int .i64 x.pd, .int .i64 x.x.1, .int .i64 x.x.2.1, .bool x.x.2.2.1, .int .i64 x.x.2.2.2, .bool x.hl, .slice none 0 0] [ow (rLsw (rPair rInt rInt)) w6.heap.size w6'.heap.size x.lv [.slice A6 x.lv.length c6] F6, ow (rLsw (rPair rInt rInt)) w5.heap.size w5'.heap.size x.wr [.slice A5 x.wr.length c5] F5, ow (rLsw (rPair rInt rInt)) w4.heap.size w4'.heap.size x.prog [.slice A4 x.prog.length c4] F4, vr b3 [.slice A4 x.prog.length c4, .int .i64 x.a, .int .i64 x.pc, .slice A5 x.wr.length c5, .slice A6 x.lv.length c6, .int .i64 x.t.1, .int .i64 x.t.2.1, .bool x.t.2.2, .int .i64 x.pd, .int .i64 x.x.1, .int .i64 x.x.2.1, .bool x.x.2.2.1, .int .i64 x.x.2.2.2, .bool x.hl, .slice none 0 0], vr b2 [.slice none 0 0, .int .i64 0, .int .i64 0, .slice none 0 0, .slice none 0 0, .int .i64 0, .int .i64 0, .bool false, .int .i64 0, .int .i64 0, .int .i64 0, .bool false, .int .i64 0, .bool false, .slice none 0 0], vr b1 [.slice hA0 x.prog.length hK0, .int .i64 x.a, .int .i64 x.pc, .slice hA1 x.wr.length hK1, .slice hA2 x.lv.length hK2, .int .i64 x.t.1, .int .i64 x.t.2.1, .bool x.t.2.2, .int .i64 x.pd, .int .i64 x.x.1, .int .i64 x.x.2.1, .bool x.x.2.2.1, .int .i64 x.x.2.2.2, .bool x.hl, .slice hA3 x.seen.length hK3]] rfl (by kernel_rfl) (by kernel_rfl) (by kernel_rfl) rfl (by kernel_rfl) rfl (by kernel_rfl) (by kernel_rfl) (by kernel_rfl) ?_
  refine Sx.G.nil ?_
  refine Sx.E.next ?_
  refine Sx.C.seq ?_
  refine Sx.C.region ?_
  refine Sx.G.pure (.pointer (some ⟨b1, 14, none⟩)) (by kernel_rfl) (fun w => by kernel_rfl) ?_
  refine Sx.G.ld1 26 (.tmp 36) b1 14 5 [.slice hA0 x.prog.length hK0, .int .i64 x.a, .int .i64 x.pc, .slice hA1 x.wr.length hK1, .slice hA2 x.lv.length hK2, .int .i64 x.t.1, .int .i64 x.t.2.1, .bool x.t.2.2, .int .i64 x.pd, .int .i64 x.x.1, .int .i64 x.x.2.1, .bool x.x.2.2.1, .int .i64 x.x.2.2.2, .bool x.hl, .slice hA3 x.seen.length hK3] (.slice hA3 x.seen.length hK3) rfl (by kernel_rfl) (by kernel_rfl) rfl (by kernel_rfl) (by kernel_rfl) ?_
  refine Sx.G.call 61 #[.slice hA3 x.seen.length hK3] (by kernel_rfl) (fun w => by kernel_rfl) (fun w7 S => (Kit.kto_IntS x.seen hA3 hK3 _ hcap9 (St.old (r := (rLsw rInt)) S hf3)).mono fun e w7' hp => ?_)
  obtain ⟨cs, F, rfl, ho, hF, hb⟩ := hp
  obtain ⟨u7, rfl⟩ := lsw_own ho
  obtain ⟨A7, c7, e7, -⟩ := lst_val ((St.got S hb ho hF).reads 0 rfl)
  subst e7
  generalize F = F7 at ho hF
  refine ⟨_, _, rfl, (St.got S hb ho hF), ?_⟩
  clear S hb ho hF
  refine Sx.G.pure (.pointer (some ⟨b3, 14, none⟩)) (by kernel_rfl) (fun w => by kernel_rfl) ?_
  refine Sx.G.sto 26 (.tmp 39) (.tmp 38) b3 14 4 [.slice A4 x.prog.length c4, .int .i64 x.a, .int .i64 x.pc, .slice A5 x.wr.length c5, .slice A6 x.lv.length c6, .int .i64 x.t.1, .int .i64 x.t.2.1, .bool x.t.2.2, .int .i64 x.pd, .int .i64 x.x.1, .int .i64 x.x.2.1, .bool x.x.2.2.1, .int .i64 x.x.2.2.2, .bool x.hl, .slice none 0 0] [.slice A7 x.seen.length c7] [.slice A4 x.prog.length c4, .int .i64 x.a, .int .i64 x.pc, .slice A5 x.wr.length c5, .slice A6 x.lv.length c6, .int .i64 x.t.1, .int .i64 x.t.2.1, .bool x.t.2.2, .int .i64 x.pd, .int .i64 x.x.1, .int .i64 x.x.2.1, .bool x.x.2.2.1, .int .i64 x.x.2.2.2, .bool x.hl, .slice A7 x.seen.length c7] [ow (rLsw rInt) w7.heap.size w7'.heap.size x.seen [.slice A7 x.seen.length c7] F7, ow (rLsw (rPair rInt rInt)) w6.heap.size w6'.heap.size x.lv [.slice A6 x.lv.length c6] F6, ow (rLsw (rPair rInt rInt)) w5.heap.size w5'.heap.size x.wr [.slice A5 x.wr.length c5] F5, ow (rLsw (rPair rInt rInt)) w4.heap.size w4'.heap.size x.prog [.slice A4 x.prog.length c4] F4, vr b3 [.slice A4 x.prog.length c4, .int .i64 x.a, .int .i64 x.pc, .slice A5 x.wr.length c5, .slice A6 x.lv.length c6, .int .i64 x.t.1, .int .i64 x.t.2.1, .bool x.t.2.2, .int .i64 x.pd, .int .i64 x.x.1, .int .i64 x.x.2.1, .bool x.x.2.2.1, .int .i64 x.x.2.2.2, .bool x.hl, .slice A7 x.seen.length c7], vr b2 [.slice none 0 0, .int .i64 0, .int .i64 0, .slice none 0 0, .slice none 0 0, .int .i64 0, .int .i64 0, .bool false, .int .i64 0, .int .i64 0, .int .i64 0, .bool false, .int .i64 0, .bool false, .slice none 0 0], vr b1 [.slice hA0 x.prog.length hK0, .int .i64 x.a, .int .i64 x.pc, .slice hA1 x.wr.length hK1, .slice hA2 x.lv.length hK2, .int .i64 x.t.1, .int .i64 x.t.2.1, .bool x.t.2.2, .int .i64 x.pd, .int .i64 x.x.1, .int .i64 x.x.2.1, .bool x.x.2.2.1, .int .i64 x.x.2.2.2, .bool x.hl, .slice hA3 x.seen.length hK3]] rfl (by kernel_rfl) (by kernel_rfl) (by kernel_rfl) rfl (by kernel_rfl) rfl (by kernel_rfl) (by kernel_rfl) (by kernel_rfl) ?_
  refine Sx.G.nil ?_
  refine Sx.E.next ?_
  refine Sx.C.seq ?_
  refine Sx.C.region ?_
  refine Sx.G.ld 51 (.tmp 3) b3 0 4 [.slice A4 x.prog.length c4, .int .i64 x.a, .int .i64 x.pc, .slice A5 x.wr.length c5, .slice A6 x.lv.length c6, .int .i64 x.t.1, .int .i64 x.t.2.1, .bool x.t.2.2, .int .i64 x.pd, .int .i64 x.x.1, .int .i64 x.x.2.1, .bool x.x.2.2.1, .int .i64 x.x.2.2.2, .bool x.hl, .slice A7 x.seen.length c7] [.slice A4 x.prog.length c4, .int .i64 x.a, .int .i64 x.pc, .slice A5 x.wr.length c5, .slice A6 x.lv.length c6, .int .i64 x.t.1, .int .i64 x.t.2.1, .bool x.t.2.2, .int .i64 x.pd, .int .i64 x.x.1, .int .i64 x.x.2.1, .bool x.x.2.2.1, .int .i64 x.x.2.2.2, .bool x.hl, .slice A7 x.seen.length c7] rfl (by kernel_rfl) (by kernel_rfl) rfl (by kernel_rfl) (by kernel_rfl) (by kernel_rfl) ?_
  refine Sx.G.sto 51 (.tmp 2) (.tmp 40) b2 0 5 [.slice none 0 0, .int .i64 0, .int .i64 0, .slice none 0 0, .slice none 0 0, .int .i64 0, .int .i64 0, .bool false, .int .i64 0, .int .i64 0, .int .i64 0, .bool false, .int .i64 0, .bool false, .slice none 0 0] [.slice A4 x.prog.length c4, .int .i64 x.a, .int .i64 x.pc, .slice A5 x.wr.length c5, .slice A6 x.lv.length c6, .int .i64 x.t.1, .int .i64 x.t.2.1, .bool x.t.2.2, .int .i64 x.pd, .int .i64 x.x.1, .int .i64 x.x.2.1, .bool x.x.2.2.1, .int .i64 x.x.2.2.2, .bool x.hl, .slice A7 x.seen.length c7] [.slice A4 x.prog.length c4, .int .i64 x.a, .int .i64 x.pc, .slice A5 x.wr.length c5, .slice A6 x.lv.length c6, .int .i64 x.t.1, .int .i64 x.t.2.1, .bool x.t.2.2, .int .i64 x.pd, .int .i64 x.x.1, .int .i64 x.x.2.1, .bool x.x.2.2.1, .int .i64 x.x.2.2.2, .bool x.hl, .slice A7 x.seen.length c7] [ow (rLsw rInt) w7.heap.size w7'.heap.size x.seen [.slice A7 x.seen.length c7] F7, ow (rLsw (rPair rInt rInt)) w6.heap.size w6'.heap.size x.lv [.slice A6 x.lv.length c6] F6, ow (rLsw (rPair rInt rInt)) w5.heap.size w5'.heap.size x.wr [.slice A5 x.wr.length c5] F5, ow (rLsw (rPair rInt rInt)) w4.heap.size w4'.heap.size x.prog [.slice A4 x.prog.length c4] F4, vr b3 [.slice A4 x.prog.length c4, .int .i64 x.a, .int .i64 x.pc, .slice A5 x.wr.length c5, .slice A6 x.lv.length c6, .int .i64 x.t.1, .int .i64 x.t.2.1, .bool x.t.2.2, .int .i64 x.pd, .int .i64 x.x.1, .int .i64 x.x.2.1, .bool x.x.2.2.1, .int .i64 x.x.2.2.2, .bool x.hl, .slice A7 x.seen.length c7], vr b2 [.slice A4 x.prog.length c4, .int .i64 x.a, .int .i64 x.pc, .slice A5 x.wr.length c5, .slice A6 x.lv.length c6, .int .i64 x.t.1, .int .i64 x.t.2.1, .bool x.t.2.2, .int .i64 x.pd, .int .i64 x.x.1, .int .i64 x.x.2.1, .bool x.x.2.2.1, .int .i64 x.x.2.2.2, .bool x.hl, .slice A7 x.seen.length c7], vr b1 [.slice hA0 x.prog.length hK0, .int .i64 x.a, .int .i64 x.pc, .slice hA1 x.wr.length hK1, .slice hA2 x.lv.length hK2, .int .i64 x.t.1, .int .i64 x.t.2.1, .bool x.t.2.2, .int .i64 x.pd, .int .i64 x.x.1, .int .i64 x.x.2.1, .bool x.x.2.2.1, .int .i64 x.x.2.2.2, .bool x.hl, .slice hA3 x.seen.length hK3]] rfl (by kernel_rfl) (by kernel_rfl) (by kernel_rfl) rfl (by kernel_rfl) rfl (by kernel_rfl) (by kernel_rfl) (by kernel_rfl) ?_
  refine Sx.G.nil ?_
  refine Sx.E.next ?_
  refine Sx.C.ret ?_
  refine Sx.E.retc b2 5 [.slice A4 x.prog.length c4, .int .i64 x.a, .int .i64 x.pc, .slice A5 x.wr.length c5, .slice A6 x.lv.length c6, .int .i64 x.t.1, .int .i64 x.t.2.1, .bool x.t.2.2, .int .i64 x.pd, .int .i64 x.x.1, .int .i64 x.x.2.1, .bool x.x.2.2.1, .int .i64 x.x.2.2.2, .bool x.hl, .slice A7 x.seen.length c7] rfl (by kernel_rfl) rfl (by kernel_rfl) (by kernel_rfl) (fun w S => ?_)
  obtain ⟨ho, hF⟩ := wG_shut (g := x) S 3 rfl 2 rfl 1 rfl 0 rfl (by decide) (by decide) (by decide) (by decide) (by decide) (by decide)
  exact ⟨_, _, rfl, ho, hF, S.below⟩
end Go.Proofs.Ytldgadmpclgfhaa.Kit
