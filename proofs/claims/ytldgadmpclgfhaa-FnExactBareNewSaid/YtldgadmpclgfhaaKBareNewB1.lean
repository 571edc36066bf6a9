/-
  The texts that KBareNew wants, part 1: KitF SlotH IntH RightsMath In SlotMath SlotArgs InsH Grid GridA GridH Part CtlH ExitH GuestH GuestR KitG. No condition.
-/
import Derived.Test.YtldgadmpclgfhaaKBareNewB0
import Derived.Deep.RegionHeld3
import Derived.Deep.SlicePairs
import Derived.Lib.SmallJoins
namespace Go.Proofs.Ytldgadmpclgfhaa.Kit
set_option maxRecDepth 100000
open Go.ChangeShapes Go.WideShapes Go.ChangeAt Go.RowKit Go.Deep
open Go.Proofs.Ytldgadmpclgfhaa.Base Go.Proofs.Ytldgadmpclgfhaa.Mem Go.Proofs.Ytldgadmpclgfhaa.Data Go.Proofs.Ytldgadmpclgfhaa.Stt
set_option linter.unusedVariables false
set_option linter.unusedSimpArgs false
theorem open_nil {α : Type} {r : Rp α} {w : World} {lo hi : Nat} {es : List Value} {F : List Nat} (h : (rLsw r).own w lo hi [] es F) : ∃ A c, es = [.slice A 0 c] := by
  obtain ⟨A, c, ds, F1, e, -⟩ := h
  exact ⟨A, c, e⟩
theorem own_nil {α : Type} {r : Rp α} (w : World) (lo hi : Nat) : (rLsw r).own w lo hi [] [.slice none 0 0] [] := ⟨none, 0, [], [], rfl, Nat.le_refl _, rfl, ⟨rfl, rfl⟩, ⟨Lies.nil, fun b off e => by cases e⟩⟩
theorem rd_Int {w : World} {lo hi : Nat} {x : Int} {es : List Value} (h : rInt.rd w lo hi x es) : es = [.int .i64 x] := by
  exact h
theorem own_Int {w : World} {lo hi : Nat} {x : Int} {es : List Value} {F : List Nat} (h : rInt.own w lo hi x es F) : es = [.int .i64 x] ∧ F = [] := by
  exact h
theorem own_mk_Int (w : World) (lo hi : Nat) (x : Int) : rInt.own w lo hi x [.int .i64 x] [] := ⟨rfl, rfl⟩
theorem sz0_Int : ∀ xs : List Int, sizeAll rInt xs = 0
  | [] => rfl
  | x :: xs => by rw [sizeAll, sz0_Int xs]; rfl
theorem rd_Slot {w : World} {lo hi : Nat} {x : (Int × Int)} {es : List Value} (h : (rPair rInt rInt).rd w lo hi x es) : es = [.int .i64 x.1, .int .i64 x.2] := by
  obtain ⟨u0, v0, rfl, x0, h⟩ := h
  obtain rfl := show _ = _ from x0
  obtain rfl := show _ = _ from h
  rfl
theorem own_Slot {w : World} {lo hi : Nat} {x : (Int × Int)} {es : List Value} {F : List Nat} (h : (rPair rInt rInt).own w lo hi x es F) : es = [.int .i64 x.1, .int .i64 x.2] ∧ F = [] := by
  obtain ⟨u0, v0, U0, V0, rfl, rfl, ⟨rfl, rfl⟩, h⟩ := h
  obtain ⟨rfl, rfl⟩ := h
  exact ⟨rfl, rfl⟩
theorem own_mk_Slot (w : World) (lo hi : Nat) (x : (Int × Int)) : (rPair rInt rInt).own w lo hi x [.int .i64 x.1, .int .i64 x.2] [] := ⟨[_], _, [], [], rfl, rfl, ⟨rfl, rfl⟩, ⟨rfl, rfl⟩⟩
theorem sz0_Slot : ∀ xs : List (Int × Int), sizeAll (rPair rInt rInt) xs = 0
  | [] => rfl
  | x :: xs => by rw [sizeAll, sz0_Slot xs]; rfl
set_option maxRecDepth 100000 in
set_option maxHeartbeats 4000000 in
theorem keq_Slot (x : (Int × Int)) (w : World)  : Calls Try.prog 109 #[.agg #[.int .i64 x.1, .int .i64 x.2], .agg #[.int .i64 x.1, .int .i64 x.2]] w (fun e w' => e = .returned (.bool true) ∧ Below w.heap.size w w') := by
  refine Sx.enter (args := [.agg #[.int .i64 x.1, .int .i64 x.2], .agg #[.int .i64 x.1, .int .i64 x.2]]) Try.func109 rfl Try.ntmps109 rfl ?_
  refine Sx.C.seq ?_
  refine Sx.C.region ?_
  refine Sx.G.box 129 (.tmp 0) [.int .i64 x.1, .int .i64 x.2] rfl (by kernel_rfl) (by kernel_rfl) (fun b1 => ?_)
  refine Sx.G.box 129 (.tmp 1) [.int .i64 x.1, .int .i64 x.2] rfl (by kernel_rfl) (by kernel_rfl) (fun b2 => ?_)
  refine Sx.G.pure (.bool false) (by kernel_rfl) (fun w => by kernel_rfl) ?_
  refine Sx.G.nil ?_
  refine Sx.E.next ?_
  refine Sx.C.seq ?_
  refine Sx.C.seq ?_
  refine Sx.C.region ?_
  refine Sx.G.pure (.pointer (some ⟨b1, 0, none⟩)) (by kernel_rfl) (fun w => by kernel_rfl) ?_
  refine Sx.G.ld1 3 (.tmp 5) b1 0 1 [.int .i64 x.1, .int .i64 x.2] (.int .i64 x.1) rfl (by kernel_rfl) (by kernel_rfl) rfl (by kernel_rfl) (by kernel_rfl) ?_
  refine Sx.G.pure (.pointer (some ⟨b2, 0, none⟩)) (by kernel_rfl) (fun w => by kernel_rfl) ?_
  refine Sx.G.ld1 3 (.tmp 7) b2 0 0 [.int .i64 x.1, .int .i64 x.2] (.int .i64 x.1) rfl (by kernel_rfl) (by kernel_rfl) rfl (by kernel_rfl) (by kernel_rfl) ?_
  refine Sx.G.pureq (.bool (x.1 != x.1)) (.bool false) (by kernel_rfl) (fun w => by kernel_rfl) (congrArg Value.bool (bne_self_eq_false _)) ?_
  refine Sx.G.nil ?_
  refine Sx.E.next ?_
  refine Sx.C.no (by kernel_rfl) (by kernel_rfl) ?_
  refine Sx.C.skip ?_
  refine Sx.E.next ?_
  refine Sx.C.seq ?_
  refine Sx.C.seq ?_
  refine Sx.C.region ?_
  refine Sx.G.pure (.pointer (some ⟨b1, 1, none⟩)) (by kernel_rfl) (fun w => by kernel_rfl) ?_
  refine Sx.G.ld1 3 (.tmp 10) b1 1 1 [.int .i64 x.1, .int .i64 x.2] (.int .i64 x.2) rfl (by kernel_rfl) (by kernel_rfl) rfl (by kernel_rfl) (by kernel_rfl) ?_
  refine Sx.G.pure (.pointer (some ⟨b2, 1, none⟩)) (by kernel_rfl) (fun w => by kernel_rfl) ?_
  refine Sx.G.ld1 3 (.tmp 12) b2 1 0 [.int .i64 x.1, .int .i64 x.2] (.int .i64 x.2) rfl (by kernel_rfl) (by kernel_rfl) rfl (by kernel_rfl) (by kernel_rfl) ?_
  refine Sx.G.pureq (.bool (x.2 != x.2)) (.bool false) (by kernel_rfl) (fun w => by kernel_rfl) (congrArg Value.bool (bne_self_eq_false _)) ?_
  refine Sx.G.nil ?_
  refine Sx.E.next ?_
  refine Sx.C.no (by kernel_rfl) (by kernel_rfl) ?_
  refine Sx.C.skip ?_
  refine Sx.E.next ?_
  refine Sx.C.seq ?_
  refine Sx.C.region ?_
  refine Sx.G.pure (.bool true) (by kernel_rfl) (fun w => by kernel_rfl) ?_
  refine Sx.G.nil ?_
  refine Sx.E.next ?_
  refine Sx.C.ret ?_
  refine Sx.E.ret1 (.bool true) rfl (by kernel_rfl) (fun w S => ?_)
  exact ⟨rfl, S.below⟩
theorem rd_Ins {w : World} {lo hi : Nat} {x : (Int × Int)} {es : List Value} (h : (rPair rInt rInt).rd w lo hi x es) : es = [.int .i64 x.1, .int .i64 x.2] := by
  obtain ⟨u0, v0, rfl, x0, h⟩ := h
  obtain rfl := show _ = _ from x0
  obtain rfl := show _ = _ from h
  rfl
theorem own_Ins {w : World} {lo hi : Nat} {x : (Int × Int)} {es : List Value} {F : List Nat} (h : (rPair rInt rInt).own w lo hi x es F) : es = [.int .i64 x.1, .int .i64 x.2] ∧ F = [] := by
  obtain ⟨u0, v0, U0, V0, rfl, rfl, ⟨rfl, rfl⟩, h⟩ := h
  obtain ⟨rfl, rfl⟩ := h
  exact ⟨rfl, rfl⟩
theorem own_mk_Ins (w : World) (lo hi : Nat) (x : (Int × Int)) : (rPair rInt rInt).own w lo hi x [.int .i64 x.1, .int .i64 x.2] [] := ⟨[_], _, [], [], rfl, rfl, ⟨rfl, rfl⟩, ⟨rfl, rfl⟩⟩
theorem sz0_Ins : ∀ xs : List (Int × Int), sizeAll (rPair rInt rInt) xs = 0
  | [] => rfl
  | x :: xs => by rw [sizeAll, sz0_Ins xs]; rfl
set_option maxRecDepth 100000 in
set_option maxHeartbeats 4000000 in
theorem keq_Ins (x : (Int × Int)) (w : World)  : Calls Try.prog 97 #[.agg #[.int .i64 x.1, .int .i64 x.2], .agg #[.int .i64 x.1, .int .i64 x.2]] w (fun e w' => e = .returned (.bool true) ∧ Below w.heap.size w w') := by
  refine Sx.enter (args := [.agg #[.int .i64 x.1, .int .i64 x.2], .agg #[.int .i64 x.1, .int .i64 x.2]]) Try.func97 rfl Try.ntmps97 rfl ?_
  refine Sx.C.seq ?_
  refine Sx.C.region ?_
  refine Sx.G.box 111 (.tmp 0) [.int .i64 x.1, .int .i64 x.2] rfl (by kernel_rfl) (by kernel_rfl) (fun b1 => ?_)
  refine Sx.G.box 111 (.tmp 1) [.int .i64 x.1, .int .i64 x.2] rfl (by kernel_rfl) (by kernel_rfl) (fun b2 => ?_)
  refine Sx.G.pure (.bool false) (by kernel_rfl) (fun w => by kernel_rfl) ?_
  refine Sx.G.nil ?_
  refine Sx.E.next ?_
  refine Sx.C.seq ?_
  refine Sx.C.seq ?_
  refine Sx.C.region ?_
  refine Sx.G.pure (.pointer (some ⟨b1, 0, none⟩)) (by kernel_rfl) (fun w => by kernel_rfl) ?_
  refine Sx.G.ld1 3 (.tmp 5) b1 0 1 [.int .i64 x.1, .int .i64 x.2] (.int .i64 x.1) rfl (by kernel_rfl) (by kernel_rfl) rfl (by kernel_rfl) (by kernel_rfl) ?_
  refine Sx.G.pure (.pointer (some ⟨b2, 0, none⟩)) (by kernel_rfl) (fun w => by kernel_rfl) ?_
  refine Sx.G.ld1 3 (.tmp 7) b2 0 0 [.int .i64 x.1, .int .i64 x.2] (.int .i64 x.1) rfl (by kernel_rfl) (by kernel_rfl) rfl (by kernel_rfl) (by kernel_rfl) ?_
  refine Sx.G.pureq (.bool (x.1 != x.1)) (.bool false) (by kernel_rfl) (fun w => by kernel_rfl) (congrArg Value.bool (bne_self_eq_false _)) ?_
  refine Sx.G.nil ?_
  refine Sx.E.next ?_
  refine Sx.C.no (by kernel_rfl) (by kernel_rfl) ?_
  refine Sx.C.skip ?_
  refine Sx.E.next ?_
  refine Sx.C.seq ?_
  refine Sx.C.seq ?_
  refine Sx.C.region ?_
  refine Sx.G.pure (.pointer (some ⟨b1, 1, none⟩)) (by kernel_rfl) (fun w => by kernel_rfl) ?_
  refine Sx.G.ld1 3 (.tmp 10) b1 1 1 [.int .i64 x.1, .int .i64 x.2] (.int .i64 x.2) rfl (by kernel_rfl) (by kernel_rfl) rfl (by kernel_rfl) (by kernel_rfl) ?_
  refine Sx.G.pure (.pointer (some ⟨b2, 1, none⟩)) (by kernel_rfl) (fun w => by kernel_rfl) ?_
  refine Sx.G.ld1 3 (.tmp 12) b2 1 0 [.int .i64 x.1, .int .i64 x.2] (.int .i64 x.2) rfl (by kernel_rfl) (by kernel_rfl) rfl (by kernel_rfl) (by kernel_rfl) ?_
  refine Sx.G.pureq (.bool (x.2 != x.2)) (.bool false) (by kernel_rfl) (fun w => by kernel_rfl) (congrArg Value.bool (bne_self_eq_false _)) ?_
  refine Sx.G.nil ?_
  refine Sx.E.next ?_
  refine Sx.C.no (by kernel_rfl) (by kernel_rfl) ?_
  refine Sx.C.skip ?_
  refine Sx.E.next ?_
  refine Sx.C.seq ?_
  refine Sx.C.region ?_
  refine Sx.G.pure (.bool true) (by kernel_rfl) (fun w => by kernel_rfl) ?_
  refine Sx.G.nil ?_
  refine Sx.E.next ?_
  refine Sx.C.ret ?_
  refine Sx.E.ret1 (.bool true) rfl (by kernel_rfl) (fun w S => ?_)
  exact ⟨rfl, S.below⟩
set_option maxRecDepth 100000 in
set_option maxHeartbeats 4000000 in
theorem kto_Ins (x : (Int × Int)) (w : World)  : Calls Try.prog 92 #[.agg #[.int .i64 x.1, .int .i64 x.2]] w (fun e w' => e = .returned (.agg #[.int .i64 x.1, .int .i64 x.2]) ∧ Below w.heap.size w w') := by
  refine Sx.enter (args := [.agg #[.int .i64 x.1, .int .i64 x.2]]) Try.func92 rfl Try.ntmps92 rfl ?_
  refine Sx.C.seq ?_
  refine Sx.C.region ?_
  refine Sx.G.box 113 (.tmp 0) [.int .i64 x.1, .int .i64 x.2] rfl (by kernel_rfl) (by kernel_rfl) (fun b1 => ?_)
  refine Sx.G.alloc 111 (.agg #[.int .i64 0, .int .i64 0]) [.int .i64 0, .int .i64 0] rfl (by kernel_rfl) (fun w => by kernel_rfl) (by kernel_rfl) (fun b2 => ?_)
  refine Sx.G.nil ?_
  refine Sx.E.next ?_
  refine Sx.C.seq ?_
  refine Sx.C.region ?_
  refine Sx.G.alloc 111 (.agg #[.int .i64 0, .int .i64 0]) [.int .i64 0, .int .i64 0] rfl (by kernel_rfl) (fun w => by kernel_rfl) (by kernel_rfl) (fun b3 => ?_)
  refine Sx.G.nil ?_
  refine Sx.E.next ?_
  refine Sx.C.seq ?_
  refine Sx.C.region ?_
  refine Sx.G.pure (.pointer (some ⟨b1, 0, none⟩)) (by kernel_rfl) (fun w => by kernel_rfl) ?_
  refine Sx.G.ld1 3 (.tmp 4) b1 0 2 [.int .i64 x.1, .int .i64 x.2] (.int .i64 x.1) rfl (by kernel_rfl) (by kernel_rfl) rfl (by kernel_rfl) (by kernel_rfl) ?_
  refine Sx.G.pure (.pointer (some ⟨b3, 0, none⟩)) (by kernel_rfl) (fun w => by kernel_rfl) ?_
  refine Sx.G.sto 3 (.tmp 6) (.tmp 5) b3 0 0 [.int .i64 0, .int .i64 0] [.int .i64 x.1] [.int .i64 x.1, .int .i64 0] [vr b3 [.int .i64 x.1, .int .i64 0], vr b2 [.int .i64 0, .int .i64 0], vr b1 [.int .i64 x.1, .int .i64 x.2]] rfl (by kernel_rfl) (by kernel_rfl) (by kernel_rfl) rfl (by kernel_rfl) rfl (by kernel_rfl) (by kernel_rfl) (by kernel_rfl) ?_
  refine Sx.G.nil ?_
  refine Sx.E.next ?_
  refine Sx.C.seq ?_
  refine Sx.C.region ?_
  refine Sx.G.pure (.pointer (some ⟨b1, 1, none⟩)) (by kernel_rfl) (fun w => by kernel_rfl) ?_
  refine Sx.G.ld1 3 (.tmp 7) b1 1 2 [.int .i64 x.1, .int .i64 x.2] (.int .i64 x.2) rfl (by kernel_rfl) (by kernel_rfl) rfl (by kernel_rfl) (by kernel_rfl) ?_
  refine Sx.G.pure (.pointer (some ⟨b3, 1, none⟩)) (by kernel_rfl) (fun w => by kernel_rfl) ?_
  refine Sx.G.sto 3 (.tmp 9) (.tmp 8) b3 1 0 [.int .i64 x.1, .int .i64 0] [.int .i64 x.2] [.int .i64 x.1, .int .i64 x.2] [vr b3 [.int .i64 x.1, .int .i64 x.2], vr b2 [.int .i64 0, .int .i64 0], vr b1 [.int .i64 x.1, .int .i64 x.2]] rfl (by kernel_rfl) (by kernel_rfl) (by kernel_rfl) rfl (by kernel_rfl) rfl (by kernel_rfl) (by kernel_rfl) (by kernel_rfl) ?_
  refine Sx.G.nil ?_
  refine Sx.E.next ?_
  refine Sx.C.seq ?_
  refine Sx.C.region ?_
  refine Sx.G.ld 111 (.tmp 3) b3 0 0 [.int .i64 x.1, .int .i64 x.2] [.int .i64 x.1, .int .i64 x.2] rfl (by kernel_rfl) (by kernel_rfl) rfl (by kernel_rfl) (by kernel_rfl) (by kernel_rfl) ?_
  refine Sx.G.sto 111 (.tmp 2) (.tmp 10) b2 0 1 [.int .i64 0, .int .i64 0] [.int .i64 x.1, .int .i64 x.2] [.int .i64 x.1, .int .i64 x.2] [vr b3 [.int .i64 x.1, .int .i64 x.2], vr b2 [.int .i64 x.1, .int .i64 x.2], vr b1 [.int .i64 x.1, .int .i64 x.2]] rfl (by kernel_rfl) (by kernel_rfl) (by kernel_rfl) rfl (by kernel_rfl) rfl (by kernel_rfl) (by kernel_rfl) (by kernel_rfl) ?_
  refine Sx.G.nil ?_
  refine Sx.E.next ?_
  refine Sx.C.ret ?_
  refine Sx.E.retc b2 1 [.int .i64 x.1, .int .i64 x.2] rfl (by kernel_rfl) rfl (by kernel_rfl) (by kernel_rfl) (fun w S => ?_)
  exact ⟨rfl, S.below⟩
set_option maxRecDepth 100000 in
set_option maxHeartbeats 4000000 in
theorem keq_IntS (xs : (List Int)) (A : Option Addr) (c : Nat) (B : Option Addr) (d : Nat) (w : World) (hc : (rLsw rInt).cap xs) (h : rdLst rInt w 0 w.heap.size xs [.slice A xs.length c]) (j : rdLst rInt w 0 w.heap.size xs [.slice B xs.length d]) : Calls Try.prog 43 #[.slice A xs.length c, .slice B xs.length d] w (fun e w' => e = .returned (.bool true) ∧ Below w.heap.size w w') := by
  obtain ⟨hl, hce⟩ := hc
  refine Sx.enter (args := [.slice A xs.length c, .slice B xs.length d]) Try.func43 rfl Try.ntmps43 rfl ?_
  refine Sx.C.seq ?_
  refine Sx.C.region ?_
  refine Sx.G.pure (.bool false) (by kernel_rfl) (fun w => by kernel_rfl) ?_
  refine Sx.G.nil ?_
  refine Sx.E.next ?_
  refine Sx.C.seq ?_
  refine Sx.C.seq ?_
  refine Sx.C.region ?_
  refine Sx.G.pure (.slice A xs.length c) (by kernel_rfl) (fun w => by kernel_rfl) ?_
  refine Sx.G.pure (.int .i64 ((xs.length : Nat) : Int)) (by kernel_rfl) (fun w => by kernel_rfl) ?_
  refine Sx.G.pure (.slice B xs.length d) (by kernel_rfl) (fun w => by kernel_rfl) ?_
  refine Sx.G.pure (.int .i64 ((xs.length : Nat) : Int)) (by kernel_rfl) (fun w => by kernel_rfl) ?_
  refine Sx.G.pureq (.bool (((xs.length : Nat) : Int) != ((xs.length : Nat) : Int))) (.bool false) (by kernel_rfl) (fun w => by kernel_rfl) (congrArg Value.bool (bne_self_eq_false _)) ?_
  refine Sx.G.nil ?_
  refine Sx.E.next ?_
  refine Sx.C.no (by kernel_rfl) (by kernel_rfl) ?_
  refine Sx.C.skip ?_
  refine Sx.E.next ?_
  refine Sx.C.seq ?_
  refine Sx.C.seq ?_
  refine Sx.C.region ?_
  refine Sx.G.pure (.int .i64 0) (by kernel_rfl) (fun w => by kernel_rfl) ?_
  refine Sx.G.nil ?_
  refine Sx.E.next ?_
  refine Sx.C.block ?_
  refine Sx.C.loop (α := Nat) (fun i => i ≤ xs.length) (fun i => [(5, .int .i64 (i : Int)), (0, .slice A xs.length c), (1, .slice B xs.length d), (4, .bool false)]) (fun i => []) (fun i => xs.length - i) 0 (Nat.zero_le _) (fun a hA => (Sx.Ag.and hA (Sx.Ag.and hA (Sx.Ag.and hA (Sx.Ag.and hA (Sx.Ag.none hA) _ _ (by kernel_rfl)) _ _ (by kernel_rfl)) _ _ (by kernel_rfl)) _ _ (by kernel_rfl))) (fun w S => S) (fun i hx => ?_)
  refine Sx.C.seq ?_
  refine Sx.C.seq ?_
  refine Sx.C.region ?_
  refine Sx.G.pure (.int .i64 (i : Int)) (by kernel_rfl) (fun w => by kernel_rfl) ?_
  refine Sx.G.pure (.slice A xs.length c) (by kernel_rfl) (fun w => by kernel_rfl) ?_
  refine Sx.G.pure (.int .i64 ((xs.length : Nat) : Int)) (by kernel_rfl) (fun w => by kernel_rfl) ?_
  refine Sx.G.pure (.bool (decide ((i : Int) < ((xs.length : Nat) : Int)))) (by kernel_rfl) (fun w => by kernel_rfl) ?_
  refine Sx.G.nil ?_
  refine Sx.E.next ?_
  cases hc1 : (decide ((i : Int) < ((xs.length : Nat) : Int)))
  · have hb1 := hc1
    replace hc1 := of_decide_eq_false hc1
    refine Sx.C.no (by kernel_rfl) (by kernel_rfl) ?_
    refine Sx.C.exit ?_
    refine Sx.E.then_exit ?_
    refine Sx.E.then_exit ?_
    refine Sx.E.block_hit ?_
    refine Sx.E.next ?_
    refine Sx.C.seq ?_
    refine Sx.C.region ?_
    refine Sx.G.pure (.bool true) (by kernel_rfl) (fun w => by kernel_rfl) ?_
    refine Sx.G.nil ?_
    refine Sx.E.next ?_
    refine Sx.C.ret ?_
    refine Sx.E.ret1 (.bool true) rfl (by kernel_rfl) (fun w S => ?_)
    exact ⟨rfl, S.below⟩
  · have hb1 := hc1
    replace hc1 := of_decide_eq_true hc1
    refine Sx.C.yes (by kernel_rfl) (by kernel_rfl) ?_
    refine Sx.C.skip ?_
    refine Sx.E.next ?_
    refine Sx.C.seq ?_
    refine Sx.C.block ?_
    refine Sx.C.seq ?_
    refine Sx.C.draw (.take 0 (.take 1 (.take 2 (.take 3 (.take 4 (.take 5 (.take 6 (.take 7 (.take 8 .nil))))))))) [] (fun w S => St.pick S [] _ rfl (by decide)) (by kernel_rfl) (by kernel_rfl) (by kernel_rfl) ?_
    refine Sx.GT.pure (.slice A xs.length c) 0 (by rfl) (by kernel_rfl) (fun w => by kernel_rfl) ?_
    refine Sx.GT.pure (.int .i64 (i : Int)) 1 (by rfl) (by kernel_rfl) (fun w => by kernel_rfl) ?_
    obtain ⟨b2, f2, es2, eA2, hr2, hl2, hm2⟩ := Sx.old_elem (by decide) h i (by omega)
    subst eA2
    obtain ⟨x2, hx2⟩ : ∃ z_, z_ = (xs[i]'(by omega)) := ⟨_, rfl⟩
    rw [← hx2] at hr2
    obtain rfl := Kit.rd_Int hr2
    refine Sx.GT.elem 26 3 (.tmp 17) (.tmp 18) 1 8 b2 f2 xs.length c i 2 (by rfl) (by rfl) (by kernel_rfl) (by kernel_rfl) (by kernel_rfl) (by kernel_rfl) (by omega) ?_
    refine Sx.GT.ldr1 3 (.tmp 19) b2 ((f2 + i * 1) + 0) (.int .i64 x2) 3 (by rfl) (by rfl) (by kernel_rfl) (by kernel_rfl) (fun w S => hm2 w _ S 0 _ rfl) (by kernel_rfl) ?_
    refine Sx.GT.pure (.slice B xs.length d) 4 (by rfl) (by kernel_rfl) (fun w => by kernel_rfl) ?_
    refine Sx.GT.pure (.int .i64 (i : Int)) 5 (by rfl) (by kernel_rfl) (fun w => by kernel_rfl) ?_
    obtain ⟨b3, f3, es3, eA3, hr3, hl3, hm3⟩ := Sx.old_elem (by decide) j i (by omega)
    subst eA3
    rw [← hx2] at hr3
    obtain rfl := Kit.rd_Int hr3
    refine Sx.GT.elem 26 3 (.tmp 21) (.tmp 22) 1 8 b3 f3 xs.length d i 6 (by rfl) (by rfl) (by kernel_rfl) (by kernel_rfl) (by kernel_rfl) (by kernel_rfl) (by omega) ?_
    refine Sx.GT.ldr1 3 (.tmp 23) b3 ((f3 + i * 1) + 0) (.int .i64 x2) 7 (by rfl) (by rfl) (by kernel_rfl) (by kernel_rfl) (fun w S => hm3 w _ S 0 _ rfl) (by kernel_rfl) ?_
    refine Sx.GT.pureq (.bool (x2 != x2)) (.bool false) 8 (by rfl) (by kernel_rfl) (fun w => by kernel_rfl) (congrArg Value.bool (bne_self_eq_false _)) ?_
    refine Sx.GT.nil ?_
    refine Sx.E.next ?_
    refine Sx.C.no (by kernel_rfl) (by kernel_rfl) ?_
    refine Sx.C.skip ?_
    refine Sx.E.block_normal ?_
    refine Sx.E.next ?_
    refine Sx.C.region ?_
    refine Sx.G.pure (.int .i64 (i : Int)) (by kernel_rfl) (fun w => by kernel_rfl) ?_
    refine Sx.G.pureq (.int .i64 (IntKind.i64.wrap ((i : Int) + 1))) (.int .i64 ((i + 1 : Nat) : Int)) (by kernel_rfl) (fun w => by kernel_rfl) (congrArg (Value.int .i64) (Sx.wrap_up i (by omega))) ?_
    refine Sx.G.pure (.int .i64 ((i + 1 : Nat) : Int)) (by kernel_rfl) (fun w => by kernel_rfl) ?_
    refine Sx.G.nil ?_
    exact Sx.E.again (i + 1) (by omega) (by omega) (fun a hA => (Sx.Ag.and hA (Sx.Ag.and hA (Sx.Ag.and hA (Sx.Ag.and hA (Sx.Ag.none hA) _ _ (by kernel_rfl)) _ _ (by kernel_rfl)) _ _ (by kernel_rfl)) _ _ (by kernel_rfl))) (fun w S => S)
set_option maxRecDepth 100000 in
set_option maxHeartbeats 4000000 in
theorem khd_IntS (xs : (List Int)) (A : Option Addr) (c k : Nat) (w : World) (hc : (rLsw rInt).cap xs) (hk : k + cntAll rInt xs ≤ 1000000000000) (h : rdLst rInt w 0 w.heap.size (mkAll rInt k xs) [.slice A xs.length c]) : Calls Try.prog 51 #[.slice A xs.length c, .int .i64 ((k : Nat) : Int)] w (fun e w' => e = .returned (.int .i64 ((k + cntAll rInt xs : Nat) : Int)) ∧ Below w.heap.size w w') := by
  obtain ⟨hl, hce⟩ := hc
  have hml := Kit.mk_len rInt k xs
  refine Sx.enter (args := [.slice A xs.length c, .int .i64 ((k : Nat) : Int)]) Try.func51 rfl Try.ntmps51 rfl ?_
  refine Sx.C.seq ?_
  refine Sx.C.region ?_
  refine Sx.G.pure (.int .i64 0) (by kernel_rfl) (fun w => by kernel_rfl) ?_
  refine Sx.G.nil ?_
  refine Sx.E.next ?_
  refine Sx.C.seq ?_
  refine Sx.C.seq ?_
  refine Sx.C.region ?_
  refine Sx.G.pure (.int .i64 0) (by kernel_rfl) (fun w => by kernel_rfl) ?_
  refine Sx.G.nil ?_
  refine Sx.E.next ?_
  refine Sx.C.block ?_
  refine Sx.C.loop (α := Nat × Nat) (fun x => x.1 ≤ xs.length ∧ x.2 = k + cntAll rInt (xs.take x.1)) (fun x => [(5, .int .i64 (x.1 : Int)), (1, .int .i64 ((x.2 : Nat) : Int)), (0, .slice A xs.length c), (4, .int .i64 0)]) (fun x => []) (fun x => xs.length - x.1) (0, k) (by refine ⟨Nat.zero_le _, ?_⟩; simp [cntAll]) (fun a hA => (Sx.Ag.and hA (Sx.Ag.and hA (Sx.Ag.and hA (Sx.Ag.and hA (Sx.Ag.none hA) _ _ (by kernel_rfl)) _ _ (by kernel_rfl)) _ _ (by kernel_rfl)) _ _ (by kernel_rfl))) (fun w S => S) (fun x hx => ?_)
  obtain ⟨i, q⟩ := x
  dsimp only at hx
  obtain ⟨hi, hq⟩ := hx
  have hqm := Kit.cnt_le (r := rInt) (xs := xs) i
  refine Sx.C.seq ?_
  refine Sx.C.seq ?_
  refine Sx.C.region ?_
  refine Sx.G.pure (.int .i64 (i : Int)) (by kernel_rfl) (fun w => by kernel_rfl) ?_
  refine Sx.G.pure (.slice A xs.length c) (by kernel_rfl) (fun w => by kernel_rfl) ?_
  refine Sx.G.pure (.int .i64 ((xs.length : Nat) : Int)) (by kernel_rfl) (fun w => by kernel_rfl) ?_
  refine Sx.G.pure (.bool (decide ((i : Int) < ((xs.length : Nat) : Int)))) (by kernel_rfl) (fun w => by kernel_rfl) ?_
  refine Sx.G.nil ?_
  refine Sx.E.next ?_
  cases hc1 : (decide ((i : Int) < ((xs.length : Nat) : Int)))
  · have hb1 := hc1
    replace hc1 := of_decide_eq_false hc1
    refine Sx.C.no (by kernel_rfl) (by kernel_rfl) ?_
    refine Sx.C.exit ?_
    refine Sx.E.then_exit ?_
    refine Sx.E.then_exit ?_
    refine Sx.E.block_hit ?_
    refine Sx.E.next ?_
    refine Sx.C.seq ?_
    refine Sx.C.region ?_
    refine Sx.G.pure (.int .i64 ((q : Nat) : Int)) (by kernel_rfl) (fun w => by kernel_rfl) ?_
    refine Sx.G.pure (.int .i64 ((q : Nat) : Int)) (by kernel_rfl) (fun w => by kernel_rfl) ?_
    refine Sx.G.nil ?_
    refine Sx.E.next ?_
    refine Sx.C.ret ?_
    refine Sx.E.ret1 (.int .i64 ((q : Nat) : Int)) rfl (by kernel_rfl) (fun w S => ?_)
    have h2' : xs.take i = xs := List.take_of_length_le (by omega)
    rw [h2'] at hq
    subst hq
    exact ⟨rfl, S.below⟩
  · have hb1 := hc1
    replace hc1 := of_decide_eq_true hc1
    refine Sx.C.yes (by kernel_rfl) (by kernel_rfl) ?_
    refine Sx.C.skip ?_
    refine Sx.E.next ?_
    refine Sx.C.seq ?_
    refine Sx.C.block ?_
    refine Sx.C.seq ?_
    refine Sx.C.seq ?_
    refine Sx.C.region ?_
    refine Sx.G.pure (.slice A xs.length c) (by kernel_rfl) (fun w => by kernel_rfl) ?_
    refine Sx.G.pure (.int .i64 (i : Int)) (by kernel_rfl) (fun w => by kernel_rfl) ?_
    obtain ⟨b2, f2, es2, eA2, hr2, hl2, hm2⟩ := Sx.old_elem (by decide) h i (by omega)
    subst eA2
    obtain ⟨x2, hx2⟩ : ∃ x, x = (xs[i]'(by omega)) := ⟨_, rfl⟩
    rw [Kit.mk_get k (show i < xs.length by omega), ← hq, ← hx2] at hr2
    obtain rfl := Kit.rd_Int hr2
    refine Sx.G.elem 26 3 (.tmp 12) (.tmp 13) 1 8 b2 f2 xs.length c i rfl (by kernel_rfl) (by kernel_rfl) (by kernel_rfl) (by kernel_rfl) (by omega) ?_
    refine Sx.G.ldr1 3 (.tmp 14) b2 ((f2 + i * 1) + 0) (.int .i64 ((q : Nat) : Int)) rfl (by kernel_rfl) (by kernel_rfl) (fun w S => hm2 w _ S 0 _ rfl) (by kernel_rfl) ?_
    refine Sx.G.pure (.int .i64 ((q : Nat) : Int)) (by kernel_rfl) (fun w => by kernel_rfl) ?_
    refine Sx.G.pureq (.bool (((q : Nat) : Int) != ((q : Nat) : Int))) (.bool false) (by kernel_rfl) (fun w => by kernel_rfl) (congrArg Value.bool (bne_self_eq_false _)) ?_
    refine Sx.G.nil ?_
    refine Sx.E.next ?_
    refine Sx.C.no (by kernel_rfl) (by kernel_rfl) ?_
    refine Sx.C.skip ?_
    refine Sx.E.next ?_
    refine Sx.C.region ?_
    refine Sx.G.pure (.int .i64 ((q : Nat) : Int)) (by kernel_rfl) (fun w => by kernel_rfl) ?_
    refine Sx.G.pureq (.int .i64 (IntKind.i64.wrap (((q : Nat) : Int) + 1))) (.int .i64 ((q + 1 : Nat) : Int)) (by kernel_rfl) (fun w => by kernel_rfl) (congrArg (Value.int .i64) (Sx.wrap_up q (by omega))) ?_
    refine Sx.G.pure (.int .i64 ((q + 1 : Nat) : Int)) (by kernel_rfl) (fun w => by kernel_rfl) ?_
    refine Sx.G.nil ?_
    refine Sx.E.block_normal ?_
    refine Sx.E.next ?_
    refine Sx.C.region ?_
    refine Sx.G.pure (.int .i64 (i : Int)) (by kernel_rfl) (fun w => by kernel_rfl) ?_
    refine Sx.G.pureq (.int .i64 (IntKind.i64.wrap ((i : Int) + 1))) (.int .i64 ((i + 1 : Nat) : Int)) (by kernel_rfl) (fun w => by kernel_rfl) (congrArg (Value.int .i64) (Sx.wrap_up i (by omega))) ?_
    refine Sx.G.pure (.int .i64 ((i + 1 : Nat) : Int)) (by kernel_rfl) (fun w => by kernel_rfl) ?_
    refine Sx.G.nil ?_
    have hst := Kit.cnt_step (r := rInt) (show i < xs.length by omega)
    rw [← hx2] at hst
    exact Sx.E.again (i + 1, (q + 1 : Nat)) (by refine ⟨by omega, ?_⟩; show _ = k + cntAll rInt (xs.take (i + 1)); rw [hst, hq]; rfl) (show xs.length - (i + 1) < xs.length - i by omega) (fun a hA => (Sx.Ag.and hA (Sx.Ag.and hA (Sx.Ag.and hA (Sx.Ag.and hA (Sx.Ag.none hA) _ _ (by kernel_rfl)) _ _ (by kernel_rfl)) _ _ (by kernel_rfl)) _ _ (by kernel_rfl))) (fun w S => S)
set_option maxRecDepth 100000 in
set_option maxHeartbeats 4000000 in
theorem kmk0_IntS {w0 w : World} {lo hi : Nat} {R : List Res} (xs : (List Int)) (A : Option Addr) (c k : Nat) (F : List Nat) (hc : (rLsw rInt).cap xs) (hk : k + cntAll rInt xs ≤ 1000000000000) (S : St w0 w (ow (rLsw rInt) lo hi xs [.slice A xs.length c] F :: R)) : Calls Try.prog 48 #[.slice A xs.length c, .int .i64 ((k : Nat) : Int)] w fun e w' => e = .returned (.int .i64 ((k + cntAll rInt xs : Nat) : Int)) ∧ St w0 w' (ow (rLsw rInt) lo hi (mkAll rInt k xs) [.slice A xs.length c] F :: R) := by
  obtain ⟨hl, hce⟩ := hc
  refine Sx.enterS (args := [.slice A xs.length c, .int .i64 ((k : Nat) : Int)]) S Try.func48 rfl Try.ntmps48 rfl ?_
  refine Sx.C.seq ?_
  refine Sx.C.region ?_
  refine Sx.G.pure (.int .i64 0) (by kernel_rfl) (fun w => by kernel_rfl) ?_
  refine Sx.G.nil ?_
  refine Sx.E.next ?_
  refine Sx.C.seq ?_
  refine Sx.C.seq ?_
  refine Sx.C.region ?_
  refine Sx.G.pure (.int .i64 0) (by kernel_rfl) (fun w => by kernel_rfl) ?_
  refine Sx.G.nil ?_
  refine Sx.E.next ?_
  refine Sx.C.block ?_
  refine Sx.C.loop (α := Nat × Nat) (fun x => x.1 ≤ xs.length ∧ x.2 = k + cntAll rInt (xs.take x.1)) (fun x => [(5, .int .i64 (x.1 : Int)), (1, .int .i64 ((x.2 : Nat) : Int)), (0, .slice A xs.length c), (4, .int .i64 0)]) (fun x => (ow (rLsw rInt) lo hi (mkAll rInt k (xs.take x.1) ++ xs.drop x.1) [.slice A xs.length c] F :: R)) (fun x => xs.length - x.1) (0, k) (by refine ⟨Nat.zero_le _, ?_⟩; simp [cntAll]) (fun a hA => (Sx.Ag.and hA (Sx.Ag.and hA (Sx.Ag.and hA (Sx.Ag.and hA (Sx.Ag.none hA) _ _ (by kernel_rfl)) _ _ (by kernel_rfl)) _ _ (by kernel_rfl)) _ _ (by kernel_rfl))) (fun w S => S) (fun x hx => ?_)
  obtain ⟨i, q⟩ := x
  dsimp only at hx
  obtain ⟨hi', hq⟩ := hx
  have hqm := Kit.cnt_le (r := rInt) (xs := xs) i
  refine Sx.C.seq ?_
  refine Sx.C.seq ?_
  refine Sx.C.region ?_
  refine Sx.G.pure (.int .i64 (i : Int)) (by kernel_rfl) (fun w => by kernel_rfl) ?_
  refine Sx.G.pure (.slice A xs.length c) (by kernel_rfl) (fun w => by kernel_rfl) ?_
  refine Sx.G.pure (.int .i64 ((xs.length : Nat) : Int)) (by kernel_rfl) (fun w => by kernel_rfl) ?_
  refine Sx.G.pure (.bool (decide ((i : Int) < ((xs.length : Nat) : Int)))) (by kernel_rfl) (fun w => by kernel_rfl) ?_
  refine Sx.G.nil ?_
  refine Sx.E.next ?_
  cases hc1 : (decide ((i : Int) < ((xs.length : Nat) : Int)))
  · have hb1 := hc1
    replace hc1 := of_decide_eq_false hc1
    refine Sx.C.no (by kernel_rfl) (by kernel_rfl) ?_
    refine Sx.C.exit ?_
    refine Sx.E.then_exit ?_
    refine Sx.E.then_exit ?_
    refine Sx.E.block_hit ?_
    refine Sx.E.next ?_
    refine Sx.C.seq ?_
    refine Sx.C.region ?_
    refine Sx.G.pure (.int .i64 ((q : Nat) : Int)) (by kernel_rfl) (fun w => by kernel_rfl) ?_
    refine Sx.G.pure (.int .i64 ((q : Nat) : Int)) (by kernel_rfl) (fun w => by kernel_rfl) ?_
    refine Sx.G.nil ?_
    refine Sx.E.next ?_
    refine Sx.C.ret ?_
    refine Sx.E.ret1 (.int .i64 ((q : Nat) : Int)) rfl (by kernel_rfl) (fun w S => ?_)
    have h2' : xs.take i = xs := List.take_of_length_le (by omega)
    have h3' : xs.drop i = [] := List.drop_of_length_le (by omega)
    rw [h2'] at hq
    rw [h2', h3', List.append_nil] at S
    subst hq
    exact ⟨rfl, S⟩
  · have hb1 := hc1
    replace hc1 := of_decide_eq_true hc1
    refine Sx.C.yes (by kernel_rfl) (by kernel_rfl) ?_
    refine Sx.C.skip ?_
    refine Sx.E.next ?_
    refine Sx.C.seq ?_
    have hlt : i < xs.length := by omega
    obtain ⟨x1, hx1⟩ : ∃ x, x = xs[i] := ⟨_, rfl⟩
    have hm1 : x1 ∈ xs := hx1 ▸ List.getElem_mem _
    refine Sx.C.open (r := rInt) (pre := mkAll rInt k (xs.take i)) (x := x1) (post := xs.drop (i + 1)) (by rw [hx1, ← Kit.drop_step hlt]) (by decide) (fun b off es F1 Fi F2 eA eF hes hm hmc => ?_)
    subst eA eF
    refine Sx.C.know (p := es = [.int .i64 x1] ∧ Fi = []) (fun w S => Kit.own_Int (St.at_ S 1 rfl).1) ?_
    rintro ⟨rfl, rfl⟩
    refine Sx.C.block ?_
    refine Sx.C.seq ?_
    refine Sx.C.region ?_
    refine Sx.G.pure (.slice (some ⟨b, off, none⟩) xs.length c) (by kernel_rfl) (fun w => by kernel_rfl) ?_
    refine Sx.G.pure (.int .i64 (i : Int)) (by kernel_rfl) (fun w => by kernel_rfl) ?_
    refine Sx.G.pure (.int .i64 ((q : Nat) : Int)) (by kernel_rfl) (fun w => by kernel_rfl) ?_
    refine Sx.G.elem 26 3 (.tmp 12) (.tmp 13) 1 8 b off xs.length c i rfl (by kernel_rfl) (by kernel_rfl) (by kernel_rfl) (by kernel_rfl) (by omega) ?_
    refine Sx.G.hsto (k := i) (size := 1) 3 (.tmp 15) (.tmp 14) b ((off + i * 1) + 0) 0 0 [.int .i64 ((q : Nat) : Int)] [.int .i64 ((q : Nat) : Int)] (Sx.hole rInt b off lo hi (mkAll rInt k (xs.take i)) (xs.drop (i + 1)) [.int .i64 ((q : Nat) : Int)] F1 F2 :: ow rInt lo hi x1 [.int .i64 x1] [] :: R) rfl (by kernel_rfl) (by kernel_rfl) (by kernel_rfl) rfl (by rw [Kit.mk_len, List.length_take]; omega) rfl rfl rfl rfl (by kernel_rfl) (by kernel_rfl) (by kernel_rfl) ?_
    refine Sx.G.nil ?_
    refine Sx.E.next ?_
    refine Sx.C.region ?_
    refine Sx.G.pure (.int .i64 ((q : Nat) : Int)) (by kernel_rfl) (fun w => by kernel_rfl) ?_
    refine Sx.G.pureq (.int .i64 (IntKind.i64.wrap (((q : Nat) : Int) + 1))) (.int .i64 ((q + 1 : Nat) : Int)) (by kernel_rfl) (fun w => by kernel_rfl) (congrArg (Value.int .i64) (Sx.wrap_up q (by omega))) ?_
    refine Sx.G.pure (.int .i64 ((q + 1 : Nat) : Int)) (by kernel_rfl) (fun w => by kernel_rfl) ?_
    refine Sx.G.nil ?_
    refine Sx.E.block_normal ?_
    refine Sx.E.next ?_
    refine Sx.C.region ?_
    refine Sx.G.pure (.int .i64 (i : Int)) (by kernel_rfl) (fun w => by kernel_rfl) ?_
    refine Sx.G.pureq (.int .i64 (IntKind.i64.wrap ((i : Int) + 1))) (.int .i64 ((i + 1 : Nat) : Int)) (by kernel_rfl) (fun w => by kernel_rfl) (congrArg (Value.int .i64) (Sx.wrap_up i (by omega))) ?_
    refine Sx.G.pure (.int .i64 ((i + 1 : Nat) : Int)) (by kernel_rfl) (fun w => by kernel_rfl) ?_
    refine Sx.G.nil ?_
    exact Sx.E.again (i + 1, (q + 1 : Nat)) (by refine ⟨by omega, ?_⟩; show _ = k + cntAll rInt (xs.take (i + 1)); rw [Kit.cnt_step hlt, ← hx1, hq]; rfl) (show xs.length - (i + 1) < xs.length - i by omega) (fun a hA => (Sx.Ag.and hA (Sx.Ag.and hA (Sx.Ag.and hA (Sx.Ag.and hA (Sx.Ag.none hA) _ _ (by kernel_rfl)) _ _ (by kernel_rfl)) _ _ (by kernel_rfl)) _ _ (by kernel_rfl))) (fun w S => by
      have S := Sx.St.flat S 1 rfl (rInt.mark q x1) [.int .i64 ((q : Nat) : Int)] (fun w => Kit.own_mk_Int w lo hi (rInt.mark q x1))
      have S3 := Sx.St.close S (by decide) xs.length c (by simp [Kit.mk_len, List.length_take, List.length_drop]; omega) hmc
      rw [hq, hx1, Kit.mk_step k hlt] at S3
      exact S3
      )
theorem kmk_IntS {w0 w : World} {lo hi : Nat} {L : List Res} (xs : (List Int)) (A : Option Addr) (c k : Nat) (F : List Nat) (hc : (rLsw rInt).cap xs) (hk : k + cntAll rInt xs ≤ 1000000000000) (S : St w0 w L) (i : Nat) (hi' : L[i]? = some (ow (rLsw rInt) lo hi xs [.slice A xs.length c] F)) : Calls Try.prog 48 #[.slice A xs.length c, .int .i64 ((k : Nat) : Int)] w fun e w' => e = .returned (.int .i64 ((k + cntAll rInt xs : Nat) : Int)) ∧ St w0 w' (L.set i (ow (rLsw rInt) lo hi (mkAll rInt k xs) [.slice A xs.length c] F)) :=
  anywhere (fun R S => kmk0_IntS xs A c k F hc hk S) S i hi'
set_option maxRecDepth 100000 in
set_option maxHeartbeats 4000000 in
theorem keq_SlotS (xs : (List (Int × Int))) (A : Option Addr) (c : Nat) (B : Option Addr) (d : Nat) (w : World) (hc : (rLsw (rPair rInt rInt)).cap xs) (h : rdLst (rPair rInt rInt) w 0 w.heap.size xs [.slice A xs.length c]) (j : rdLst (rPair rInt rInt) w 0 w.heap.size xs [.slice B xs.length d]) : Calls Try.prog 70 #[.slice A xs.length c, .slice B xs.length d] w (fun e w' => e = .returned (.bool true) ∧ Below w.heap.size w w') := by
  obtain ⟨hl, hce⟩ := hc
  refine Sx.enter (args := [.slice A xs.length c, .slice B xs.length d]) Try.func70 rfl Try.ntmps70 rfl ?_
  refine Sx.C.seq ?_
  refine Sx.C.region ?_
  refine Sx.G.pure (.bool false) (by kernel_rfl) (fun w => by kernel_rfl) ?_
  refine Sx.G.nil ?_
  refine Sx.E.next ?_
  refine Sx.C.seq ?_
  refine Sx.C.seq ?_
  refine Sx.C.region ?_
  refine Sx.G.pure (.slice A xs.length c) (by kernel_rfl) (fun w => by kernel_rfl) ?_
  refine Sx.G.pure (.int .i64 ((xs.length : Nat) : Int)) (by kernel_rfl) (fun w => by kernel_rfl) ?_
  refine Sx.G.pure (.slice B xs.length d) (by kernel_rfl) (fun w => by kernel_rfl) ?_
  refine Sx.G.pure (.int .i64 ((xs.length : Nat) : Int)) (by kernel_rfl) (fun w => by kernel_rfl) ?_
  refine Sx.G.pureq (.bool (((xs.length : Nat) : Int) != ((xs.length : Nat) : Int))) (.bool false) (by kernel_rfl) (fun w => by kernel_rfl) (congrArg Value.bool (bne_self_eq_false _)) ?_
  refine Sx.G.nil ?_
  refine Sx.E.next ?_
  refine Sx.C.no (by kernel_rfl) (by kernel_rfl) ?_
  refine Sx.C.skip ?_
  refine Sx.E.next ?_
  refine Sx.C.seq ?_
  refine Sx.C.seq ?_
  refine Sx.C.region ?_
  refine Sx.G.pure (.int .i64 0) (by kernel_rfl) (fun w => by kernel_rfl) ?_
  refine Sx.G.nil ?_
  refine Sx.E.next ?_
  refine Sx.C.block ?_
  refine Sx.C.loop (α := Nat) (fun i => i ≤ xs.length) (fun i => [(5, .int .i64 (i : Int)), (0, .slice A xs.length c), (1, .slice B xs.length d), (4, .bool false)]) (fun i => []) (fun i => xs.length - i) 0 (Nat.zero_le _) (fun a hA => (Sx.Ag.and hA (Sx.Ag.and hA (Sx.Ag.and hA (Sx.Ag.and hA (Sx.Ag.none hA) _ _ (by kernel_rfl)) _ _ (by kernel_rfl)) _ _ (by kernel_rfl)) _ _ (by kernel_rfl))) (fun w S => S) (fun i hx => ?_)
  refine Sx.C.seq ?_
  refine Sx.C.seq ?_
  refine Sx.C.region ?_
  refine Sx.G.pure (.int .i64 (i : Int)) (by kernel_rfl) (fun w => by kernel_rfl) ?_
  refine Sx.G.pure (.slice A xs.length c) (by kernel_rfl) (fun w => by kernel_rfl) ?_
  refine Sx.G.pure (.int .i64 ((xs.length : Nat) : Int)) (by kernel_rfl) (fun w => by kernel_rfl) ?_
  refine Sx.G.pure (.bool (decide ((i : Int) < ((xs.length : Nat) : Int)))) (by kernel_rfl) (fun w => by kernel_rfl) ?_
  refine Sx.G.nil ?_
  refine Sx.E.next ?_
  cases hc1 : (decide ((i : Int) < ((xs.length : Nat) : Int)))
  · have hb1 := hc1
    replace hc1 := of_decide_eq_false hc1
    refine Sx.C.no (by kernel_rfl) (by kernel_rfl) ?_
    refine Sx.C.exit ?_
    refine Sx.E.then_exit ?_
    refine Sx.E.then_exit ?_
    refine Sx.E.block_hit ?_
    refine Sx.E.next ?_
    refine Sx.C.seq ?_
    refine Sx.C.region ?_
    refine Sx.G.pure (.bool true) (by kernel_rfl) (fun w => by kernel_rfl) ?_
    refine Sx.G.nil ?_
    refine Sx.E.next ?_
    refine Sx.C.ret ?_
    refine Sx.E.ret1 (.bool true) rfl (by kernel_rfl) (fun w S => ?_)
    exact ⟨rfl, S.below⟩
  · have hb1 := hc1
    replace hc1 := of_decide_eq_true hc1
    refine Sx.C.yes (by kernel_rfl) (by kernel_rfl) ?_
    refine Sx.C.skip ?_
    refine Sx.E.next ?_
    refine Sx.C.seq ?_
    refine Sx.C.block ?_
    refine Sx.C.seq ?_
    refine Sx.C.draw (.take 0 (.take 1 (.take 2 (.take 3 (.take 4 (.take 5 (.take 6 (.take 7 (.alone 8 (.take 9 .nil)))))))))) [] (fun w S => St.pick S [] _ rfl (by decide)) (by kernel_rfl) (by kernel_rfl) (by kernel_rfl) ?_
    refine Sx.GT.pure (.slice A xs.length c) 0 (by rfl) (by kernel_rfl) (fun w => by kernel_rfl) ?_
    refine Sx.GT.pure (.int .i64 (i : Int)) 1 (by rfl) (by kernel_rfl) (fun w => by kernel_rfl) ?_
    obtain ⟨b2, f2, es2, eA2, hr2, hl2, hm2⟩ := Sx.old_elem (by decide) h i (by omega)
    subst eA2
    obtain ⟨x2, hx2⟩ : ∃ z_, z_ = (xs[i]'(by omega)) := ⟨_, rfl⟩
    rw [← hx2] at hr2
    obtain rfl := Kit.rd_Slot hr2
    refine Sx.GT.elem 45 129 (.tmp 17) (.tmp 18) 2 16 b2 f2 xs.length c i 2 (by rfl) (by rfl) (by kernel_rfl) (by kernel_rfl) (by kernel_rfl) (by kernel_rfl) (by omega) ?_
    refine Sx.GT.ldr 129 (.tmp 19) b2 (f2 + i * 2) [.int .i64 x2.1, .int .i64 x2.2] 3 (by rfl) (by rfl) (by kernel_rfl) (by kernel_rfl) (fun w S => hm2 w _ S) (by kernel_rfl) (by kernel_rfl) ?_
    refine Sx.GT.pure (.slice B xs.length d) 4 (by rfl) (by kernel_rfl) (fun w => by kernel_rfl) ?_
    refine Sx.GT.pure (.int .i64 (i : Int)) 5 (by rfl) (by kernel_rfl) (fun w => by kernel_rfl) ?_
    obtain ⟨b3, f3, es3, eA3, hr3, hl3, hm3⟩ := Sx.old_elem (by decide) j i (by omega)
    subst eA3
    rw [← hx2] at hr3
    obtain rfl := Kit.rd_Slot hr3
    refine Sx.GT.elem 45 129 (.tmp 21) (.tmp 22) 2 16 b3 f3 xs.length d i 6 (by rfl) (by rfl) (by kernel_rfl) (by kernel_rfl) (by kernel_rfl) (by kernel_rfl) (by omega) ?_
    refine Sx.GT.ldr 129 (.tmp 23) b3 (f3 + i * 2) [.int .i64 x2.1, .int .i64 x2.2] 7 (by rfl) (by rfl) (by kernel_rfl) (by kernel_rfl) (fun w S => hm3 w _ S) (by kernel_rfl) (by kernel_rfl) ?_
    refine Sx.GT.alone (Sx.Alone.plain 109 #[.agg #[.int .i64 x2.1, .int .i64 x2.2], .agg #[.int .i64 x2.1, .int .i64 x2.2]] (.bool true) (by rfl) (by kernel_rfl) (fun w => by kernel_rfl) (fun w S => by exact Kit.keq_Slot x2 _) (fun w S => St.pick S [] _ rfl (by decide)) ?_)
    refine Sx.GT.pure (.bool false) 9 (by rfl) (by kernel_rfl) (fun w => by kernel_rfl) ?_
    refine Sx.GT.nil ?_
    refine Sx.E.next ?_
    refine Sx.C.no (by kernel_rfl) (by kernel_rfl) ?_
    refine Sx.C.skip ?_
    refine Sx.E.block_normal ?_
    refine Sx.E.next ?_
    refine Sx.C.region ?_
    refine Sx.G.pure (.int .i64 (i : Int)) (by kernel_rfl) (fun w => by kernel_rfl) ?_
    refine Sx.G.pureq (.int .i64 (IntKind.i64.wrap ((i : Int) + 1))) (.int .i64 ((i + 1 : Nat) : Int)) (by kernel_rfl) (fun w => by kernel_rfl) (congrArg (Value.int .i64) (Sx.wrap_up i (by omega))) ?_
    refine Sx.G.pure (.int .i64 ((i + 1 : Nat) : Int)) (by kernel_rfl) (fun w => by kernel_rfl) ?_
    refine Sx.G.nil ?_
    exact Sx.E.again (i + 1) (by omega) (by omega) (fun a hA => (Sx.Ag.and hA (Sx.Ag.and hA (Sx.Ag.and hA (Sx.Ag.and hA (Sx.Ag.none hA) _ _ (by kernel_rfl)) _ _ (by kernel_rfl)) _ _ (by kernel_rfl)) _ _ (by kernel_rfl))) (fun w S => S)
set_option maxRecDepth 100000 in
set_option maxHeartbeats 4000000 in
theorem khd_SlotS (xs : (List (Int × Int))) (A : Option Addr) (c k : Nat) (w : World) (hc : (rLsw (rPair rInt rInt)).cap xs) (hk : k + cntAll (rPair rInt rInt) xs ≤ 1000000000000) (h : rdLst (rPair rInt rInt) w 0 w.heap.size (mkAll (rPair rInt rInt) k xs) [.slice A xs.length c]) : Calls Try.prog 75 #[.slice A xs.length c, .int .i64 ((k : Nat) : Int)] w (fun e w' => e = .returned (.int .i64 ((k + cntAll (rPair rInt rInt) xs : Nat) : Int)) ∧ Below w.heap.size w w') := by
  obtain ⟨hl, hce⟩ := hc
  have hml := Kit.mk_len (rPair rInt rInt) k xs
  refine Sx.enter (args := [.slice A xs.length c, .int .i64 ((k : Nat) : Int)]) Try.func75 rfl Try.ntmps75 rfl ?_
  refine Sx.C.seq ?_
  refine Sx.C.region ?_
  refine Sx.G.pure (.int .i64 0) (by kernel_rfl) (fun w => by kernel_rfl) ?_
  refine Sx.G.nil ?_
  refine Sx.E.next ?_
  refine Sx.C.seq ?_
  refine Sx.C.seq ?_
  refine Sx.C.region ?_
  refine Sx.G.pure (.int .i64 0) (by kernel_rfl) (fun w => by kernel_rfl) ?_
  refine Sx.G.nil ?_
  refine Sx.E.next ?_
  refine Sx.C.block ?_
  refine Sx.C.loop (α := Nat × Nat) (fun x => x.1 ≤ xs.length ∧ x.2 = k + cntAll (rPair rInt rInt) (xs.take x.1)) (fun x => [(5, .int .i64 (x.1 : Int)), (1, .int .i64 ((x.2 : Nat) : Int)), (0, .slice A xs.length c), (4, .int .i64 0)]) (fun x => []) (fun x => xs.length - x.1) (0, k) (by refine ⟨Nat.zero_le _, ?_⟩; simp [cntAll]) (fun a hA => (Sx.Ag.and hA (Sx.Ag.and hA (Sx.Ag.and hA (Sx.Ag.and hA (Sx.Ag.none hA) _ _ (by kernel_rfl)) _ _ (by kernel_rfl)) _ _ (by kernel_rfl)) _ _ (by kernel_rfl))) (fun w S => S) (fun x hx => ?_)
  obtain ⟨i, q⟩ := x
  dsimp only at hx
  obtain ⟨hi, hq⟩ := hx
  have hqm := Kit.cnt_le (r := (rPair rInt rInt)) (xs := xs) i
  refine Sx.C.seq ?_
  refine Sx.C.seq ?_
  refine Sx.C.region ?_
  refine Sx.G.pure (.int .i64 (i : Int)) (by kernel_rfl) (fun w => by kernel_rfl) ?_
  refine Sx.G.pure (.slice A xs.length c) (by kernel_rfl) (fun w => by kernel_rfl) ?_
  refine Sx.G.pure (.int .i64 ((xs.length : Nat) : Int)) (by kernel_rfl) (fun w => by kernel_rfl) ?_
  refine Sx.G.pure (.bool (decide ((i : Int) < ((xs.length : Nat) : Int)))) (by kernel_rfl) (fun w => by kernel_rfl) ?_
  refine Sx.G.nil ?_
  refine Sx.E.next ?_
  cases hc1 : (decide ((i : Int) < ((xs.length : Nat) : Int)))
  · have hb1 := hc1
    replace hc1 := of_decide_eq_false hc1
    refine Sx.C.no (by kernel_rfl) (by kernel_rfl) ?_
    refine Sx.C.exit ?_
    refine Sx.E.then_exit ?_
    refine Sx.E.then_exit ?_
    refine Sx.E.block_hit ?_
    refine Sx.E.next ?_
    refine Sx.C.seq ?_
    refine Sx.C.region ?_
    refine Sx.G.pure (.int .i64 ((q : Nat) : Int)) (by kernel_rfl) (fun w => by kernel_rfl) ?_
    refine Sx.G.pure (.int .i64 ((q : Nat) : Int)) (by kernel_rfl) (fun w => by kernel_rfl) ?_
    refine Sx.G.nil ?_
    refine Sx.E.next ?_
    refine Sx.C.ret ?_
    refine Sx.E.ret1 (.int .i64 ((q : Nat) : Int)) rfl (by kernel_rfl) (fun w S => ?_)
    have h2' : xs.take i = xs := List.take_of_length_le (by omega)
    rw [h2'] at hq
    subst hq
    exact ⟨rfl, S.below⟩
  · have hb1 := hc1
    replace hc1 := of_decide_eq_true hc1
    refine Sx.C.yes (by kernel_rfl) (by kernel_rfl) ?_
    refine Sx.C.skip ?_
    refine Sx.E.next ?_
    refine Sx.C.seq ?_
    refine Sx.C.block ?_
    refine Sx.C.seq ?_
    refine Sx.C.seq ?_
    refine Sx.C.region ?_
    refine Sx.G.pure (.slice A xs.length c) (by kernel_rfl) (fun w => by kernel_rfl) ?_
    refine Sx.G.pure (.int .i64 (i : Int)) (by kernel_rfl) (fun w => by kernel_rfl) ?_
    obtain ⟨b2, f2, es2, eA2, hr2, hl2, hm2⟩ := Sx.old_elem (by decide) h i (by omega)
    subst eA2
    obtain ⟨x2, hx2⟩ : ∃ x, x = (xs[i]'(by omega)) := ⟨_, rfl⟩
    rw [Kit.mk_get k (show i < xs.length by omega), ← hq, ← hx2] at hr2
    obtain rfl := Kit.rd_Slot hr2
    refine Sx.G.elem 45 129 (.tmp 12) (.tmp 13) 2 16 b2 f2 xs.length c i rfl (by kernel_rfl) (by kernel_rfl) (by kernel_rfl) (by kernel_rfl) (by omega) ?_
    refine Sx.G.pure (.pointer (some ⟨b2, (f2 + i * 2), none⟩)) (by kernel_rfl) (fun w => by kernel_rfl) ?_
    refine Sx.G.ldr1 3 (.tmp 15) b2 ((f2 + i * 2) + 0) (.int .i64 ((q : Nat) : Int)) rfl (by kernel_rfl) (by kernel_rfl) (fun w S => hm2 w _ S 0 _ rfl) (by kernel_rfl) ?_
    refine Sx.G.pure (.int .i64 ((q : Nat) : Int)) (by kernel_rfl) (fun w => by kernel_rfl) ?_
    refine Sx.G.pureq (.bool (((q : Nat) : Int) != ((q : Nat) : Int))) (.bool false) (by kernel_rfl) (fun w => by kernel_rfl) (congrArg Value.bool (bne_self_eq_false _)) ?_
    refine Sx.G.nil ?_
    refine Sx.E.next ?_
    refine Sx.C.no (by kernel_rfl) (by kernel_rfl) ?_
    refine Sx.C.skip ?_
    refine Sx.E.next ?_
    refine Sx.C.seq ?_
    refine Sx.C.region ?_
    refine Sx.G.pure (.int .i64 ((q : Nat) : Int)) (by kernel_rfl) (fun w => by kernel_rfl) ?_
    refine Sx.G.pureq (.int .i64 (IntKind.i64.wrap (((q : Nat) : Int) + 1))) (.int .i64 ((q + 1 : Nat) : Int)) (by kernel_rfl) (fun w => by kernel_rfl) (congrArg (Value.int .i64) (Sx.wrap_up q (by omega))) ?_
    refine Sx.G.pure (.int .i64 ((q + 1 : Nat) : Int)) (by kernel_rfl) (fun w => by kernel_rfl) ?_
    refine Sx.G.nil ?_
    refine Sx.E.next ?_
    refine Sx.C.seq ?_
    refine Sx.C.seq ?_
    refine Sx.C.region ?_
    refine Sx.G.pure (.slice (some ⟨b2, f2, none⟩) xs.length c) (by kernel_rfl) (fun w => by kernel_rfl) ?_
    refine Sx.G.pure (.int .i64 (i : Int)) (by kernel_rfl) (fun w => by kernel_rfl) ?_
    refine Sx.G.elem 45 129 (.tmp 21) (.tmp 22) 2 16 b2 f2 xs.length c i rfl (by kernel_rfl) (by kernel_rfl) (by kernel_rfl) (by kernel_rfl) (by omega) ?_
    refine Sx.G.pure (.pointer (some ⟨b2, (f2 + i * 2) + 1, none⟩)) (by kernel_rfl) (fun w => by kernel_rfl) ?_
    refine Sx.G.ldr1 3 (.tmp 24) b2 ((f2 + i * 2) + 1) (.int .i64 ((q + 1 : Nat) : Int)) rfl (by kernel_rfl) (by kernel_rfl) (fun w S => hm2 w _ S 1 _ rfl) (by kernel_rfl) ?_
    refine Sx.G.pure (.int .i64 ((q + 1 : Nat) : Int)) (by kernel_rfl) (fun w => by kernel_rfl) ?_
    refine Sx.G.pureq (.bool (((q + 1 : Nat) : Int) != ((q + 1 : Nat) : Int))) (.bool false) (by kernel_rfl) (fun w => by kernel_rfl) (congrArg Value.bool (bne_self_eq_false _)) ?_
    refine Sx.G.nil ?_
    refine Sx.E.next ?_
    refine Sx.C.no (by kernel_rfl) (by kernel_rfl) ?_
    refine Sx.C.skip ?_
    refine Sx.E.next ?_
    refine Sx.C.region ?_
    refine Sx.G.pure (.int .i64 ((q + 1 : Nat) : Int)) (by kernel_rfl) (fun w => by kernel_rfl) ?_
    refine Sx.G.pureq (.int .i64 (IntKind.i64.wrap (((q + 1 : Nat) : Int) + 1))) (.int .i64 ((q + 2 : Nat) : Int)) (by kernel_rfl) (fun w => by kernel_rfl) (congrArg (Value.int .i64) (Sx.wrap_up (q + 1) (by omega))) ?_
    refine Sx.G.pure (.int .i64 ((q + 2 : Nat) : Int)) (by kernel_rfl) (fun w => by kernel_rfl) ?_
    refine Sx.G.nil ?_
    refine Sx.E.block_normal ?_
    refine Sx.E.next ?_
    refine Sx.C.region ?_
    refine Sx.G.pure (.int .i64 (i : Int)) (by kernel_rfl) (fun w => by kernel_rfl) ?_
    refine Sx.G.pureq (.int .i64 (IntKind.i64.wrap ((i : Int) + 1))) (.int .i64 ((i + 1 : Nat) : Int)) (by kernel_rfl) (fun w => by kernel_rfl) (congrArg (Value.int .i64) (Sx.wrap_up i (by omega))) ?_
    refine Sx.G.pure (.int .i64 ((i + 1 : Nat) : Int)) (by kernel_rfl) (fun w => by kernel_rfl) ?_
    refine Sx.G.nil ?_
    have hst := Kit.cnt_step (r := (rPair rInt rInt)) (show i < xs.length by omega)
    rw [← hx2] at hst
    exact Sx.E.again (i + 1, (q + 2 : Nat)) (by refine ⟨by omega, ?_⟩; show _ = k + cntAll (rPair rInt rInt) (xs.take (i + 1)); rw [hst, hq]; rfl) (show xs.length - (i + 1) < xs.length - i by omega) (fun a hA => (Sx.Ag.and hA (Sx.Ag.and hA (Sx.Ag.and hA (Sx.Ag.and hA (Sx.Ag.none hA) _ _ (by kernel_rfl)) _ _ (by kernel_rfl)) _ _ (by kernel_rfl)) _ _ (by kernel_rfl))) (fun w S => S)
set_option maxRecDepth 100000 in
set_option maxHeartbeats 4000000 in
theorem kmk0_SlotS {w0 w : World} {lo hi : Nat} {R : List Res} (xs : (List (Int × Int))) (A : Option Addr) (c k : Nat) (F : List Nat) (hc : (rLsw (rPair rInt rInt)).cap xs) (hk : k + cntAll (rPair rInt rInt) xs ≤ 1000000000000) (S : St w0 w (ow (rLsw (rPair rInt rInt)) lo hi xs [.slice A xs.length c] F :: R)) : Calls Try.prog 73 #[.slice A xs.length c, .int .i64 ((k : Nat) : Int)] w fun e w' => e = .returned (.int .i64 ((k + cntAll (rPair rInt rInt) xs : Nat) : Int)) ∧ St w0 w' (ow (rLsw (rPair rInt rInt)) lo hi (mkAll (rPair rInt rInt) k xs) [.slice A xs.length c] F :: R) := by
  obtain ⟨hl, hce⟩ := hc
  refine Sx.enterS (args := [.slice A xs.length c, .int .i64 ((k : Nat) : Int)]) S Try.func73 rfl Try.ntmps73 rfl ?_
  refine Sx.C.seq ?_
  refine Sx.C.region ?_
  refine Sx.G.pure (.int .i64 0) (by kernel_rfl) (fun w => by kernel_rfl) ?_
  refine Sx.G.nil ?_
  refine Sx.E.next ?_
  refine Sx.C.seq ?_
  refine Sx.C.seq ?_
  refine Sx.C.region ?_
  refine Sx.G.pure (.int .i64 0) (by kernel_rfl) (fun w => by kernel_rfl) ?_
  refine Sx.G.nil ?_
  refine Sx.E.next ?_
  refine Sx.C.block ?_
  refine Sx.C.loop (α := Nat × Nat) (fun x => x.1 ≤ xs.length ∧ x.2 = k + cntAll (rPair rInt rInt) (xs.take x.1)) (fun x => [(5, .int .i64 (x.1 : Int)), (1, .int .i64 ((x.2 : Nat) : Int)), (0, .slice A xs.length c), (4, .int .i64 0)]) (fun x => (ow (rLsw (rPair rInt rInt)) lo hi (mkAll (rPair rInt rInt) k (xs.take x.1) ++ xs.drop x.1) [.slice A xs.length c] F :: R)) (fun x => xs.length - x.1) (0, k) (by refine ⟨Nat.zero_le _, ?_⟩; simp [cntAll]) (fun a hA => (Sx.Ag.and hA (Sx.Ag.and hA (Sx.Ag.and hA (Sx.Ag.and hA (Sx.Ag.none hA) _ _ (by kernel_rfl)) _ _ (by kernel_rfl)) _ _ (by kernel_rfl)) _ _ (by kernel_rfl))) (fun w S => S) (fun x hx => ?_)
  obtain ⟨i, q⟩ := x
  dsimp only at hx
  obtain ⟨hi', hq⟩ := hx
  have hqm := Kit.cnt_le (r := (rPair rInt rInt)) (xs := xs) i
  refine Sx.C.seq ?_
  refine Sx.C.seq ?_
  refine Sx.C.region ?_
  refine Sx.G.pure (.int .i64 (i : Int)) (by kernel_rfl) (fun w => by kernel_rfl) ?_
  refine Sx.G.pure (.slice A xs.length c) (by kernel_rfl) (fun w => by kernel_rfl) ?_
  refine Sx.G.pure (.int .i64 ((xs.length : Nat) : Int)) (by kernel_rfl) (fun w => by kernel_rfl) ?_
  refine Sx.G.pure (.bool (decide ((i : Int) < ((xs.length : Nat) : Int)))) (by kernel_rfl) (fun w => by kernel_rfl) ?_
  refine Sx.G.nil ?_
  refine Sx.E.next ?_
  cases hc1 : (decide ((i : Int) < ((xs.length : Nat) : Int)))
  · have hb1 := hc1
    replace hc1 := of_decide_eq_false hc1
    refine Sx.C.no (by kernel_rfl) (by kernel_rfl) ?_
    refine Sx.C.exit ?_
    refine Sx.E.then_exit ?_
    refine Sx.E.then_exit ?_
    refine Sx.E.block_hit ?_
    refine Sx.E.next ?_
    refine Sx.C.seq ?_
    refine Sx.C.region ?_
    refine Sx.G.pure (.int .i64 ((q : Nat) : Int)) (by kernel_rfl) (fun w => by kernel_rfl) ?_
    refine Sx.G.pure (.int .i64 ((q : Nat) : Int)) (by kernel_rfl) (fun w => by kernel_rfl) ?_
    refine Sx.G.nil ?_
    refine Sx.E.next ?_
    refine Sx.C.ret ?_
    refine Sx.E.ret1 (.int .i64 ((q : Nat) : Int)) rfl (by kernel_rfl) (fun w S => ?_)
    have h2' : xs.take i = xs := List.take_of_length_le (by omega)
    have h3' : xs.drop i = [] := List.drop_of_length_le (by omega)
    rw [h2'] at hq
    rw [h2', h3', List.append_nil] at S
    subst hq
    exact ⟨rfl, S⟩
  · have hb1 := hc1
    replace hc1 := of_decide_eq_true hc1
    refine Sx.C.yes (by kernel_rfl) (by kernel_rfl) ?_
    refine Sx.C.skip ?_
    refine Sx.E.next ?_
    refine Sx.C.seq ?_
    have hlt : i < xs.length := by omega
    obtain ⟨x1, hx1⟩ : ∃ x, x = xs[i] := ⟨_, rfl⟩
    have hm1 : x1 ∈ xs := hx1 ▸ List.getElem_mem _
    refine Sx.C.open (r := (rPair rInt rInt)) (pre := mkAll (rPair rInt rInt) k (xs.take i)) (x := x1) (post := xs.drop (i + 1)) (by rw [hx1, ← Kit.drop_step hlt]) (by decide) (fun b off es F1 Fi F2 eA eF hes hm hmc => ?_)
    subst eA eF
    refine Sx.C.know (p := es = [.int .i64 x1.1, .int .i64 x1.2] ∧ Fi = []) (fun w S => Kit.own_Slot (St.at_ S 1 rfl).1) ?_
    rintro ⟨rfl, rfl⟩
    refine Sx.C.block ?_
    refine Sx.C.seq ?_
    refine Sx.C.region ?_
    refine Sx.G.pure (.slice (some ⟨b, off, none⟩) xs.length c) (by kernel_rfl) (fun w => by kernel_rfl) ?_
    refine Sx.G.pure (.int .i64 (i : Int)) (by kernel_rfl) (fun w => by kernel_rfl) ?_
    refine Sx.G.pure (.int .i64 ((q : Nat) : Int)) (by kernel_rfl) (fun w => by kernel_rfl) ?_
    refine Sx.G.elem 45 129 (.tmp 12) (.tmp 13) 2 16 b off xs.length c i rfl (by kernel_rfl) (by kernel_rfl) (by kernel_rfl) (by kernel_rfl) (by omega) ?_
    refine Sx.G.pure (.pointer (some ⟨b, (off + i * 2), none⟩)) (by kernel_rfl) (fun w => by kernel_rfl) ?_
    refine Sx.G.hsto (k := i) (size := 2) 3 (.tmp 16) (.tmp 14) b ((off + i * 2) + 0) 0 0 [.int .i64 ((q : Nat) : Int)] [.int .i64 ((q : Nat) : Int), .int .i64 x1.2] (Sx.hole (rPair rInt rInt) b off lo hi (mkAll (rPair rInt rInt) k (xs.take i)) (xs.drop (i + 1)) [.int .i64 ((q : Nat) : Int), .int .i64 x1.2] F1 F2 :: ow (rPair rInt rInt) lo hi x1 [.int .i64 x1.1, .int .i64 x1.2] [] :: R) rfl (by kernel_rfl) (by kernel_rfl) (by kernel_rfl) rfl (by rw [Kit.mk_len, List.length_take]; omega) rfl rfl rfl rfl (by kernel_rfl) (by kernel_rfl) (by kernel_rfl) ?_
    refine Sx.G.nil ?_
    refine Sx.E.next ?_
    refine Sx.C.seq ?_
    refine Sx.C.region ?_
    refine Sx.G.pure (.int .i64 ((q : Nat) : Int)) (by kernel_rfl) (fun w => by kernel_rfl) ?_
    refine Sx.G.pureq (.int .i64 (IntKind.i64.wrap (((q : Nat) : Int) + 1))) (.int .i64 ((q + 1 : Nat) : Int)) (by kernel_rfl) (fun w => by kernel_rfl) (congrArg (Value.int .i64) (Sx.wrap_up q (by omega))) ?_
    refine Sx.G.pure (.int .i64 ((q + 1 : Nat) : Int)) (by kernel_rfl) (fun w => by kernel_rfl) ?_
    refine Sx.G.nil ?_
    refine Sx.E.next ?_
    refine Sx.C.seq ?_
    refine Sx.C.region ?_
    refine Sx.G.pure (.slice (some ⟨b, off, none⟩) xs.length c) (by kernel_rfl) (fun w => by kernel_rfl) ?_
    refine Sx.G.pure (.int .i64 (i : Int)) (by kernel_rfl) (fun w => by kernel_rfl) ?_
    refine Sx.G.pure (.int .i64 ((q + 1 : Nat) : Int)) (by kernel_rfl) (fun w => by kernel_rfl) ?_
    refine Sx.G.elem 45 129 (.tmp 19) (.tmp 20) 2 16 b off xs.length c i rfl (by kernel_rfl) (by kernel_rfl) (by kernel_rfl) (by kernel_rfl) (by omega) ?_
    refine Sx.G.pure (.pointer (some ⟨b, (off + i * 2) + 1, none⟩)) (by kernel_rfl) (fun w => by kernel_rfl) ?_
    refine Sx.G.hsto (k := i) (size := 2) 3 (.tmp 23) (.tmp 21) b ((off + i * 2) + 1) 1 0 [.int .i64 ((q + 1 : Nat) : Int)] [.int .i64 ((q : Nat) : Int), .int .i64 ((q + 1 : Nat) : Int)] (Sx.hole (rPair rInt rInt) b off lo hi (mkAll (rPair rInt rInt) k (xs.take i)) (xs.drop (i + 1)) [.int .i64 ((q : Nat) : Int), .int .i64 ((q + 1 : Nat) : Int)] F1 F2 :: ow (rPair rInt rInt) lo hi x1 [.int .i64 x1.1, .int .i64 x1.2] [] :: R) rfl (by kernel_rfl) (by kernel_rfl) (by kernel_rfl) rfl (by rw [Kit.mk_len, List.length_take]; omega) rfl rfl rfl rfl (by kernel_rfl) (by kernel_rfl) (by kernel_rfl) ?_
    refine Sx.G.nil ?_
    refine Sx.E.next ?_
    refine Sx.C.region ?_
    refine Sx.G.pure (.int .i64 ((q + 1 : Nat) : Int)) (by kernel_rfl) (fun w => by kernel_rfl) ?_
    refine Sx.G.pureq (.int .i64 (IntKind.i64.wrap (((q + 1 : Nat) : Int) + 1))) (.int .i64 ((q + 2 : Nat) : Int)) (by kernel_rfl) (fun w => by kernel_rfl) (congrArg (Value.int .i64) (Sx.wrap_up (q + 1) (by omega))) ?_
    refine Sx.G.pure (.int .i64 ((q + 2 : Nat) : Int)) (by kernel_rfl) (fun w => by kernel_rfl) ?_
    refine Sx.G.nil ?_
    refine Sx.E.block_normal ?_
    refine Sx.E.next ?_
    refine Sx.C.region ?_
    refine Sx.G.pure (.int .i64 (i : Int)) (by kernel_rfl) (fun w => by kernel_rfl) ?_
    refine Sx.G.pureq (.int .i64 (IntKind.i64.wrap ((i : Int) + 1))) (.int .i64 ((i + 1 : Nat) : Int)) (by kernel_rfl) (fun w => by kernel_rfl) (congrArg (Value.int .i64) (Sx.wrap_up i (by omega))) ?_
    refine Sx.G.pure (.int .i64 ((i + 1 : Nat) : Int)) (by kernel_rfl) (fun w => by kernel_rfl) ?_
    refine Sx.G.nil ?_
    exact Sx.E.again (i + 1, (q + 2 : Nat)) (by refine ⟨by omega, ?_⟩; show _ = k + cntAll (rPair rInt rInt) (xs.take (i + 1)); rw [Kit.cnt_step hlt, ← hx1, hq]; rfl) (show xs.length - (i + 1) < xs.length - i by omega) (fun a hA => (Sx.Ag.and hA (Sx.Ag.and hA (Sx.Ag.and hA (Sx.Ag.and hA (Sx.Ag.none hA) _ _ (by kernel_rfl)) _ _ (by kernel_rfl)) _ _ (by kernel_rfl)) _ _ (by kernel_rfl))) (fun w S => by
      have S := Sx.St.flat S 1 rfl ((rPair rInt rInt).mark q x1) [.int .i64 ((q : Nat) : Int), .int .i64 ((q + 1 : Nat) : Int)] (fun w => Kit.own_mk_Slot w lo hi ((rPair rInt rInt).mark q x1))
      have S3 := Sx.St.close S (by decide) xs.length c (by simp [Kit.mk_len, List.length_take, List.length_drop]; omega) hmc
      rw [hq, hx1, Kit.mk_step k hlt] at S3
      exact S3
      )
theorem kmk_SlotS {w0 w : World} {lo hi : Nat} {L : List Res} (xs : (List (Int × Int))) (A : Option Addr) (c k : Nat) (F : List Nat) (hc : (rLsw (rPair rInt rInt)).cap xs) (hk : k + cntAll (rPair rInt rInt) xs ≤ 1000000000000) (S : St w0 w L) (i : Nat) (hi' : L[i]? = some (ow (rLsw (rPair rInt rInt)) lo hi xs [.slice A xs.length c] F)) : Calls Try.prog 73 #[.slice A xs.length c, .int .i64 ((k : Nat) : Int)] w fun e w' => e = .returned (.int .i64 ((k + cntAll (rPair rInt rInt) xs : Nat) : Int)) ∧ St w0 w' (L.set i (ow (rLsw (rPair rInt rInt)) lo hi (mkAll (rPair rInt rInt) k xs) [.slice A xs.length c] F)) :=
  anywhere (fun R S => kmk0_SlotS xs A c k F hc hk S) S i hi'
set_option maxRecDepth 100000 in
set_option maxHeartbeats 4000000 in
theorem keq_InsS (xs : (List (Int × Int))) (A : Option Addr) (c : Nat) (B : Option Addr) (d : Nat) (w : World) (hc : (rLsw (rPair rInt rInt)).cap xs) (h : rdLst (rPair rInt rInt) w 0 w.heap.size xs [.slice A xs.length c]) (j : rdLst (rPair rInt rInt) w 0 w.heap.size xs [.slice B xs.length d]) : Calls Try.prog 44 #[.slice A xs.length c, .slice B xs.length d] w (fun e w' => e = .returned (.bool true) ∧ Below w.heap.size w w') := by
  obtain ⟨hl, hce⟩ := hc
  refine Sx.enter (args := [.slice A xs.length c, .slice B xs.length d]) Try.func44 rfl Try.ntmps44 rfl ?_
  refine Sx.C.seq ?_
  refine Sx.C.region ?_
  refine Sx.G.pure (.bool false) (by kernel_rfl) (fun w => by kernel_rfl) ?_
  refine Sx.G.nil ?_
  refine Sx.E.next ?_
  refine Sx.C.seq ?_
  refine Sx.C.seq ?_
  refine Sx.C.region ?_
  refine Sx.G.pure (.slice A xs.length c) (by kernel_rfl) (fun w => by kernel_rfl) ?_
  refine Sx.G.pure (.int .i64 ((xs.length : Nat) : Int)) (by kernel_rfl) (fun w => by kernel_rfl) ?_
  refine Sx.G.pure (.slice B xs.length d) (by kernel_rfl) (fun w => by kernel_rfl) ?_
  refine Sx.G.pure (.int .i64 ((xs.length : Nat) : Int)) (by kernel_rfl) (fun w => by kernel_rfl) ?_
  refine Sx.G.pureq (.bool (((xs.length : Nat) : Int) != ((xs.length : Nat) : Int))) (.bool false) (by kernel_rfl) (fun w => by kernel_rfl) (congrArg Value.bool (bne_self_eq_false _)) ?_
  refine Sx.G.nil ?_
  refine Sx.E.next ?_
  refine Sx.C.no (by kernel_rfl) (by kernel_rfl) ?_
  refine Sx.C.skip ?_
  refine Sx.E.next ?_
  refine Sx.C.seq ?_
  refine Sx.C.seq ?_
  refine Sx.C.region ?_
  refine Sx.G.pure (.int .i64 0) (by kernel_rfl) (fun w => by kernel_rfl) ?_
  refine Sx.G.nil ?_
  refine Sx.E.next ?_
  refine Sx.C.block ?_
  refine Sx.C.loop (α := Nat) (fun i => i ≤ xs.length) (fun i => [(5, .int .i64 (i : Int)), (0, .slice A xs.length c), (1, .slice B xs.length d), (4, .bool false)]) (fun i => []) (fun i => xs.length - i) 0 (Nat.zero_le _) (fun a hA => (Sx.Ag.and hA (Sx.Ag.and hA (Sx.Ag.and hA (Sx.Ag.and hA (Sx.Ag.none hA) _ _ (by kernel_rfl)) _ _ (by kernel_rfl)) _ _ (by kernel_rfl)) _ _ (by kernel_rfl))) (fun w S => S) (fun i hx => ?_)
  refine Sx.C.seq ?_
  refine Sx.C.seq ?_
  refine Sx.C.region ?_
  refine Sx.G.pure (.int .i64 (i : Int)) (by kernel_rfl) (fun w => by kernel_rfl) ?_
  refine Sx.G.pure (.slice A xs.length c) (by kernel_rfl) (fun w => by kernel_rfl) ?_
  refine Sx.G.pure (.int .i64 ((xs.length : Nat) : Int)) (by kernel_rfl) (fun w => by kernel_rfl) ?_
  refine Sx.G.pure (.bool (decide ((i : Int) < ((xs.length : Nat) : Int)))) (by kernel_rfl) (fun w => by kernel_rfl) ?_
  refine Sx.G.nil ?_
  refine Sx.E.next ?_
  cases hc1 : (decide ((i : Int) < ((xs.length : Nat) : Int)))
  · have hb1 := hc1
    replace hc1 := of_decide_eq_false hc1
    refine Sx.C.no (by kernel_rfl) (by kernel_rfl) ?_
    refine Sx.C.exit ?_
    refine Sx.E.then_exit ?_
    refine Sx.E.then_exit ?_
    refine Sx.E.block_hit ?_
    refine Sx.E.next ?_
    refine Sx.C.seq ?_
    refine Sx.C.region ?_
    refine Sx.G.pure (.bool true) (by kernel_rfl) (fun w => by kernel_rfl) ?_
    refine Sx.G.nil ?_
    refine Sx.E.next ?_
    refine Sx.C.ret ?_
    refine Sx.E.ret1 (.bool true) rfl (by kernel_rfl) (fun w S => ?_)
    exact ⟨rfl, S.below⟩
  · have hb1 := hc1
    replace hc1 := of_decide_eq_true hc1
    refine Sx.C.yes (by kernel_rfl) (by kernel_rfl) ?_
    refine Sx.C.skip ?_
    refine Sx.E.next ?_
    refine Sx.C.seq ?_
    refine Sx.C.block ?_
    refine Sx.C.seq ?_
    refine Sx.C.draw (.take 0 (.take 1 (.take 2 (.take 3 (.take 4 (.take 5 (.take 6 (.take 7 (.alone 8 (.take 9 .nil)))))))))) [] (fun w S => St.pick S [] _ rfl (by decide)) (by kernel_rfl) (by kernel_rfl) (by kernel_rfl) ?_
    refine Sx.GT.pure (.slice A xs.length c) 0 (by rfl) (by kernel_rfl) (fun w => by kernel_rfl) ?_
    refine Sx.GT.pure (.int .i64 (i : Int)) 1 (by rfl) (by kernel_rfl) (fun w => by kernel_rfl) ?_
    obtain ⟨b2, f2, es2, eA2, hr2, hl2, hm2⟩ := Sx.old_elem (by decide) h i (by omega)
    subst eA2
    obtain ⟨x2, hx2⟩ : ∃ z_, z_ = (xs[i]'(by omega)) := ⟨_, rfl⟩
    rw [← hx2] at hr2
    obtain rfl := Kit.rd_Ins hr2
    refine Sx.GT.elem 44 111 (.tmp 17) (.tmp 18) 2 16 b2 f2 xs.length c i 2 (by rfl) (by rfl) (by kernel_rfl) (by kernel_rfl) (by kernel_rfl) (by kernel_rfl) (by omega) ?_
    refine Sx.GT.ldr 111 (.tmp 19) b2 (f2 + i * 2) [.int .i64 x2.1, .int .i64 x2.2] 3 (by rfl) (by rfl) (by kernel_rfl) (by kernel_rfl) (fun w S => hm2 w _ S) (by kernel_rfl) (by kernel_rfl) ?_
    refine Sx.GT.pure (.slice B xs.length d) 4 (by rfl) (by kernel_rfl) (fun w => by kernel_rfl) ?_
    refine Sx.GT.pure (.int .i64 (i : Int)) 5 (by rfl) (by kernel_rfl) (fun w => by kernel_rfl) ?_
    obtain ⟨b3, f3, es3, eA3, hr3, hl3, hm3⟩ := Sx.old_elem (by decide) j i (by omega)
    subst eA3
    rw [← hx2] at hr3
    obtain rfl := Kit.rd_Ins hr3
    refine Sx.GT.elem 44 111 (.tmp 21) (.tmp 22) 2 16 b3 f3 xs.length d i 6 (by rfl) (by rfl) (by kernel_rfl) (by kernel_rfl) (by kernel_rfl) (by kernel_rfl) (by omega) ?_
    refine Sx.GT.ldr 111 (.tmp 23) b3 (f3 + i * 2) [.int .i64 x2.1, .int .i64 x2.2] 7 (by rfl) (by rfl) (by kernel_rfl) (by kernel_rfl) (fun w S => hm3 w _ S) (by kernel_rfl) (by kernel_rfl) ?_
    refine Sx.GT.alone (Sx.Alone.plain 97 #[.agg #[.int .i64 x2.1, .int .i64 x2.2], .agg #[.int .i64 x2.1, .int .i64 x2.2]] (.bool true) (by rfl) (by kernel_rfl) (fun w => by kernel_rfl) (fun w S => by exact Kit.keq_Ins x2 _) (fun w S => St.pick S [] _ rfl (by decide)) ?_)
    refine Sx.GT.pure (.bool false) 9 (by rfl) (by kernel_rfl) (fun w => by kernel_rfl) ?_
    refine Sx.GT.nil ?_
    refine Sx.E.next ?_
    refine Sx.C.no (by kernel_rfl) (by kernel_rfl) ?_
    refine Sx.C.skip ?_
    refine Sx.E.block_normal ?_
    refine Sx.E.next ?_
    refine Sx.C.region ?_
    refine Sx.G.pure (.int .i64 (i : Int)) (by kernel_rfl) (fun w => by kernel_rfl) ?_
    refine Sx.G.pureq (.int .i64 (IntKind.i64.wrap ((i : Int) + 1))) (.int .i64 ((i + 1 : Nat) : Int)) (by kernel_rfl) (fun w => by kernel_rfl) (congrArg (Value.int .i64) (Sx.wrap_up i (by omega))) ?_
    refine Sx.G.pure (.int .i64 ((i + 1 : Nat) : Int)) (by kernel_rfl) (fun w => by kernel_rfl) ?_
    refine Sx.G.nil ?_
    exact Sx.E.again (i + 1) (by omega) (by omega) (fun a hA => (Sx.Ag.and hA (Sx.Ag.and hA (Sx.Ag.and hA (Sx.Ag.and hA (Sx.Ag.none hA) _ _ (by kernel_rfl)) _ _ (by kernel_rfl)) _ _ (by kernel_rfl)) _ _ (by kernel_rfl))) (fun w S => S)
set_option maxRecDepth 100000 in
set_option maxHeartbeats 4000000 in
theorem ksz_InsS (xs : (List (Int × Int))) (A : Option Addr) (c : Nat) (left : Int) (w : World) (hw : (rLsw (rPair rInt rInt)).wf xs) (h0 : 0 ≤ left) (h1 : left ≤ 1048576) (h : rdLst (rPair rInt rInt) w 0 w.heap.size xs [.slice A xs.length c]) : Calls Try.prog 35 #[.slice A xs.length c, .int .i64 left] w (fun e w' => ∃ l, e = .returned (.int .i64 l) ∧ Kit.Sz left ((rLsw (rPair rInt rInt)).size xs) l ∧ Below w.heap.size w w') := by
  obtain ⟨hl, hwe⟩ := hw
  simp only [maxLen] at hl
  refine Sx.enter (args := [.slice A xs.length c, .int .i64 left]) Try.func35 rfl Try.ntmps35 rfl ?_
  refine Sx.C.seq ?_
  refine Sx.C.region ?_
  refine Sx.G.pure (.int .i64 0) (by kernel_rfl) (fun w => by kernel_rfl) ?_
  refine Sx.G.nil ?_
  refine Sx.E.next ?_
  refine Sx.C.seq ?_
  refine Sx.C.region ?_
  refine Sx.G.pure (.int .i64 left) (by kernel_rfl) (fun w => by kernel_rfl) ?_
  refine Sx.G.pure (.slice A xs.length c) (by kernel_rfl) (fun w => by kernel_rfl) ?_
  refine Sx.G.pure (.int .i64 ((xs.length : Nat) : Int)) (by kernel_rfl) (fun w => by kernel_rfl) ?_
  refine Sx.G.pureq (.int .i64 (IntKind.i64.wrap (left - ((xs.length : Nat) : Int)))) (.int .i64 (left - ((xs.length : Nat) : Int))) (by kernel_rfl) (fun w => by kernel_rfl) (congrArg (Value.int .i64) (by rw [IntKind.wrap_i64]; omega)) ?_
  refine Sx.G.pure (.int .i64 (left - ((xs.length : Nat) : Int))) (by kernel_rfl) (fun w => by kernel_rfl) ?_
  refine Sx.G.nil ?_
  refine Sx.E.next ?_
  refine Sx.C.seq ?_
  refine Sx.C.seq ?_
  refine Sx.C.region ?_
  refine Sx.G.pure (.int .i64 (left - ((xs.length : Nat) : Int))) (by kernel_rfl) (fun w => by kernel_rfl) ?_
  refine Sx.G.pure (.bool (decide ((left - ((xs.length : Nat) : Int)) < 0))) (by kernel_rfl) (fun w => by kernel_rfl) ?_
  refine Sx.G.nil ?_
  refine Sx.E.next ?_
  cases hc1 : (decide ((left - ((xs.length : Nat) : Int)) < 0))
  · have hb1 := hc1
    replace hc1 := of_decide_eq_false hc1
    refine Sx.C.no (by kernel_rfl) (by kernel_rfl) ?_
    refine Sx.C.skip ?_
    refine Sx.E.next ?_
    refine Sx.C.seq ?_
    refine Sx.C.region ?_
    refine Sx.G.pure (.int .i64 (left - ((xs.length : Nat) : Int))) (by kernel_rfl) (fun w => by kernel_rfl) ?_
    refine Sx.G.pure (.int .i64 (left - ((xs.length : Nat) : Int))) (by kernel_rfl) (fun w => by kernel_rfl) ?_
    refine Sx.G.nil ?_
    refine Sx.E.next ?_
    refine Sx.C.ret ?_
    refine Sx.E.ret1 (.int .i64 (left - ((xs.length : Nat) : Int))) rfl (by kernel_rfl) (fun w S => ?_)
    exact ⟨_, rfl, show Kit.Sz left (xs.length + sizeAll (rPair rInt rInt) xs) _ by rw [sz0_Ins]; unfold Kit.Sz; omega, S.below⟩
  · have hb1 := hc1
    replace hc1 := of_decide_eq_true hc1
    refine Sx.C.yes (by kernel_rfl) (by kernel_rfl) ?_
    refine Sx.C.seq ?_
    refine Sx.C.region ?_
    refine Sx.G.pure (.int .i64 (-1)) (by kernel_rfl) (fun w => by kernel_rfl) ?_
    refine Sx.G.nil ?_
    refine Sx.E.next ?_
    refine Sx.C.ret ?_
    refine Sx.E.then_ret ?_
    refine Sx.E.ret1 (.int .i64 (-1)) rfl (by kernel_rfl) (fun w S => ?_)
    exact ⟨_, rfl, show Kit.Sz left (xs.length + sizeAll (rPair rInt rInt) xs) _ by rw [sz0_Ins]; unfold Kit.Sz; omega, S.below⟩
set_option maxRecDepth 100000 in
set_option maxHeartbeats 4000000 in
theorem khd_InsS (xs : (List (Int × Int))) (A : Option Addr) (c k : Nat) (w : World) (hc : (rLsw (rPair rInt rInt)).cap xs) (hk : k + cntAll (rPair rInt rInt) xs ≤ 1000000000000) (h : rdLst (rPair rInt rInt) w 0 w.heap.size (mkAll (rPair rInt rInt) k xs) [.slice A xs.length c]) : Calls Try.prog 74 #[.slice A xs.length c, .int .i64 ((k : Nat) : Int)] w (fun e w' => e = .returned (.int .i64 ((k + cntAll (rPair rInt rInt) xs : Nat) : Int)) ∧ Below w.heap.size w w') := by
  obtain ⟨hl, hce⟩ := hc
  have hml := Kit.mk_len (rPair rInt rInt) k xs
  refine Sx.enter (args := [.slice A xs.length c, .int .i64 ((k : Nat) : Int)]) Try.func74 rfl Try.ntmps74 rfl ?_
  refine Sx.C.seq ?_
  refine Sx.C.region ?_
  refine Sx.G.pure (.int .i64 0) (by kernel_rfl) (fun w => by kernel_rfl) ?_
  refine Sx.G.nil ?_
  refine Sx.E.next ?_
  refine Sx.C.seq ?_
  refine Sx.C.seq ?_
  refine Sx.C.region ?_
  refine Sx.G.pure (.int .i64 0) (by kernel_rfl) (fun w => by kernel_rfl) ?_
  refine Sx.G.nil ?_
  refine Sx.E.next ?_
  refine Sx.C.block ?_
  refine Sx.C.loop (α := Nat × Nat) (fun x => x.1 ≤ xs.length ∧ x.2 = k + cntAll (rPair rInt rInt) (xs.take x.1)) (fun x => [(5, .int .i64 (x.1 : Int)), (1, .int .i64 ((x.2 : Nat) : Int)), (0, .slice A xs.length c), (4, .int .i64 0)]) (fun x => []) (fun x => xs.length - x.1) (0, k) (by refine ⟨Nat.zero_le _, ?_⟩; simp [cntAll]) (fun a hA => (Sx.Ag.and hA (Sx.Ag.and hA (Sx.Ag.and hA (Sx.Ag.and hA (Sx.Ag.none hA) _ _ (by kernel_rfl)) _ _ (by kernel_rfl)) _ _ (by kernel_rfl)) _ _ (by kernel_rfl))) (fun w S => S) (fun x hx => ?_)
  obtain ⟨i, q⟩ := x
  dsimp only at hx
  obtain ⟨hi, hq⟩ := hx
  have hqm := Kit.cnt_le (r := (rPair rInt rInt)) (xs := xs) i
  refine Sx.C.seq ?_
  refine Sx.C.seq ?_
  refine Sx.C.region ?_
  refine Sx.G.pure (.int .i64 (i : Int)) (by kernel_rfl) (fun w => by kernel_rfl) ?_
  refine Sx.G.pure (.slice A xs.length c) (by kernel_rfl) (fun w => by kernel_rfl) ?_
  refine Sx.G.pure (.int .i64 ((xs.length : Nat) : Int)) (by kernel_rfl) (fun w => by kernel_rfl) ?_
  refine Sx.G.pure (.bool (decide ((i : Int) < ((xs.length : Nat) : Int)))) (by kernel_rfl) (fun w => by kernel_rfl) ?_
  refine Sx.G.nil ?_
  refine Sx.E.next ?_
  cases hc1 : (decide ((i : Int) < ((xs.length : Nat) : Int)))
  · have hb1 := hc1
    replace hc1 := of_decide_eq_false hc1
    refine Sx.C.no (by kernel_rfl) (by kernel_rfl) ?_
    refine Sx.C.exit ?_
    refine Sx.E.then_exit ?_
    refine Sx.E.then_exit ?_
    refine Sx.E.block_hit ?_
    refine Sx.E.next ?_
    refine Sx.C.seq ?_
    refine Sx.C.region ?_
    refine Sx.G.pure (.int .i64 ((q : Nat) : Int)) (by kernel_rfl) (fun w => by kernel_rfl) ?_
    refine Sx.G.pure (.int .i64 ((q : Nat) : Int)) (by kernel_rfl) (fun w => by kernel_rfl) ?_
    refine Sx.G.nil ?_
    refine Sx.E.next ?_
    refine Sx.C.ret ?_
    refine Sx.E.ret1 (.int .i64 ((q : Nat) : Int)) rfl (by kernel_rfl) (fun w S => ?_)
    have h2' : xs.take i = xs := List.take_of_length_le (by omega)
    rw [h2'] at hq
    subst hq
    exact ⟨rfl, S.below⟩
  · have hb1 := hc1
    replace hc1 := of_decide_eq_true hc1
    refine Sx.C.yes (by kernel_rfl) (by kernel_rfl) ?_
    refine Sx.C.skip ?_
    refine Sx.E.next ?_
    refine Sx.C.seq ?_
    refine Sx.C.block ?_
    refine Sx.C.seq ?_
    refine Sx.C.seq ?_
    refine Sx.C.region ?_
    refine Sx.G.pure (.slice A xs.length c) (by kernel_rfl) (fun w => by kernel_rfl) ?_
    refine Sx.G.pure (.int .i64 (i : Int)) (by kernel_rfl) (fun w => by kernel_rfl) ?_
    obtain ⟨b2, f2, es2, eA2, hr2, hl2, hm2⟩ := Sx.old_elem (by decide) h i (by omega)
    subst eA2
    obtain ⟨x2, hx2⟩ : ∃ x, x = (xs[i]'(by omega)) := ⟨_, rfl⟩
    rw [Kit.mk_get k (show i < xs.length by omega), ← hq, ← hx2] at hr2
    obtain rfl := Kit.rd_Ins hr2
    refine Sx.G.elem 44 111 (.tmp 12) (.tmp 13) 2 16 b2 f2 xs.length c i rfl (by kernel_rfl) (by kernel_rfl) (by kernel_rfl) (by kernel_rfl) (by omega) ?_
    refine Sx.G.pure (.pointer (some ⟨b2, (f2 + i * 2), none⟩)) (by kernel_rfl) (fun w => by kernel_rfl) ?_
    refine Sx.G.ldr1 3 (.tmp 15) b2 ((f2 + i * 2) + 0) (.int .i64 ((q : Nat) : Int)) rfl (by kernel_rfl) (by kernel_rfl) (fun w S => hm2 w _ S 0 _ rfl) (by kernel_rfl) ?_
    refine Sx.G.pure (.int .i64 ((q : Nat) : Int)) (by kernel_rfl) (fun w => by kernel_rfl) ?_
    refine Sx.G.pureq (.bool (((q : Nat) : Int) != ((q : Nat) : Int))) (.bool false) (by kernel_rfl) (fun w => by kernel_rfl) (congrArg Value.bool (bne_self_eq_false _)) ?_
    refine Sx.G.nil ?_
    refine Sx.E.next ?_
    refine Sx.C.no (by kernel_rfl) (by kernel_rfl) ?_
    refine Sx.C.skip ?_
    refine Sx.E.next ?_
    refine Sx.C.seq ?_
    refine Sx.C.region ?_
    refine Sx.G.pure (.int .i64 ((q : Nat) : Int)) (by kernel_rfl) (fun w => by kernel_rfl) ?_
    refine Sx.G.pureq (.int .i64 (IntKind.i64.wrap (((q : Nat) : Int) + 1))) (.int .i64 ((q + 1 : Nat) : Int)) (by kernel_rfl) (fun w => by kernel_rfl) (congrArg (Value.int .i64) (Sx.wrap_up q (by omega))) ?_
    refine Sx.G.pure (.int .i64 ((q + 1 : Nat) : Int)) (by kernel_rfl) (fun w => by kernel_rfl) ?_
    refine Sx.G.nil ?_
    refine Sx.E.next ?_
    refine Sx.C.seq ?_
    refine Sx.C.seq ?_
    refine Sx.C.region ?_
    refine Sx.G.pure (.slice (some ⟨b2, f2, none⟩) xs.length c) (by kernel_rfl) (fun w => by kernel_rfl) ?_
    refine Sx.G.pure (.int .i64 (i : Int)) (by kernel_rfl) (fun w => by kernel_rfl) ?_
    refine Sx.G.elem 44 111 (.tmp 21) (.tmp 22) 2 16 b2 f2 xs.length c i rfl (by kernel_rfl) (by kernel_rfl) (by kernel_rfl) (by kernel_rfl) (by omega) ?_
    refine Sx.G.pure (.pointer (some ⟨b2, (f2 + i * 2) + 1, none⟩)) (by kernel_rfl) (fun w => by kernel_rfl) ?_
    refine Sx.G.ldr1 3 (.tmp 24) b2 ((f2 + i * 2) + 1) (.int .i64 ((q + 1 : Nat) : Int)) rfl (by kernel_rfl) (by kernel_rfl) (fun w S => hm2 w _ S 1 _ rfl) (by kernel_rfl) ?_
    refine Sx.G.pure (.int .i64 ((q + 1 : Nat) : Int)) (by kernel_rfl) (fun w => by kernel_rfl) ?_
    refine Sx.G.pureq (.bool (((q + 1 : Nat) : Int) != ((q + 1 : Nat) : Int))) (.bool false) (by kernel_rfl) (fun w => by kernel_rfl) (congrArg Value.bool (bne_self_eq_false _)) ?_
    refine Sx.G.nil ?_
    refine Sx.E.next ?_
    refine Sx.C.no (by kernel_rfl) (by kernel_rfl) ?_
    refine Sx.C.skip ?_
    refine Sx.E.next ?_
    refine Sx.C.region ?_
    refine Sx.G.pure (.int .i64 ((q + 1 : Nat) : Int)) (by kernel_rfl) (fun w => by kernel_rfl) ?_
    refine Sx.G.pureq (.int .i64 (IntKind.i64.wrap (((q + 1 : Nat) : Int) + 1))) (.int .i64 ((q + 2 : Nat) : Int)) (by kernel_rfl) (fun w => by kernel_rfl) (congrArg (Value.int .i64) (Sx.wrap_up (q + 1) (by omega))) ?_
    refine Sx.G.pure (.int .i64 ((q + 2 : Nat) : Int)) (by kernel_rfl) (fun w => by kernel_rfl) ?_
    refine Sx.G.nil ?_
    refine Sx.E.block_normal ?_
    refine Sx.E.next ?_
    refine Sx.C.region ?_
    refine Sx.G.pure (.int .i64 (i : Int)) (by kernel_rfl) (fun w => by kernel_rfl) ?_
    refine Sx.G.pureq (.int .i64 (IntKind.i64.wrap ((i : Int) + 1))) (.int .i64 ((i + 1 : Nat) : Int)) (by kernel_rfl) (fun w => by kernel_rfl) (congrArg (Value.int .i64) (Sx.wrap_up i (by omega))) ?_
    refine Sx.G.pure (.int .i64 ((i + 1 : Nat) : Int)) (by kernel_rfl) (fun w => by kernel_rfl) ?_
    refine Sx.G.nil ?_
    have hst := Kit.cnt_step (r := (rPair rInt rInt)) (show i < xs.length by omega)
    rw [← hx2] at hst
    exact Sx.E.again (i + 1, (q + 2 : Nat)) (by refine ⟨by omega, ?_⟩; show _ = k + cntAll (rPair rInt rInt) (xs.take (i + 1)); rw [hst, hq]; rfl) (show xs.length - (i + 1) < xs.length - i by omega) (fun a hA => (Sx.Ag.and hA (Sx.Ag.and hA (Sx.Ag.and hA (Sx.Ag.and hA (Sx.Ag.none hA) _ _ (by kernel_rfl)) _ _ (by kernel_rfl)) _ _ (by kernel_rfl)) _ _ (by kernel_rfl))) (fun w S => S)
set_option maxRecDepth 100000 in
set_option maxHeartbeats 4000000 in
theorem kmk0_InsS {w0 w : World} {lo hi : Nat} {R : List Res} (xs : (List (Int × Int))) (A : Option Addr) (c k : Nat) (F : List Nat) (hc : (rLsw (rPair rInt rInt)).cap xs) (hk : k + cntAll (rPair rInt rInt) xs ≤ 1000000000000) (S : St w0 w (ow (rLsw (rPair rInt rInt)) lo hi xs [.slice A xs.length c] F :: R)) : Calls Try.prog 45 #[.slice A xs.length c, .int .i64 ((k : Nat) : Int)] w fun e w' => e = .returned (.int .i64 ((k + cntAll (rPair rInt rInt) xs : Nat) : Int)) ∧ St w0 w' (ow (rLsw (rPair rInt rInt)) lo hi (mkAll (rPair rInt rInt) k xs) [.slice A xs.length c] F :: R) := by
  obtain ⟨hl, hce⟩ := hc
  refine Sx.enterS (args := [.slice A xs.length c, .int .i64 ((k : Nat) : Int)]) S Try.func45 rfl Try.ntmps45 rfl ?_
  refine Sx.C.seq ?_
  refine Sx.C.region ?_
  refine Sx.G.pure (.int .i64 0) (by kernel_rfl) (fun w => by kernel_rfl) ?_
  refine Sx.G.nil ?_
  refine Sx.E.next ?_
  refine Sx.C.seq ?_
  refine Sx.C.seq ?_
  refine Sx.C.region ?_
  refine Sx.G.pure (.int .i64 0) (by kernel_rfl) (fun w => by kernel_rfl) ?_
  refine Sx.G.nil ?_
  refine Sx.E.next ?_
  refine Sx.C.block ?_
  refine Sx.C.loop (α := Nat × Nat) (fun x => x.1 ≤ xs.length ∧ x.2 = k + cntAll (rPair rInt rInt) (xs.take x.1)) (fun x => [(5, .int .i64 (x.1 : Int)), (1, .int .i64 ((x.2 : Nat) : Int)), (0, .slice A xs.length c), (4, .int .i64 0)]) (fun x => (ow (rLsw (rPair rInt rInt)) lo hi (mkAll (rPair rInt rInt) k (xs.take x.1) ++ xs.drop x.1) [.slice A xs.length c] F :: R)) (fun x => xs.length - x.1) (0, k) (by refine ⟨Nat.zero_le _, ?_⟩; simp [cntAll]) (fun a hA => (Sx.Ag.and hA (Sx.Ag.and hA (Sx.Ag.and hA (Sx.Ag.and hA (Sx.Ag.none hA) _ _ (by kernel_rfl)) _ _ (by kernel_rfl)) _ _ (by kernel_rfl)) _ _ (by kernel_rfl))) (fun w S => S) (fun x hx => ?_)
  obtain ⟨i, q⟩ := x
  dsimp only at hx
  obtain ⟨hi', hq⟩ := hx
  have hqm := Kit.cnt_le (r := (rPair rInt rInt)) (xs := xs) i
  refine Sx.C.seq ?_
  refine Sx.C.seq ?_
  refine Sx.C.region ?_
  refine Sx.G.pure (.int .i64 (i : Int)) (by kernel_rfl) (fun w => by kernel_rfl) ?_
  refine Sx.G.pure (.slice A xs.length c) (by kernel_rfl) (fun w => by kernel_rfl) ?_
  refine Sx.G.pure (.int .i64 ((xs.length : Nat) : Int)) (by kernel_rfl) (fun w => by kernel_rfl) ?_
  refine Sx.G.pure (.bool (decide ((i : Int) < ((xs.length : Nat) : Int)))) (by kernel_rfl) (fun w => by kernel_rfl) ?_
  refine Sx.G.nil ?_
  refine Sx.E.next ?_
  cases hc1 : (decide ((i : Int) < ((xs.length : Nat) : Int)))
  · have hb1 := hc1
    replace hc1 := of_decide_eq_false hc1
    refine Sx.C.no (by kernel_rfl) (by kernel_rfl) ?_
    refine Sx.C.exit ?_
    refine Sx.E.then_exit ?_
    refine Sx.E.then_exit ?_
    refine Sx.E.block_hit ?_
    refine Sx.E.next ?_
    refine Sx.C.seq ?_
    refine Sx.C.region ?_
    refine Sx.G.pure (.int .i64 ((q : Nat) : Int)) (by kernel_rfl) (fun w => by kernel_rfl) ?_
    refine Sx.G.pure (.int .i64 ((q : Nat) : Int)) (by kernel_rfl) (fun w => by kernel_rfl) ?_
    refine Sx.G.nil ?_
    refine Sx.E.next ?_
    refine Sx.C.ret ?_
    refine Sx.E.ret1 (.int .i64 ((q : Nat) : Int)) rfl (by kernel_rfl) (fun w S => ?_)
    have h2' : xs.take i = xs := List.take_of_length_le (by omega)
    have h3' : xs.drop i = [] := List.drop_of_length_le (by omega)
    rw [h2'] at hq
    rw [h2', h3', List.append_nil] at S
    subst hq
    exact ⟨rfl, S⟩
  · have hb1 := hc1
    replace hc1 := of_decide_eq_true hc1
    refine Sx.C.yes (by kernel_rfl) (by kernel_rfl) ?_
    refine Sx.C.skip ?_
    refine Sx.E.next ?_
    refine Sx.C.seq ?_
    have hlt : i < xs.length := by omega
    obtain ⟨x1, hx1⟩ : ∃ x, x = xs[i] := ⟨_, rfl⟩
    have hm1 : x1 ∈ xs := hx1 ▸ List.getElem_mem _
    refine Sx.C.open (r := (rPair rInt rInt)) (pre := mkAll (rPair rInt rInt) k (xs.take i)) (x := x1) (post := xs.drop (i + 1)) (by rw [hx1, ← Kit.drop_step hlt]) (by decide) (fun b off es F1 Fi F2 eA eF hes hm hmc => ?_)
    subst eA eF
    refine Sx.C.know (p := es = [.int .i64 x1.1, .int .i64 x1.2] ∧ Fi = []) (fun w S => Kit.own_Ins (St.at_ S 1 rfl).1) ?_
    rintro ⟨rfl, rfl⟩
    refine Sx.C.block ?_
    refine Sx.C.seq ?_
    refine Sx.C.region ?_
    refine Sx.G.pure (.slice (some ⟨b, off, none⟩) xs.length c) (by kernel_rfl) (fun w => by kernel_rfl) ?_
    refine Sx.G.pure (.int .i64 (i : Int)) (by kernel_rfl) (fun w => by kernel_rfl) ?_
    refine Sx.G.pure (.int .i64 ((q : Nat) : Int)) (by kernel_rfl) (fun w => by kernel_rfl) ?_
    refine Sx.G.elem 44 111 (.tmp 12) (.tmp 13) 2 16 b off xs.length c i rfl (by kernel_rfl) (by kernel_rfl) (by kernel_rfl) (by kernel_rfl) (by omega) ?_
    refine Sx.G.pure (.pointer (some ⟨b, (off + i * 2), none⟩)) (by kernel_rfl) (fun w => by kernel_rfl) ?_
    refine Sx.G.hsto (k := i) (size := 2) 3 (.tmp 16) (.tmp 14) b ((off + i * 2) + 0) 0 0 [.int .i64 ((q : Nat) : Int)] [.int .i64 ((q : Nat) : Int), .int .i64 x1.2] (Sx.hole (rPair rInt rInt) b off lo hi (mkAll (rPair rInt rInt) k (xs.take i)) (xs.drop (i + 1)) [.int .i64 ((q : Nat) : Int), .int .i64 x1.2] F1 F2 :: ow (rPair rInt rInt) lo hi x1 [.int .i64 x1.1, .int .i64 x1.2] [] :: R) rfl (by kernel_rfl) (by kernel_rfl) (by kernel_rfl) rfl (by rw [Kit.mk_len, List.length_take]; omega) rfl rfl rfl rfl (by kernel_rfl) (by kernel_rfl) (by kernel_rfl) ?_
    refine Sx.G.nil ?_
    refine Sx.E.next ?_
    refine Sx.C.seq ?_
    refine Sx.C.region ?_
    refine Sx.G.pure (.int .i64 ((q : Nat) : Int)) (by kernel_rfl) (fun w => by kernel_rfl) ?_
    refine Sx.G.pureq (.int .i64 (IntKind.i64.wrap (((q : Nat) : Int) + 1))) (.int .i64 ((q + 1 : Nat) : Int)) (by kernel_rfl) (fun w => by kernel_rfl) (congrArg (Value.int .i64) (Sx.wrap_up q (by omega))) ?_
    refine Sx.G.pure (.int .i64 ((q + 1 : Nat) : Int)) (by kernel_rfl) (fun w => by kernel_rfl) ?_
    refine Sx.G.nil ?_
    refine Sx.E.next ?_
    refine Sx.C.seq ?_
    refine Sx.C.region ?_
    refine Sx.G.pure (.slice (some ⟨b, off, none⟩) xs.length c) (by kernel_rfl) (fun w => by kernel_rfl) ?_
    refine Sx.G.pure (.int .i64 (i : Int)) (by kernel_rfl) (fun w => by kernel_rfl) ?_
    refine Sx.G.pure (.int .i64 ((q + 1 : Nat) : Int)) (by kernel_rfl) (fun w => by kernel_rfl) ?_
    refine Sx.G.elem 44 111 (.tmp 19) (.tmp 20) 2 16 b off xs.length c i rfl (by kernel_rfl) (by kernel_rfl) (by kernel_rfl) (by kernel_rfl) (by omega) ?_
    refine Sx.G.pure (.pointer (some ⟨b, (off + i * 2) + 1, none⟩)) (by kernel_rfl) (fun w => by kernel_rfl) ?_
    refine Sx.G.hsto (k := i) (size := 2) 3 (.tmp 23) (.tmp 21) b ((off + i * 2) + 1) 1 0 [.int .i64 ((q + 1 : Nat) : Int)] [.int .i64 ((q : Nat) : Int), .int .i64 ((q + 1 : Nat) : Int)] (Sx.hole (rPair rInt rInt) b off lo hi (mkAll (rPair rInt rInt) k (xs.take i)) (xs.drop (i + 1)) [.int .i64 ((q : Nat) : Int), .int .i64 ((q + 1 : Nat) : Int)] F1 F2 :: ow (rPair rInt rInt) lo hi x1 [.int .i64 x1.1, .int .i64 x1.2] [] :: R) rfl (by kernel_rfl) (by kernel_rfl) (by kernel_rfl) rfl (by rw [Kit.mk_len, List.length_take]; omega) rfl rfl rfl rfl (by kernel_rfl) (by kernel_rfl) (by kernel_rfl) ?_
    refine Sx.G.nil ?_
    refine Sx.E.next ?_
    refine Sx.C.region ?_
    refine Sx.G.pure (.int .i64 ((q + 1 : Nat) : Int)) (by kernel_rfl) (fun w => by kernel_rfl) ?_
    refine Sx.G.pureq (.int .i64 (IntKind.i64.wrap (((q + 1 : Nat) : Int) + 1))) (.int .i64 ((q + 2 : Nat) : Int)) (by kernel_rfl) (fun w => by kernel_rfl) (congrArg (Value.int .i64) (Sx.wrap_up (q + 1) (by omega))) ?_
    refine Sx.G.pure (.int .i64 ((q + 2 : Nat) : Int)) (by kernel_rfl) (fun w => by kernel_rfl) ?_
    refine Sx.G.nil ?_
    refine Sx.E.block_normal ?_
    refine Sx.E.next ?_
    refine Sx.C.region ?_
    refine Sx.G.pure (.int .i64 (i : Int)) (by kernel_rfl) (fun w => by kernel_rfl) ?_
    refine Sx.G.pureq (.int .i64 (IntKind.i64.wrap ((i : Int) + 1))) (.int .i64 ((i + 1 : Nat) : Int)) (by kernel_rfl) (fun w => by kernel_rfl) (congrArg (Value.int .i64) (Sx.wrap_up i (by omega))) ?_
    refine Sx.G.pure (.int .i64 ((i + 1 : Nat) : Int)) (by kernel_rfl) (fun w => by kernel_rfl) ?_
    refine Sx.G.nil ?_
    exact Sx.E.again (i + 1, (q + 2 : Nat)) (by refine ⟨by omega, ?_⟩; show _ = k + cntAll (rPair rInt rInt) (xs.take (i + 1)); rw [Kit.cnt_step hlt, ← hx1, hq]; rfl) (show xs.length - (i + 1) < xs.length - i by omega) (fun a hA => (Sx.Ag.and hA (Sx.Ag.and hA (Sx.Ag.and hA (Sx.Ag.and hA (Sx.Ag.none hA) _ _ (by kernel_rfl)) _ _ (by kernel_rfl)) _ _ (by kernel_rfl)) _ _ (by kernel_rfl))) (fun w S => by
      have S := Sx.St.flat S 1 rfl ((rPair rInt rInt).mark q x1) [.int .i64 ((q : Nat) : Int), .int .i64 ((q + 1 : Nat) : Int)] (fun w => Kit.own_mk_Ins w lo hi ((rPair rInt rInt).mark q x1))
      have S3 := Sx.St.close S (by decide) xs.length c (by simp [Kit.mk_len, List.length_take, List.length_drop]; omega) hmc
      rw [hq, hx1, Kit.mk_step k hlt] at S3
      exact S3
      )
theorem kmk_InsS {w0 w : World} {lo hi : Nat} {L : List Res} (xs : (List (Int × Int))) (A : Option Addr) (c k : Nat) (F : List Nat) (hc : (rLsw (rPair rInt rInt)).cap xs) (hk : k + cntAll (rPair rInt rInt) xs ≤ 1000000000000) (S : St w0 w L) (i : Nat) (hi' : L[i]? = some (ow (rLsw (rPair rInt rInt)) lo hi xs [.slice A xs.length c] F)) : Calls Try.prog 45 #[.slice A xs.length c, .int .i64 ((k : Nat) : Int)] w fun e w' => e = .returned (.int .i64 ((k + cntAll (rPair rInt rInt) xs : Nat) : Int)) ∧ St w0 w' (L.set i (ow (rLsw (rPair rInt rInt)) lo hi (mkAll (rPair rInt rInt) k xs) [.slice A xs.length c] F)) :=
  anywhere (fun R S => kmk0_InsS xs A c k F hc hk S) S i hi'
set_option maxRecDepth 100000 in
set_option maxHeartbeats 4000000 in
theorem kto_InsS (xs : (List (Int × Int))) (A : Option Addr) (c : Nat) (w : World) (hc : (rLsw (rPair rInt rInt)).cap xs) (h : rdLst (rPair rInt rInt) w 0 w.heap.size xs [.slice A xs.length c]) : Calls Try.prog 38 #[.slice A xs.length c] w (Gives (rLsw (rPair rInt rInt)) w xs) := by
  obtain ⟨hl, hce⟩ := hc
  refine Sx.enter (args := [.slice A xs.length c]) Try.func38 rfl Try.ntmps38 rfl ?_
  refine Sx.C.seq ?_
  refine Sx.C.region ?_
  refine Sx.G.pure (.slice none 0 0) (by kernel_rfl) (fun w => by kernel_rfl) ?_
  refine Sx.G.nil ?_
  refine Sx.E.next ?_
  refine Sx.C.seq ?_
  refine Sx.C.region ?_
  refine Sx.G.pure (.slice A xs.length c) (by kernel_rfl) (fun w => by kernel_rfl) ?_
  refine Sx.G.pure (.int .i64 ((xs.length : Nat) : Int)) (by kernel_rfl) (fun w => by kernel_rfl) ?_
  refine Sx.G.mks (r := (rPair rInt rInt)) ((0, 0) : (Int × Int)) [.int .i64 0, .int .i64 0] 44 111 (.tmp 6) (.tmp 6) 2 16 xs.length rfl (by kernel_rfl) (by kernel_rfl) (by kernel_rfl) rfl rfl (fun w lo hi => Kit.own_mk_Ins w lo hi (0, 0)) (by kernel_rfl) (by kernel_rfl) (by simp only [maxLen]; omega) (by omega) (fun b1 hi1 F1 => ?_)
  refine Sx.G.pure (.slice (some ⟨b1, 0, none⟩) xs.length xs.length) (by kernel_rfl) (fun w => by kernel_rfl) ?_
  refine Sx.G.nil ?_
  refine Sx.E.next ?_
  refine Sx.C.seq ?_
  refine Sx.C.seq ?_
  refine Sx.C.region ?_
  refine Sx.G.pure (.int .i64 0) (by kernel_rfl) (fun w => by kernel_rfl) ?_
  refine Sx.G.nil ?_
  refine Sx.E.next ?_
  refine Sx.C.block ?_
  refine Sx.C.loop (α := Nat × Nat × List Nat) (fun x => x.1 ≤ xs.length) (fun x => [(4, .int .i64 (x.1 : Int)), (0, .slice A xs.length c), (2, .slice none 0 0), (3, .slice (some ⟨b1, 0, none⟩) xs.length xs.length)]) (fun x => [ow (rLsw (rPair rInt rInt)) w.heap.size x.2.1 (xs.take x.1 ++ List.replicate (xs.length - x.1) ((0, 0) : (Int × Int))) [.slice (some ⟨b1, 0, none⟩) xs.length xs.length] x.2.2]) (fun x => xs.length - x.1) (0, hi1, F1) (Nat.zero_le _) (fun a hA => (Sx.Ag.and hA (Sx.Ag.and hA (Sx.Ag.and hA (Sx.Ag.and hA (Sx.Ag.none hA) _ _ (by kernel_rfl)) _ _ (by kernel_rfl)) _ _ (by kernel_rfl)) _ _ (by kernel_rfl))) (fun w' S => by have S2 := Sx.St.widen S 0 rfl (Nat.le_refl _) (S.hi 0 _ rfl); exact S2) (fun x hx => ?_)
  obtain ⟨i, hi, F⟩ := x
  dsimp only at hx
  obtain hi' := hx
  refine Sx.C.seq ?_
  refine Sx.C.seq ?_
  refine Sx.C.region ?_
  refine Sx.G.pure (.int .i64 (i : Int)) (by kernel_rfl) (fun w => by kernel_rfl) ?_
  refine Sx.G.pure (.slice A xs.length c) (by kernel_rfl) (fun w => by kernel_rfl) ?_
  refine Sx.G.pure (.int .i64 ((xs.length : Nat) : Int)) (by kernel_rfl) (fun w => by kernel_rfl) ?_
  refine Sx.G.pure (.bool (decide ((i : Int) < ((xs.length : Nat) : Int)))) (by kernel_rfl) (fun w => by kernel_rfl) ?_
  refine Sx.G.nil ?_
  refine Sx.E.next ?_
  cases hc2 : (decide ((i : Int) < ((xs.length : Nat) : Int)))
  · have hb2 := hc2
    replace hc2 := of_decide_eq_false hc2
    refine Sx.C.no (by kernel_rfl) (by kernel_rfl) ?_
    refine Sx.C.exit ?_
    refine Sx.E.then_exit ?_
    refine Sx.E.then_exit ?_
    refine Sx.E.block_hit ?_
    refine Sx.E.next ?_
    refine Sx.C.seq ?_
    refine Sx.C.region ?_
    refine Sx.G.pure (.slice (some ⟨b1, 0, none⟩) xs.length xs.length) (by kernel_rfl) (fun w => by kernel_rfl) ?_
    refine Sx.G.pure (.slice (some ⟨b1, 0, none⟩) xs.length xs.length) (by kernel_rfl) (fun w => by kernel_rfl) ?_
    refine Sx.G.nil ?_
    refine Sx.E.next ?_
    refine Sx.C.ret ?_
    refine Sx.E.ret1 (.slice (some ⟨b1, 0, none⟩) xs.length xs.length) rfl (by kernel_rfl) (fun w S => ?_)
    have h2' : xs.take i = xs := List.take_of_length_le (by omega)
    rw [h2', show xs.length - i = 0 by omega, List.replicate_zero, List.append_nil] at S
    exact ⟨[_], F, rfl, S.own 0 rfl, S.nodup 0 rfl, S.below⟩
  · have hb2 := hc2
    replace hc2 := of_decide_eq_true hc2
    refine Sx.C.yes (by kernel_rfl) (by kernel_rfl) ?_
    refine Sx.C.skip ?_
    refine Sx.E.next ?_
    refine Sx.C.seq ?_
    have hlt : i < xs.length := by omega
    refine Sx.C.open (r := (rPair rInt rInt)) (pre := xs.take i) (x := ((0, 0) : (Int × Int))) (post := List.replicate (xs.length - (i + 1)) ((0, 0) : (Int × Int))) (by rw [show xs.length - i = (xs.length - (i + 1)) + 1 by omega, List.replicate_succ]) (by decide) (fun b off es F1 Fi F2 eA eF hes hm hmc => ?_)
    obtain ⟨rfl, rfl⟩ : b1 = b ∧ 0 = off := by cases eA; exact ⟨rfl, rfl⟩
    subst eF
    refine Sx.C.know (p := es = [.int .i64 0, .int .i64 0] ∧ Fi = []) (fun w S => Kit.own_Ins (St.at_ S 1 rfl).1) ?_
    rintro ⟨rfl, rfl⟩
    refine Sx.C.block ?_
    refine Sx.C.region ?_
    refine Sx.G.pure (.slice (some ⟨b1, 0, none⟩) xs.length xs.length) (by kernel_rfl) (fun w => by kernel_rfl) ?_
    refine Sx.G.pure (.int .i64 (i : Int)) (by kernel_rfl) (fun w => by kernel_rfl) ?_
    refine Sx.G.pure (.slice A xs.length c) (by kernel_rfl) (fun w => by kernel_rfl) ?_
    refine Sx.G.pure (.int .i64 (i : Int)) (by kernel_rfl) (fun w => by kernel_rfl) ?_
    obtain ⟨b3, f3, es3, eA3, hr3, hl3, hm3⟩ := Sx.old_elem (by decide) h i (by omega)
    subst eA3
    obtain ⟨x3, hx3⟩ : ∃ z_, z_ = (xs[i]'(by omega)) := ⟨_, rfl⟩
    rw [← hx3] at hr3
    obtain rfl := Kit.rd_Ins hr3
    refine Sx.G.elem 57 113 (.tmp 16) (.tmp 17) 2 16 b3 f3 xs.length c i rfl (by kernel_rfl) (by kernel_rfl) (by kernel_rfl) (by kernel_rfl) (by omega) ?_
    refine Sx.G.ldr 113 (.tmp 18) b3 (f3 + i * 2) [.int .i64 x3.1, .int .i64 x3.2] rfl (by kernel_rfl) (by kernel_rfl) (fun w S => hm3 w _ S) (by kernel_rfl) (by kernel_rfl) ?_
    refine Sx.G.plain 92 #[.agg #[.int .i64 x3.1, .int .i64 x3.2]] (.agg #[.int .i64 x3.1, .int .i64 x3.2]) (by kernel_rfl) (fun w => by kernel_rfl) (fun w S => by exact Kit.kto_Ins x3 _) ?_
    refine Sx.G.elem 44 111 (.tmp 14) (.tmp 15) 2 16 b1 0 xs.length xs.length i rfl (by kernel_rfl) (by kernel_rfl) (by kernel_rfl) (by kernel_rfl) (by omega) ?_
    refine Sx.G.hsto (k := i) (size := 2) 111 (.tmp 21) (.tmp 20) b1 ((0 + i * 2) + 0) 0 0 [.int .i64 x3.1, .int .i64 x3.2] [.int .i64 x3.1, .int .i64 x3.2] [Sx.hole (rPair rInt rInt) b1 0 w.heap.size hi (xs.take i) (List.replicate (xs.length - (i + 1)) ((0, 0) : (Int × Int))) [.int .i64 x3.1, .int .i64 x3.2] F1 F2, ow (rPair rInt rInt) w.heap.size hi ((0, 0) : (Int × Int)) [.int .i64 0, .int .i64 0] []] rfl (by kernel_rfl) (by kernel_rfl) (by kernel_rfl) rfl (by rw [List.length_take]; omega) rfl rfl rfl rfl (by kernel_rfl) (by kernel_rfl) (by kernel_rfl) ?_
    refine Sx.G.nil ?_
    refine Sx.E.block_normal ?_
    refine Sx.E.next ?_
    refine Sx.C.region ?_
    refine Sx.G.pure (.int .i64 (i : Int)) (by kernel_rfl) (fun w => by kernel_rfl) ?_
    refine Sx.G.pureq (.int .i64 (IntKind.i64.wrap ((i : Int) + 1))) (.int .i64 ((i + 1 : Nat) : Int)) (by kernel_rfl) (fun w => by kernel_rfl) (congrArg (Value.int .i64) (Sx.wrap_up i (by omega))) ?_
    refine Sx.G.pure (.int .i64 ((i + 1 : Nat) : Int)) (by kernel_rfl) (fun w => by kernel_rfl) ?_
    refine Sx.G.nil ?_
    exact Sx.E.again (i + 1, hi, _) (show i + 1 ≤ xs.length by omega) (show xs.length - (i + 1) < xs.length - i by omega) (fun a hA => (Sx.Ag.and hA (Sx.Ag.and hA (Sx.Ag.and hA (Sx.Ag.and hA (Sx.Ag.none hA) _ _ (by kernel_rfl)) _ _ (by kernel_rfl)) _ _ (by kernel_rfl)) _ _ (by kernel_rfl))) (fun w' S => by
      have S := Sx.St.flat S 1 rfl x3 [.int .i64 x3.1, .int .i64 x3.2] (fun w => Kit.own_mk_Ins w _ _ x3)
      have S3 := Sx.St.close S (by decide) xs.length xs.length (by simp [List.length_take]; omega) hmc
      rw [hx3] at S3
      rw [show xs.take i ++ xs[i] :: List.replicate (xs.length - (i + 1)) ((0, 0) : (Int × Int)) = xs.take (i + 1) ++ List.replicate (xs.length - (i + 1)) ((0, 0) : (Int × Int)) by rw [Kit.take_step hlt, List.append_assoc]; rfl] at S3
      exact S3
      )
end Go.Proofs.Ytldgadmpclgfhaa.Kit
namespace Go.Proofs.Ytldgadmpclgfhaa.Slots
set_option maxRecDepth 100000
open Go.ChangeShapes Go.WideShapes Go.ChangeAt Go.RowKit
open Go.Proofs.Ytldgadmpclgfhaa.Base Go.Proofs.Ytldgadmpclgfhaa.Mem
/-- The cells of a list of slots. -/
def scells : List (Int × Int) → List Value
  | [] => []
  | p :: l => .int .i64 p.1 :: .int .i64 p.2 :: scells l
theorem scells_append : ∀ l m, scells (l ++ m) = scells l ++ scells m
  | [], m => rfl
  | p :: l, m => by simp [scells, scells_append l m]
theorem scells_one : ∀ l, ∀ u ∈ scells l, u.oneCell' = true
  | [], u, h => by simp [scells] at h
  | p :: l, u, h => by
    simp [scells] at h
    rcases h with rfl | rfl | h
    · rfl
    · rfl
    · exact scells_one l u h
theorem grown_of_below {w w' : World} (h : Below w.heap.size w w') (row : Option Nat) : w.grownBy w' row := ⟨h.os, h.tape, h.output, h.size, fun i hi _ => h.block i hi⟩
/-- Two cells of a row may be written. -/
theorem row_two {w : World} {base g n c : Nat} {e : TypeId} {xs : List Value} (h : w.ownsRow base e 2 (.slice (some ⟨g, 0, none⟩) n c) n xs) {k : Nat} (hk : k < n) :
    (∃ u, w.cell? ⟨g, k * 2, none⟩ = some u) ∧ (∃ u, w.cell? ⟨g, k * 2 + 1, none⟩ = some u) ∧ w.frozen? ⟨g, k * 2, none⟩ = false ∧ w.frozen? ⟨g, k * 2 + 1, none⟩ = false := by
  have hl := h.1
  refine ⟨⟨xs[k * 2]'(by omega), ?_⟩, ⟨xs[k * 2 + 1]'(by omega), ?_⟩, h.frozenAt _, h.frozenAt _⟩
  · rw [h.cellAt _ (by omega)]; exact List.getElem?_eq_getElem _
  · rw [h.cellAt _ (by omega)]; exact List.getElem?_eq_getElem _
theorem row_set2 {w : World} {base g n c : Nat} {e : TypeId} {xs : List Value} (h : w.ownsRow base e 2 (.slice (some ⟨g, 0, none⟩) n c) n xs) (k : Nat) (u v : Value) :
    ((w.setCell ⟨g, k * 2, none⟩ u).setCell ⟨g, k * 2 + 1, none⟩ v).ownsRow base e 2 (.slice (some ⟨g, 0, none⟩) n c) n ((xs.set (k * 2) u).set (k * 2 + 1) v) :=
  ((h.stored (k * 2) u).1.stored (k * 2 + 1) v).1
theorem take_set2 {xs : List Value} {k : Nat} {l : List (Int × Int)} {x y : Int} (h : xs.take (k * 2) = scells (l.take k)) (hl : k * 2 + 1 < xs.length) (ht : l.take (k + 1) = l.take k ++ [(x, y)]) :
    ((xs.set (k * 2) (.int .i64 x)).set (k * 2 + 1) (.int .i64 y)).take ((k + 1) * 2) = scells (l.take (k + 1)) := by
  rw [ht, scells_append, ← h]
  rw [show (k + 1) * 2 = k * 2 + 1 + 1 by omega, List.take_succ_eq_append_getElem (by simp; omega), List.take_succ_eq_append_getElem (by simp; omega)]
  simp [scells, List.take_set_of_le]
def RowPost (w : World) (n : Nat) (l : List (Int × Int)) (e : Ending) (w' : World) : Prop :=
  ∃ ad c, e = .returned (.slice (some ad) n c) ∧ n ≤ c ∧ Owned w' w.heap.size w'.heap.size (some ad) (scells l) ∧ Below w.heap.size w w'
end Go.Proofs.Ytldgadmpclgfhaa.Slots
namespace Go.Proofs.Ytldgadmpclgfhaa.Ints
set_option maxRecDepth 100000
open Go.ChangeShapes Go.WideShapes Go.ChangeAt Go.RowKit
open Go.Proofs.Ytldgadmpclgfhaa.Base Go.Proofs.Ytldgadmpclgfhaa.Mem
/-- The cells of a list of numbers. -/
def ncells (l : List Int) : List Value := l.map (Value.int .i64)
theorem ncells_len (l : List Int) : (ncells l).length = l.length := by simp [ncells]
theorem ncells_at (l : List Int) (k : Nat) (h : k < l.length) : (ncells l)[k]? = some (.int .i64 l[k]) := by simp [ncells, h]
theorem int_at {w : World} {lo hi : Nat} {A : Option Addr} {l : List Int} (h : Lies w lo hi A (ncells l)) (k : Nat) (hk : k < l.length) :
    ∃ b off, A = some ⟨b, off, none⟩ ∧ lo ≤ b ∧ b < hi ∧ w.cell? ⟨b, off + k, none⟩ = some (.int .i64 l[k]) := by
  obtain ⟨b, off, e, x, y, hc⟩ := h.at_ (by rw [ncells_len]; omega)
  exact ⟨b, off, e, x, y, hc _ _ (ncells_at l k hk)⟩
end Go.Proofs.Ytldgadmpclgfhaa.Ints
namespace Go.Proofs.Ytldgadmpclgfhaa.Rights
set_option maxRecDepth 100000
open Go.ChangeShapes Go.WideShapes Go.ChangeAt Go.RowKit
/-- Valid rights. -/
def rok (r : Int) : Bool := decide (0 ≤ r ∧ r ≤ 3)
/-- The one set contains the other. -/
def has (a b : Int) : Bool := bits .and .i64 a b == b
def both (a b : Int) : Int := if rok a = true ∧ rok b = true then bits .and .i64 a b else 0
end Go.Proofs.Ytldgadmpclgfhaa.Rights
namespace Go.Proofs.Ytldgadmpclgfhaa.Base
set_option maxRecDepth 100000
open Go.ChangeShapes Go.WideShapes Go.ChangeAt Go.RowKit
def inB (n a b : Int) : Bool := decide (a ≤ n) && decide (n ≤ b)
end Go.Proofs.Ytldgadmpclgfhaa.Base
namespace Go.Proofs.Ytldgadmpclgfhaa.Slots
set_option maxRecDepth 100000
open Go.ChangeShapes Go.WideShapes Go.ChangeAt Go.RowKit
open Go.Proofs.Ytldgadmpclgfhaa.Base Go.Proofs.Ytldgadmpclgfhaa.Mem Go.Proofs.Ytldgadmpclgfhaa.Ints
abbrev Sl := Int × Int
def nosL (n : Nat) : List Sl := List.replicate n (-1, 0)
end Go.Proofs.Ytldgadmpclgfhaa.Slots
namespace Go.Proofs.Ytldgadmpclgfhaa.Slots
set_option maxRecDepth 100000
open Go.ChangeShapes Go.WideShapes Go.ChangeAt Go.RowKit Go.Deep
open Go.Proofs.Ytldgadmpclgfhaa.Base Go.Proofs.Ytldgadmpclgfhaa.Mem
theorem laid : laidOutB Try.prog = true := by kernel_rfl
section
variable {H : Type} {enc : TypeId × Value → H}
end
end Go.Proofs.Ytldgadmpclgfhaa.Slots
namespace Go.Proofs.Ytldgadmpclgfhaa.Inss
set_option maxRecDepth 100000
open Go.ChangeShapes Go.WideShapes Go.ChangeAt Go.RowKit
open Go.Proofs.Ytldgadmpclgfhaa.Base Go.Proofs.Ytldgadmpclgfhaa.Mem Go.Proofs.Ytldgadmpclgfhaa.Data
set_option linter.unusedVariables false
set_option linter.unusedSimpArgs false
abbrev JT := Int × Int
/-- The cells of a list of them. -/
def jcells : List JT → List Value
  | [] => []
  | p :: l => .int .i64 p.1 :: .int .i64 p.2 :: jcells l
section
variable {w : World} {lo hi : Nat}
end
section
variable {H : Type} {enc : TypeId × Value → H}
end
end Go.Proofs.Ytldgadmpclgfhaa.Inss
namespace Go.Proofs.Ytldgadmpclgfhaa.Grid
set_option maxRecDepth 100000
open Go.ChangeShapes Go.WideShapes Go.ChangeAt Go.RowKit
open Go.Proofs.Ytldgadmpclgfhaa.Base Go.Proofs.Ytldgadmpclgfhaa.Mem Go.Proofs.Ytldgadmpclgfhaa.Ints
abbrev Hd := Option Addr × Nat
/-- A page's header as the outer slice holds it. -/
def hcell (r : List Int) (h : Hd) : Value := .slice h.1 r.length h.2
def hcells (M : List (List Int)) (hs : List Hd) : List Value := List.zipWith hcell M hs
def blk (A : Option Addr) : Option Nat := A.map Addr.block
theorem hcells_at {M : List (List Int)} {hs : List Hd} {i : Nat} {r : List Int} {h : Hd} (h1 : M[i]? = some r) (h2 : hs[i]? = some h) : (hcells M hs)[i]? = some (.slice h.1 r.length h.2) := by
  simp [hcells, List.getElem?_zipWith, h1, h2, hcell]
theorem hcells_snoc {M : List (List Int)} {hs : List Hd} (r : List Int) (h : Hd) (hl : hs.length = M.length) : hcells (M ++ [r]) (hs ++ [h]) = hcells M hs ++ [.slice h.1 r.length h.2] := by
  unfold hcells
  rw [List.zipWith_append (by rw [hl])]
  rfl
/-- The pages, each in memory of its own. -/
def Pages (w : World) (lo hi : Nat) (M : List (List Int)) (hs : List Hd) : Prop :=
  hs.length = M.length ∧ (∀ (i : Nat) (r : List Int) (h : Hd), M[i]? = some r → hs[i]? = some h → Owned w lo hi h.1 (ncells r)) ∧
  (∀ (i j : Nat) (r r' : List Int) (h h' : Hd), i ≠ j → M[i]? = some r → hs[i]? = some h → M[j]? = some r' → hs[j]? = some h' → r ≠ [] → r' ≠ [] → blk h.1 ≠ blk h'.1)
/-- No page lies in the block. -/
def Avoids (g : Option Nat) (M : List (List Int)) (hs : List Hd) : Prop := ∀ (i : Nat) (r : List Int) (h : Hd), M[i]? = some r → hs[i]? = some h → r ≠ [] → blk h.1 ≠ g
/-- The same, read only: pages may share. -/
def Reads (w : World) (lo hi : Nat) (M : List (List Int)) (hs : List Hd) : Prop :=
  hs.length = M.length ∧ ∀ (i : Nat) (r : List Int) (h : Hd), M[i]? = some r → hs[i]? = some h → Lies w lo hi h.1 (ncells r)
section
variable {w w' : World} {lo hi lo' hi' : Nat} {M : List (List Int)} {hs : List Hd}
theorem Pages.reads (h : Pages w lo hi M hs) : Reads w lo hi M hs := ⟨h.1, fun i r k h1 h2 => (h.2.1 i r k h1 h2).1⟩
theorem Pages.nil : Pages w lo hi [] [] := ⟨rfl, fun i r h h1 => by simp at h1, fun i j r r' h h' _ h1 => by simp at h1⟩
theorem Avoids.nil {g : Option Nat} : Avoids g [] [] := fun i r h h1 => by simp at h1
theorem Pages.kept (h : Pages w lo hi M hs) (hb : ∀ k, lo ≤ k → k < hi → w'.heap[k]? = w.heap[k]?) : Pages w' lo hi M hs := ⟨h.1, fun i r k h1 h2 => (h.2.1 i r k h1 h2).kept hb, h.2.2⟩
theorem Pages.below {B : Nat} (h : Pages w lo hi M hs) (hb : Below B w w') (hB : hi ≤ B) : Pages w' lo hi M hs := h.kept fun k _ h2 => hb.block k (by omega)
theorem Pages.wide (h : Pages w lo hi M hs) (h1 : lo' ≤ lo) (h2 : hi ≤ hi') : Pages w lo' hi' M hs := ⟨h.1, fun i r k a b => (h.2.1 i r k a b).wide h1 h2, h.2.2⟩
theorem Reads.kept (h : Reads w lo hi M hs) (hb : ∀ k, lo ≤ k → k < hi → w'.heap[k]? = w.heap[k]?) : Reads w' lo hi M hs := ⟨h.1, fun i r k h1 h2 => (h.2 i r k h1 h2).kept hb⟩
theorem Reads.below {B : Nat} (h : Reads w lo hi M hs) (hb : Below B w w') (hB : hi ≤ B) : Reads w' lo hi M hs := h.kept fun k _ h2 => hb.block k (by omega)
theorem Reads.wide (h : Reads w lo hi M hs) (h1 : lo' ≤ lo) (h2 : hi ≤ hi') : Reads w lo' hi' M hs := ⟨h.1, fun i r k a b => (h.2 i r k a b).wide h1 h2⟩
/-- A page's block lies in the interval. -/
theorem Pages.block (h : Pages w lo hi M hs) {i : Nat} {r : List Int} {k : Hd} (h1 : M[i]? = some r) (h2 : hs[i]? = some k) (hr : r ≠ []) : ∃ b off, k.1 = some ⟨b, off, none⟩ ∧ lo ≤ b ∧ b < hi := by
  obtain ⟨b, off, e, x, y, _⟩ := (h.2.1 i r k h1 h2).1.at_ (by rw [ncells_len]; exact List.length_pos_iff.2 hr)
  exact ⟨b, off, e, x, y⟩
/-- One page more, in later memory. -/
theorem Pages.snoc (h : Pages w lo hi M hs) {r : List Int} {k : Hd} (ho : Owned w lo' hi' k.1 (ncells r)) (h1 : hi ≤ lo') (h2 : lo ≤ lo') (h3 : hi ≤ hi') : Pages w lo hi' (M ++ [r]) (hs ++ [k]) := by
  have hlen := h.1
  have old : ∀ (i : Nat) (r' : List Int) (k' : Hd), (M ++ [r])[i]? = some r' → (hs ++ [k])[i]? = some k' → (M[i]? = some r' ∧ hs[i]? = some k') ∨ (i = M.length ∧ r' = r ∧ k' = k) := fun i r' k' a b => by
    rcases Nat.lt_trichotomy i M.length with hi | hi | hi
    · left
      rw [List.getElem?_append_left hi] at a
      rw [List.getElem?_append_left (by omega)] at b
      exact ⟨a, b⟩
    · right
      subst hi
      rw [List.getElem?_append_right (Nat.le_refl _), Nat.sub_self] at a
      rw [List.getElem?_append_right (by omega), hlen, Nat.sub_self] at b
      simp at a b
      exact ⟨rfl, a.symm, b.symm⟩
    · rw [List.getElem?_eq_none (by simp; omega)] at a
      cases a
  have far : ∀ (i : Nat) (r' : List Int) (k' : Hd), M[i]? = some r' → hs[i]? = some k' → r' ≠ [] → r ≠ [] → blk k'.1 ≠ blk k.1 := fun i r' k' a b c d e => by
    obtain ⟨x, ox, ex, _, hx⟩ := h.block a b c
    obtain ⟨y, oy, ey, hy, _, _⟩ := ho.1.at_ (by rw [ncells_len]; exact List.length_pos_iff.2 d)
    rw [ex, ey] at e
    simp [blk] at e
    omega
  refine ⟨by simp [hlen], fun i r' k' a b => ?_, fun i j r1 r2 k1 k2 hij a b c d e f => ?_⟩
  · rcases old i r' k' a b with ⟨a', b'⟩ | ⟨_, rfl, rfl⟩
    · exact (h.2.1 i r' k' a' b').wide (Nat.le_refl _) h3
    · exact ho.wide h2 (Nat.le_refl _)
  · rcases old i r1 k1 a b with ⟨a', b'⟩ | ⟨ei, rfl, rfl⟩
    · rcases old j r2 k2 c d with ⟨c', d'⟩ | ⟨ej, rfl, rfl⟩
      · exact h.2.2 i j r1 r2 k1 k2 hij a' b' c' d' e f
      · exact far i r1 k1 a' b' e f
    · rcases old j r2 k2 c d with ⟨c', d'⟩ | ⟨ej, rfl, rfl⟩
      · exact (far j r2 k2 c' d' f e).symm
      · exact absurd (ei.trans ej.symm) hij
/-- One page is written anew at its own length: the others are as they were. -/
theorem Pages.turn (h : Pages w lo hi M hs) {i : Nat} {r r' : List Int} {k : Hd} (h1 : M[i]? = some r) (h2 : hs[i]? = some k) (hr : r.length = r'.length) {b off : Nat} (hk : k.1 = some ⟨b, off, none⟩) (hne : r ≠ [])
    (ho : Owned w' lo hi k.1 (ncells r')) (ht : ∀ q, lo ≤ q → q < hi → q ≠ b → w'.heap[q]? = w.heap[q]?) : Pages w' lo hi (M.set i r') hs := by
  have hi' : i < M.length := (List.getElem?_eq_some_iff.1 h1).1
  have old : ∀ (j : Nat) (x : List Int), (M.set i r')[j]? = some x → (j = i ∧ x = r') ∨ (j ≠ i ∧ M[j]? = some x) := fun j x a => by
    by_cases e : j = i
    · subst e
      rw [List.getElem?_set_self hi'] at a
      exact .inl ⟨rfl, by simpa using a.symm⟩
    · rw [List.getElem?_set_ne (fun e' => e e'.symm)] at a
      exact .inr ⟨e, a⟩
  have hne' : r' ≠ [] := fun e => hne (List.length_eq_zero_iff.1 (by rw [hr, e]; rfl))
  refine ⟨by rw [List.length_set]; exact h.1, fun j x q a c => ?_, fun j m x y q q' hjm a c d e f g => ?_⟩
  · rcases old j x a with ⟨rfl, rfl⟩ | ⟨hji, a'⟩
    · rw [h2] at c
      cases c
      exact ho
    · by_cases hx : x = []
      · subst hx
        exact ⟨Lies.nil, fun _ _ _ hn => absurd hn (by simp [ncells])⟩
      · obtain ⟨b', off', e', x1, x2⟩ := h.block a' c hx
        have hbb : b' ≠ b := fun e2 => h.2.2 j i x r q k hji a' c h1 h2 hx hne (by rw [e', hk, e2]; rfl)
        have hoj := h.2.1 j x q a' c
        rw [e'] at hoj ⊢
        have tight : Owned w b' (b' + 1) (some ⟨b', off', none⟩) (ncells x) := ⟨fun j' u hu => by
          obtain ⟨b2, o2, e2, _, _, z⟩ := hoj.1 j' u hu
          cases e2
          exact ⟨b', off', rfl, Nat.le_refl _, Nat.lt_succ_self _, z⟩, hoj.2⟩
        exact (tight.kept fun q2 q3 q4 => ht q2 (by omega) (by omega) (by omega)).wide x1 (by omega)
  · rcases old j x a with ⟨rfl, rfl⟩ | ⟨hji, a'⟩
    · rcases old m y d with ⟨rfl, rfl⟩ | ⟨hmi, d'⟩
      · exact absurd rfl hjm
      · exact h.2.2 j m r y q q' hjm h1 c d' e hne g
    · rcases old m y d with ⟨rfl, rfl⟩ | ⟨hmi, d'⟩
      · exact h.2.2 j m x r q q' hjm a' c h1 e f hne
      · exact h.2.2 j m x y q q' hjm a' c d' e f g
end
end Go.Proofs.Ytldgadmpclgfhaa.Grid
namespace Go.Proofs.Ytldgadmpclgfhaa.Grid
set_option maxRecDepth 100000
open Go.ChangeShapes Go.WideShapes Go.ChangeAt Go.RowKit
open Go.Proofs.Ytldgadmpclgfhaa.Base Go.Proofs.Ytldgadmpclgfhaa.Mem Go.Proofs.Ytldgadmpclgfhaa.Ints
/-- A memory that is only read: its pages may share. -/
def RG (w : World) (lo hi : Nat) (A : Option Addr) (M : List (List Int)) (hs : List Hd) : Prop := Lies w lo hi A (hcells M hs) ∧ Reads w lo hi M hs
/-- A memory with memory of its own. -/
def OG (w : World) (lo hi : Nat) (A : Option Addr) (M : List (List Int)) (hs : List Hd) : Prop := Owned w lo hi A (hcells M hs) ∧ Pages w lo hi M hs ∧ Avoids (blk A) M hs
section
variable {w w' : World} {lo hi lo' hi' : Nat} {A : Option Addr} {M : List (List Int)} {hs : List Hd}
theorem RG.kept (h : RG w lo hi A M hs) (hb : ∀ k, lo ≤ k → k < hi → w'.heap[k]? = w.heap[k]?) : RG w' lo hi A M hs := ⟨h.1.kept hb, h.2.kept hb⟩
theorem OG.kept (h : OG w lo hi A M hs) (hb : ∀ k, lo ≤ k → k < hi → w'.heap[k]? = w.heap[k]?) : OG w' lo hi A M hs := ⟨h.1.kept hb, h.2.1.kept hb, h.2.2⟩
theorem RG.below {B : Nat} (h : RG w lo hi A M hs) (hb : Below B w w') (hB : hi ≤ B) : RG w' lo hi A M hs := h.kept fun k _ h2 => hb.block k (by omega)
theorem OG.below {B : Nat} (h : OG w lo hi A M hs) (hb : Below B w w') (hB : hi ≤ B) : OG w' lo hi A M hs := h.kept fun k _ h2 => hb.block k (by omega)
theorem RG.wide (h : RG w lo hi A M hs) (h1 : lo' ≤ lo) (h2 : hi ≤ hi') : RG w lo' hi' A M hs := ⟨h.1.wide h1 h2, h.2.wide h1 h2⟩
theorem OG.wide (h : OG w lo hi A M hs) (h1 : lo' ≤ lo) (h2 : hi ≤ hi') : OG w lo' hi' A M hs := ⟨h.1.wide h1 h2, h.2.1.wide h1 h2, h.2.2⟩
theorem RG.drewN (h : RG w lo hi A M hs) (n : Nat) : RG (w.drewN n) lo hi A M hs := h
theorem OG.drewN (h : OG w lo hi A M hs) (n : Nat) : OG (w.drewN n) lo hi A M hs := h
theorem OG.turned {lo2 hi2 : Nat} (h : OG w lo hi A M hs) (hb : ∀ k, k < w.heap.size → (k < lo2 ∨ hi2 ≤ k) → w'.heap[k]? = w.heap[k]?) (hh : hi ≤ w.heap.size) (hd : hi ≤ lo2 ∨ hi2 ≤ lo) : OG w' lo hi A M hs :=
  h.kept fun k h1 h2 => hb k (by omega) (by omega)
theorem RG.turned {lo2 hi2 : Nat} (h : RG w lo hi A M hs) (hb : ∀ k, k < w.heap.size → (k < lo2 ∨ hi2 ≤ k) → w'.heap[k]? = w.heap[k]?) (hh : hi ≤ w.heap.size) (hd : hi ≤ lo2 ∨ hi2 ≤ lo) : RG w' lo hi A M hs :=
  h.kept fun k h1 h2 => hb k (by omega) (by omega)
theorem hd_at (h : hs.length = M.length) {i : Nat} (hi : i < M.length) : ∃ k : Hd, hs[i]? = some k := ⟨hs[i]'(by omega), List.getElem?_eq_getElem _⟩
/-- One page of a memory that is read. -/
theorem RG.page (h : RG w lo hi A M hs) (i : Nat) (hi' : i < M.length) : ∃ b off B c, A = some ⟨b, off, none⟩ ∧ lo ≤ b ∧ b < hi ∧ w.cell? ⟨b, off + i, none⟩ = some (.slice B M[i].length c) ∧ Lies w lo hi B (ncells M[i]) := by
  obtain ⟨k, hk⟩ := hd_at h.2.1 hi'
  obtain ⟨b, off, e, x, y, z⟩ := h.1 i _ (hcells_at (List.getElem?_eq_getElem hi') hk)
  exact ⟨b, off, k.1, k.2, e, x, y, z, h.2.2 i _ k (List.getElem?_eq_getElem hi') hk⟩
theorem Owned.keptBut {g : Nat} {cs : List Value} (h : Owned w lo hi A cs) (ha : ∀ b off, A = some ⟨b, off, none⟩ → 0 < cs.length → b ≠ g) (hb : ∀ k, lo ≤ k → k < hi → k ≠ g → w'.heap[k]? = w.heap[k]?) : Owned w' lo hi A cs := by
  by_cases hc : 0 < cs.length
  · obtain ⟨b, off, e, x, y, z⟩ := h.1.at_ hc
    subst e
    have hbg := ha b off rfl hc
    have tight : Owned w b (b + 1) (some ⟨b, off, none⟩) cs := ⟨fun j u hu => ⟨b, off, rfl, Nat.le_refl _, Nat.lt_succ_self _, z j u hu⟩, h.2⟩
    exact (tight.kept fun q q3 q4 => hb q (by omega) (by omega) (by omega)).wide x (by omega)
  · have : cs = [] := List.eq_nil_of_length_eq_zero (by omega)
    subst this
    exact ⟨Lies.nil, fun _ _ _ hn => absurd hn (by simp)⟩
theorem Pages.keptBut {g : Nat} (h : Pages w lo hi M hs) (ha : Avoids (some g) M hs) (hb : ∀ k, lo ≤ k → k < hi → k ≠ g → w'.heap[k]? = w.heap[k]?) : Pages w' lo hi M hs :=
  ⟨h.1, fun i r k h1 h2 => Owned.keptBut (h.2.1 i r k h1 h2) (fun b off e hn e2 => ha i r k h1 h2 (fun er => by subst er; simp [ncells] at hn) (by rw [e, e2]; rfl)) hb, h.2.2⟩
theorem Avoids.of_lo {g : Nat} (h : Pages w lo hi M hs) (hg : g < lo ∨ hi ≤ g) : Avoids (some g) M hs := fun i r k h1 h2 hr e => by
  obtain ⟨b, off, e', x, y⟩ := h.block h1 h2 hr
  rw [e'] at e
  simp [blk] at e
  omega
theorem snoc_cases (hlen : hs.length = M.length) {r : List Int} {k : Hd} (i : Nat) (r' : List Int) (k' : Hd) (a : (M ++ [r])[i]? = some r') (b : (hs ++ [k])[i]? = some k') : (M[i]? = some r' ∧ hs[i]? = some k') ∨ (i = M.length ∧ r' = r ∧ k' = k) := by
  rcases Nat.lt_trichotomy i M.length with hi | hi | hi
  · left
    rw [List.getElem?_append_left hi] at a
    rw [List.getElem?_append_left (by omega)] at b
    exact ⟨a, b⟩
  · right
    subst hi
    rw [List.getElem?_append_right (Nat.le_refl _), Nat.sub_self] at a
    rw [List.getElem?_append_right (by omega), hlen, Nat.sub_self] at b
    simp at a b
    exact ⟨rfl, a.symm, b.symm⟩
  · rw [List.getElem?_eq_none (by simp; omega)] at a
    cases a
theorem Avoids.snoc {g : Option Nat} (h : Avoids g M hs) (hlen : hs.length = M.length) {r : List Int} {k : Hd} (hk : r ≠ [] → blk k.1 ≠ g) : Avoids g (M ++ [r]) (hs ++ [k]) := fun i r' k' a b hr => by
  rcases snoc_cases hlen i r' k' a b with ⟨a', b'⟩ | ⟨_, rfl, rfl⟩
  · exact h i r' k' a' b' hr
  · exact hk hr
theorem hcells_set {i : Nat} {r : List Int} (hi : i < M.length) (hr : r.length = M[i].length) : hcells (M.set i r) hs = hcells M hs := by
  apply List.ext_getElem?
  intro j
  simp only [hcells, List.getElem?_zipWith, List.getElem?_set]
  by_cases e : i = j
  · subst e
    simp only [if_true, List.getElem?_eq_getElem hi]
    cases hs[i]? <;> simp [hi, hcell, hr]
  · simp only [if_neg e]
theorem hcells_put {i : Nat} {r : List Int} {k : Hd} (hl : hs.length = M.length) (hi : i < M.length) : hcells (M.set i r) (hs.set i k) = (hcells M hs).set i (.slice k.1 r.length k.2) := by
  apply List.ext_getElem?
  intro j
  simp only [hcells, List.getElem?_zipWith, List.getElem?_set, List.length_zipWith]
  by_cases e : i = j
  · subst e
    simp [hi, hl, hcell]
  · simp only [if_neg e]
/-- A page that is to be written at its own length. -/
theorem OG.write (h : OG w lo hi A M hs) (hh : hi ≤ w.heap.size) (i : Nat) (hi' : i < M.length) : ∃ b off B c lo' hi', A = some ⟨b, off, none⟩ ∧ b < hi ∧ w.cell? ⟨b, off + i, none⟩ = some (.slice B M[i].length c) ∧ Owned w lo' hi' B (ncells M[i]) ∧
    ∀ w' r', r'.length = M[i].length → Owned w' lo' hi' B (ncells r') → Turned lo' hi' w w' → OG w' lo hi A (M.set i r') hs ∧ Turned lo hi w w' := by
  obtain ⟨k, hk⟩ := hd_at h.2.1.1 hi'
  obtain ⟨b, off, e, x, y, z⟩ := h.1.1 i _ (hcells_at (List.getElem?_eq_getElem hi') hk)
  have ho := h.2.1.2.1 i _ k (List.getElem?_eq_getElem hi') hk
  by_cases hr : M[i] = []
  · refine ⟨b, off, k.1, k.2, 0, 0, e, y, z, ?_, fun w' r' hl _ ht => ?_⟩
    · rw [hr]
      exact ⟨Lies.nil, fun _ _ _ hn => absurd hn (by simp [ncells])⟩
    · have hr' : r' = M[i] := by
        rw [hr] at hl ⊢
        exact List.eq_nil_of_length_eq_zero (by simpa using hl)
      subst hr'
      rw [List.set_getElem_self]
      exact ⟨h.kept fun q _ q2 => ht.block q (by omega) (by omega), ⟨ht.os, ht.tape, ht.output, ht.size, fun q q1 _ => ht.block q q1 (by omega)⟩⟩
  · obtain ⟨b', off', e', x', y', z'⟩ := ho.1.at_ (by rw [ncells_len]; exact List.length_pos_iff.2 hr)
    have hbb : b' ≠ b := fun e2 => h.2.2 i _ k (List.getElem?_eq_getElem hi') hk hr (by rw [e', e, e2]; rfl)
    refine ⟨b, off, k.1, k.2, b', b' + 1, e, y, z, ?_, fun w' r' hl ho' ht => ?_⟩
    · rw [e'] at ho ⊢
      exact ⟨fun j u hu => ⟨b', off', rfl, Nat.le_refl _, Nat.lt_succ_self _, z' j u hu⟩, ho.2⟩
    · have hkeep : ∀ q, lo ≤ q → q < hi → q ≠ b' → w'.heap[q]? = w.heap[q]? := fun q _ q2 q3 => ht.block q (by omega) (by omega)
      refine ⟨⟨?_, h.2.1.turn (List.getElem?_eq_getElem hi') hk hl.symm e' hr (ho'.wide x' (by omega)) hkeep, ?_⟩, ⟨ht.os, ht.tape, ht.output, ht.size, fun q q1 q2 => ht.block q q1 (by omega)⟩⟩
      · rw [hcells_set hi' hl]
        exact Owned.keptBut h.1 (fun b2 off2 e2 _ e3 => by rw [e] at e2; cases e2; exact hbb e3.symm) hkeep
      · intro j r2 k2 h1 h2 hr2
        by_cases e2 : j = i
        · subst e2
          rw [hk] at h2
          cases h2
          rw [e', e]
          intro e3
          simp [blk] at e3
          exact hbb e3
        · rw [List.getElem?_set_ne (fun e3 => e2 e3.symm)] at h1
          exact h.2.2 j r2 k2 h1 h2 hr2
/-- A page is put in another's place. -/
theorem OG.put {b off lo2 hi2 : Nat} (h : OG w lo hi (some ⟨b, off, none⟩) M hs) (i : Nat) (hi' : i < M.length) {r : List Int} {k : Hd} (ho : Owned w lo2 hi2 k.1 (ncells r)) (h1 : hi ≤ lo2) (h2 : lo ≤ lo2) (h3 : hi ≤ hi2) :
    OG (w.setCell ⟨b, off + i, none⟩ (.slice k.1 r.length k.2)) lo hi2 (some ⟨b, off, none⟩) (M.set i r) (hs.set i k) := by
  have hl := h.2.1.1
  obtain ⟨k0, hk0⟩ := hd_at hl hi'
  obtain ⟨b', off', e, x, y, z⟩ := h.1.1 i _ (hcells_at (List.getElem?_eq_getElem hi') hk0)
  cases e
  have hkeep : ∀ q, q ≠ b → (w.setCell ⟨b, off + i, none⟩ (.slice k.1 r.length k.2)).heap[q]? = w.heap[q]? := fun q hq => Below.heap_setCell w ⟨b, off + i, none⟩ _ q hq
  have old : ∀ (j : Nat) (r' : List Int) (k' : Hd), (M.set i r)[j]? = some r' → (hs.set i k)[j]? = some k' → (j ≠ i ∧ M[j]? = some r' ∧ hs[j]? = some k') ∨ (j = i ∧ r' = r ∧ k' = k) := fun j r' k' a c => by
    by_cases e : j = i
    · subst e
      rw [List.getElem?_set_self hi'] at a
      rw [List.getElem?_set_self (by omega)] at c
      exact .inr ⟨rfl, by simpa using a.symm, by simpa using c.symm⟩
    · rw [List.getElem?_set_ne (fun e' => e e'.symm)] at a c
      exact .inl ⟨e, a, c⟩
  have far : ∀ (j : Nat) (r' : List Int) (k' : Hd), M[j]? = some r' → hs[j]? = some k' → r' ≠ [] → r ≠ [] → blk k'.1 ≠ blk k.1 := fun j r' k' a c d f e => by
    obtain ⟨x1, ox, ex, _, hx⟩ := h.2.1.block a c d
    obtain ⟨y1, oy, ey, hy, _, _⟩ := ho.1.at_ (by rw [ncells_len]; exact List.length_pos_iff.2 f)
    rw [ex, ey] at e
    simp [blk] at e
    omega
  have near : r ≠ [] → ∀ b2 off2, k.1 = some ⟨b2, off2, none⟩ → b2 ≠ b := fun hr b2 off2 e e2 => by
    obtain ⟨y1, oy, ey, hy, _, _⟩ := ho.1.at_ (by rw [ncells_len]; exact List.length_pos_iff.2 hr)
    rw [e] at ey
    cases ey
    omega
  refine ⟨?_, ⟨by simp [hl], fun j r' k' a c => ?_, fun j m r1 r2 k1 k2 hjm a c d e f g => ?_⟩, fun j r' k' a c hr => ?_⟩
  · rw [hcells_put hl hi']
    exact (h.1.set i _).wide (Nat.le_refl _) h3
  · rcases old j r' k' a c with ⟨_, a', c'⟩ | ⟨_, rfl, rfl⟩
    · exact (Owned.keptBut (g := b) (h.2.1.2.1 j r' k' a' c') (fun b2 off2 e hn e2 => h.2.2 j r' k' a' c' (fun er => by subst er; simp [ncells] at hn) (by rw [e, e2]; rfl)) (fun q _ _ hq => hkeep q hq)).wide (Nat.le_refl _) h3
    · exact (Owned.keptBut (g := b) ho (fun b2 off2 e hn => near (fun er => by subst er; simp [ncells] at hn) b2 off2 e) (fun q _ _ hq => hkeep q hq)).wide h2 (Nat.le_refl _)
  · rcases old j r1 k1 a c with ⟨_, a', c'⟩ | ⟨ej, rfl, rfl⟩
    · rcases old m r2 k2 d e with ⟨_, d', e'⟩ | ⟨em, rfl, rfl⟩
      · exact h.2.1.2.2 j m r1 r2 k1 k2 hjm a' c' d' e' f g
      · exact far j r1 k1 a' c' f g
    · rcases old m r2 k2 d e with ⟨_, d', e'⟩ | ⟨em, rfl, rfl⟩
      · exact (far m r2 k2 d' e' g f).symm
      · exact absurd (ej.trans em.symm) hjm
  · rcases old j r' k' a c with ⟨_, a', c'⟩ | ⟨ej, rfl, rfl⟩
    · exact h.2.2 j r' k' a' c' hr
    · intro e
      obtain ⟨y1, oy, ey, hy, _, _⟩ := ho.1.at_ (by rw [ncells_len]; exact List.length_pos_iff.2 hr)
      exact near hr y1 oy ey (by rw [ey] at e; simpa [blk] using e)
/-- A memory that grows page by page. -/
structure Built (T : TypeId) (w0 w : World) (g cap k : Nat) (M : List (List Int)) (hs : List Hd) : Prop where
  row : w.ownsRow w0.heap.size T 1 (.slice (some ⟨g, 0, none⟩) k cap) k (hcells M hs)
  pages : Pages w w0.heap.size w.heap.size M hs
  avoid : Avoids (some g) M hs
  below : Below w0.heap.size w0 w
theorem Built.start (T : TypeId) (w0 : World) : Built T w0 (w0.alloc (.cells #[] T)) w0.heap.size 0 0 [] [] :=
  ⟨World.ownsRow_made w0 #[] 0 (Nat.le_refl _) (Nat.zero_le _) rfl, Pages.nil, Avoids.nil, (Below.refl _ _).alloc (Nat.le_refl _) _⟩
theorem Built.step {T : TypeId} {w0 w1 w2 : World} {g cap k g' cap' c : Nat} {B : Option Addr} {r : List Int} {o : Obj} (h : Built T w0 w g cap k M hs) (hb : Below w.heap.size w w1) (ho : Owned w1 w.heap.size w1.heap.size B (ncells r))
    (hrow : w2.ownsRow w0.heap.size T 1 (.slice (some ⟨g', 0, none⟩) (k + 1) cap') (k + 1) (hcells M hs ++ [.slice B r.length c])) (hgrow : (w1.alloc o).grownBy w2 (some g)) (hg : some g = some g' ∨ g' = (w1.alloc o).heap.size) :
    Built T w0 w2 g' cap' (k + 1) (M ++ [r]) (hs ++ [(B, c)]) := by
  have hl := h.pages.1
  have hglt := (h.row.lt g rfl).2
  have hsz := hb.size
  have h12 : w1.heap.size < w2.heap.size := by
    have := hgrow.size
    simp at this
    omega
  have hblock : ∀ q, q < w1.heap.size → q ≠ g → w2.heap[q]? = w1.heap[q]? := fun q hq hqg => by
    rw [hgrow.block q (by simp; omega) (by simp; exact hqg)]
    exact ((Below.refl w1.heap.size w1).alloc (Nat.le_refl _) o).block q hq
  have p1 : Pages w1 w0.heap.size w.heap.size M hs := h.pages.below hb (Nat.le_refl _)
  have p2 := p1.snoc (k := (B, c)) ho (Nat.le_refl _) h.below.size hsz
  have a2 : Avoids (some g) (M ++ [r]) (hs ++ [(B, c)]) := h.avoid.snoc hl fun hr e => by
    obtain ⟨y1, oy, ey, hy, _, _⟩ := ho.1.at_ (by rw [ncells_len]; exact List.length_pos_iff.2 hr)
    simp only [ey] at e
    simp [blk] at e
    omega
  refine ⟨?_, (p2.keptBut a2 (fun q _ q2 q3 => hblock q q2 q3)).wide (Nat.le_refl _) (Nat.le_of_lt h12), ?_, ?_⟩
  · rw [hcells_snoc r (B, c) hl]
    exact hrow
  · rcases hg with e | e
    · cases e
      exact a2
    · subst e
      exact Avoids.of_lo p2 (.inr (by simp))
  · have hgl := (h.row.lt g rfl).1
    exact ((h.below.trans (hb.mono h.below.size)).alloc (Nat.le_trans h.below.size hsz) o).grown hgrow (by have := h.below.size; simp; omega) (fun j hj => by cases hj; exact hgl)
end
end Go.Proofs.Ytldgadmpclgfhaa.Grid
namespace Go.Proofs.Ytldgadmpclgfhaa.Grid
set_option maxRecDepth 100000
open Go.ChangeShapes Go.WideShapes Go.ChangeAt Go.RowKit
open Go.Proofs.Ytldgadmpclgfhaa.Base Go.Proofs.Ytldgadmpclgfhaa.Mem Go.Proofs.Ytldgadmpclgfhaa.Ints
theorem grown_of_below {w w' : World} (h : Below w.heap.size w w') (row : Option Nat) : w.grownBy w' row := ⟨h.os, h.tape, h.output, h.size, fun i hi _ => h.block i hi⟩
theorem take_set1 {xs : List Value} {k : Nat} {ys : List Value} {u : Value} (h : xs.take k = ys) (hl : k < xs.length) : (xs.set k u).take (k + 1) = ys ++ [u] := by
  rw [← h, List.take_succ_eq_append_getElem (by simpa using hl)]
  simp [List.take_set_of_le]
/-- A memory made at its full length whose pages are put one by one. -/
structure Filled (T : TypeId) (w0 w : World) (n k : Nat) (xs : List Value) (M : List (List Int)) (hs : List Hd) : Prop where
  row : w.ownsRow w0.heap.size T 1 (.slice (some ⟨w0.heap.size, 0, none⟩) n n) n xs
  cells : xs.take k = hcells M hs
  pages : Pages w (w0.heap.size + 1) w.heap.size M hs
  below : Below w0.heap.size w0 w
  size : w0.heap.size < w.heap.size
  len : M.length = k
theorem Filled.step {T : TypeId} {w0 w w1 : World} {n k c : Nat} {xs : List Value} {M : List (List Int)} {hs : List Hd} {B : Option Addr} {r : List Int} (h : Filled T w0 w n k xs M hs) (hk : k < n) (hb : Below w.heap.size w w1) (ho : Owned w1 w.heap.size w1.heap.size B (ncells r)) :
    Filled T w0 (w1.setCell ⟨w0.heap.size, k, none⟩ (.slice B r.length c)) n (k + 1) (xs.set k (.slice B r.length c)) (M ++ [r]) (hs ++ [(B, c)]) := by
  have hl := h.pages.1
  have h0 := h.size
  have hr1 := h.row.kept (grown_of_below hb none) (.inr (by simp [Value.ownBlock]))
  refine ⟨(hr1.stored k _).1, ?_, ?_, ((h.below.trans (hb.mono h.below.size)).setCell (p := ⟨w0.heap.size, k, none⟩) (Nat.le_refl _) _), by have := hb.size; simp; omega, by simp [h.len]⟩
  · rw [hcells_snoc r (B, c) hl]
    exact take_set1 h.cells (by have := h.row.1; omega)
  · have p2 := (h.pages.below hb (Nat.le_refl _)).snoc (k := (B, c)) ho (Nat.le_refl _) h0 hb.size
    have e : (w1.setCell ⟨w0.heap.size, k, none⟩ (.slice B r.length c)).heap.size = w1.heap.size := by simp
    rw [e]
    exact p2.kept fun q q1 _ => Below.heap_setCell w1 ⟨w0.heap.size, k, none⟩ _ q (by show q ≠ w0.heap.size; omega)
theorem Filled.start {T : TypeId} {w0 w : World} {n : Nat} {xs : List Value} (hr : w.ownsRow w0.heap.size T 1 (.slice (some ⟨w0.heap.size, 0, none⟩) n n) n xs) (hg : w0.grownBy w none) : Filled T w0 w n 0 xs [] [] :=
  ⟨hr, rfl, Pages.nil, (Below.refl _ _).grown hg (Nat.le_refl _) (fun _ h => by cases h), (hr.lt _ rfl).2, rfl⟩
def tot : List (List Int) → Nat
  | [] => 0
  | r :: M => r.length + tot M
theorem tot_append : ∀ M N, tot (M ++ N) = tot M + tot N
  | [], N => by simp [tot]
  | r :: M, N => by simp [tot, tot_append M N]; omega
theorem tot_take {M : List (List Int)} {k : Nat} (hk : k < M.length) : tot (M.take (k + 1)) = tot (M.take k) + M[k].length := by
  rw [List.take_succ_eq_append_getElem hk, tot_append]; simp [tot]
theorem tot_take_le (M : List (List Int)) (k : Nat) : tot (M.take k) ≤ tot M := by
  have := tot_append (M.take k) (M.drop k)
  rw [List.take_append_drop] at this
  omega
theorem tot_at {M : List (List Int)} {k : Nat} (hk : k < M.length) : M[k].length ≤ tot M := by
  have := tot_take hk
  have := tot_take_le M (k + 1)
  omega
/-- The bounds that the laws keep. -/
structure capG (M : List (List Int)) : Prop where
  len : M.length ≤ 1048576
  all : tot M ≤ 1048580
  page : ∀ r ∈ M, r.length ≤ 1048576
theorem capG.at_ {M : List (List Int)} (h : capG M) {k : Nat} (hk : k < M.length) : M[k].length ≤ 1048576 := h.page _ (List.getElem_mem _)
theorem capG.of {M : List (List Int)} (h : M.length + tot M ≤ 1048576) : capG M := ⟨by omega, by omega, fun r hr => by
  obtain ⟨k, hk, rfl⟩ := List.getElem_of_mem hr
  have := tot_at hk
  omega⟩
end Go.Proofs.Ytldgadmpclgfhaa.Grid
namespace Go.Proofs.Ytldgadmpclgfhaa.Part
set_option maxRecDepth 100000
open Go.ChangeShapes Go.WideShapes Go.ChangeAt Go.RowKit
open Go.Proofs.Ytldgadmpclgfhaa.Base Go.Proofs.Ytldgadmpclgfhaa.Mem Go.Proofs.Ytldgadmpclgfhaa.Slots Go.Proofs.Ytldgadmpclgfhaa.Data Go.Proofs.Ytldgadmpclgfhaa.Ints Go.Proofs.Ytldgadmpclgfhaa.Inss Go.Proofs.Ytldgadmpclgfhaa.Grid
set_option linter.unusedVariables false
set_option linter.unusedSimpArgs false
/-- A slice's value that is read only: its n elements have the cells cs. -/
def SR (w : World) (lo hi : Nat) (cs : List Value) (n : Nat) (P : Value) : Prop := ∃ A c, P = .slice A n c ∧ Lies w lo hi A cs
/-- .. in memory of its own, its length within its capacity. -/
def SO (w : World) (lo hi : Nat) (cs : List Value) (n : Nat) (P : Value) : Prop := ∃ A c, P = .slice A n c ∧ n ≤ c ∧ Owned w lo hi A cs
/-- The block that a slice's value leads to. -/
def bl : Value → List Nat
  | .slice (some a) n _ => if n = 0 then [] else [a.block]
  | _ => []
/-- The blocks F alone have turned. -/
structure Chg (w w' : World) (F : List Nat) : Prop where
  os : w'.os = w.os
  tape : w'.tape = w.tape
  output : w'.output = w.output
  size : w.heap.size ≤ w'.heap.size
  block : ∀ k, k < w.heap.size → k ∉ F → w'.heap[k]? = w.heap[k]?
section
variable {w w' w'' : World} {lo hi lo' hi' n : Nat} {cs : List Value} {P : Value} {F G : List Nat}
theorem SO.reads (h : SO w lo hi cs n P) : SR w lo hi cs n P := by
  obtain ⟨A, c, h1, _, h2⟩ := h
  exact ⟨A, c, h1, h2.1⟩
theorem SR.kept (h : SR w lo hi cs n P) (hb : ∀ k, lo ≤ k → k < hi → w'.heap[k]? = w.heap[k]?) : SR w' lo hi cs n P := by
  obtain ⟨A, c, h1, h2⟩ := h
  exact ⟨A, c, h1, h2.kept hb⟩
theorem SR.wide (h : SR w lo hi cs n P) (a : lo' ≤ lo) (b : hi ≤ hi') : SR w lo' hi' cs n P := by
  obtain ⟨A, c, h1, h2⟩ := h
  exact ⟨A, c, h1, h2.wide a b⟩
theorem SR.below {B : Nat} (h : SR w lo hi cs n P) (hb : Below B w w') (hB : hi ≤ B) : SR w' lo hi cs n P := h.kept fun k _ h2 => hb.block k (by omega)
theorem SO.kept (h : SO w lo hi cs n P) (hb : ∀ k, lo ≤ k → k < hi → w'.heap[k]? = w.heap[k]?) : SO w' lo hi cs n P := by
  obtain ⟨A, c, h1, h3, h2⟩ := h
  exact ⟨A, c, h1, h3, h2.kept hb⟩
theorem SO.wide (h : SO w lo hi cs n P) (a : lo' ≤ lo) (b : hi ≤ hi') : SO w lo' hi' cs n P := by
  obtain ⟨A, c, h1, h3, h2⟩ := h
  exact ⟨A, c, h1, h3, h2.wide a b⟩
theorem SO.below {B : Nat} (h : SO w lo hi cs n P) (hb : Below B w w') (hB : hi ≤ B) : SO w' lo hi cs n P := h.kept fun k _ h2 => hb.block k (by omega)
theorem SO.far (h : SO w lo hi cs n P) {z : Nat} (hz : z < lo ∨ hi ≤ z) (i : Nat) (u : Value) : SO (w.setCell ⟨z, i, none⟩ u) lo hi cs n P :=
  h.kept fun k h1 h2 => Below.heap_setCell w ⟨z, i, none⟩ u k (by show k ≠ z; omega)
theorem bl_blks {A : Option Addr} {c : Nat} (h : cs = [] ↔ n = 0) : bl (.slice A n c) = blks A cs := by
  unfold blks bl
  cases A with
  | none => simp
  | some a =>
    by_cases hn : n = 0
    · rw [if_pos (h.2 hn)]; simp [hn]
    · rw [if_neg (fun e => hn (h.1 e))]; simp [hn]
theorem SO.inB (h : SO w lo hi cs n P) (hc : cs = [] ↔ n = 0) {k : Nat} (hk : k ∈ bl P) : lo ≤ k ∧ k < hi := by
  obtain ⟨A, c, rfl, _, h2⟩ := h
  rw [bl_blks hc] at hk
  exact blks_in h2 hk
theorem Chg.refl (w : World) (F : List Nat) : Chg w w F := ⟨rfl, rfl, rfl, Nat.le_refl _, fun _ _ _ => rfl⟩
theorem Chg.trans (h : Chg w w' F) (k : Chg w' w'' G) : Chg w w'' (F ++ G) :=
  ⟨k.os.trans h.os, k.tape.trans h.tape, k.output.trans h.output, Nat.le_trans h.size k.size, fun b hb hF => (k.block b (Nat.lt_of_lt_of_le hb h.size) fun e => hF (List.mem_append_right _ e)).trans (h.block b hb fun e => hF (List.mem_append_left _ e))⟩
theorem Chg.turned (h : Chg w w' F) (hF : ∀ k ∈ F, lo ≤ k ∧ k < hi) : Turned lo hi w w' := ⟨h.os, h.tape, h.output, h.size, fun k hk hd => h.block k hk fun e => by have := hF k e; omega⟩
theorem Chg.same (h : Chg w w' F) {k : Nat} (hk : k < w.heap.size) (hF : k ∉ F) : w'.heap[k]? = w.heap[k]? := h.block k hk hF
theorem tight {A : Option Addr} (h : Owned w lo hi A cs) : ∃ p q, Owned w p q A cs ∧ (∀ k, k ∉ blks A cs → (k < p ∨ q ≤ k)) := by
  by_cases hc : cs = []
  · subst hc
    exact ⟨0, 0, ⟨Lies.nil, fun b off e h => by simp at h⟩, fun k _ => .inr (Nat.zero_le _)⟩
  · obtain ⟨b, off, rfl, x, y, hx⟩ := h.1.at_ (List.length_pos_iff.2 hc)
    refine ⟨b, b + 1, ⟨fun j u hu => ⟨b, off, rfl, Nat.le_refl _, by omega, hx j u hu⟩, h.2⟩, fun k hk => ?_⟩
    have : k ≠ b := fun e => hk (by simp [blks, hc, e])
    omega
end
end Go.Proofs.Ytldgadmpclgfhaa.Part
namespace Go.Proofs.Ytldgadmpclgfhaa.Ctls
set_option maxRecDepth 100000
open Go.ChangeShapes Go.WideShapes Go.ChangeAt Go.RowKit
open Go.Proofs.Ytldgadmpclgfhaa.Base Go.Proofs.Ytldgadmpclgfhaa.Mem Go.Proofs.Ytldgadmpclgfhaa.Data
set_option linter.unusedVariables false
set_option linter.unusedSimpArgs false
abbrev CT := Int × Int × Bool
def rCtl : Rp CT := rPair rInt (rPair rInt rBool)
section
variable {H : Type} {enc : TypeId × Value → H} {w : World} {lo hi : Nat}
end
end Go.Proofs.Ytldgadmpclgfhaa.Ctls
namespace Go.Proofs.Ytldgadmpclgfhaa.Exits
set_option maxRecDepth 100000
open Go.ChangeShapes Go.WideShapes Go.ChangeAt Go.RowKit
open Go.Proofs.Ytldgadmpclgfhaa.Base Go.Proofs.Ytldgadmpclgfhaa.Mem Go.Proofs.Ytldgadmpclgfhaa.Data
set_option linter.unusedVariables false
set_option linter.unusedSimpArgs false
abbrev QT := Int × Int × Bool × Int
def rExit : Rp QT := rPair rInt (rPair rInt (rPair rBool rInt))
section
variable {H : Type} {enc : TypeId × Value → H} {w : World} {lo hi : Nat}
end
end Go.Proofs.Ytldgadmpclgfhaa.Exits
namespace Go.Proofs.Ytldgadmpclgfhaa.Guests
set_option maxRecDepth 100000
open Go.ChangeShapes Go.WideShapes Go.ChangeAt Go.RowKit
open Go.Proofs.Ytldgadmpclgfhaa.Base Go.Proofs.Ytldgadmpclgfhaa.Mem Go.Proofs.Ytldgadmpclgfhaa.Slots Go.Proofs.Ytldgadmpclgfhaa.Data Go.Proofs.Ytldgadmpclgfhaa.Ints Go.Proofs.Ytldgadmpclgfhaa.Inss Go.Proofs.Ytldgadmpclgfhaa.Ctls Go.Proofs.Ytldgadmpclgfhaa.Exits Go.Proofs.Ytldgadmpclgfhaa.Part
set_option linter.unusedVariables false
set_option linter.unusedSimpArgs false
structure gT where
  prog : List JT
  a : Int
  pc : Int
  wr : List Sl
  lv : List Sl
  t : CT
  pd : Int
  x : QT
  hl : Bool
  seen : List Int
/-- The slices are read only. -/
structure gR (w : World) (lo hi : Nat) (g : gT) (P0 P1 P2 P3 : Value) : Prop where
  r0 : SR w lo hi (jcells g.prog) g.prog.length P0
  r1 : SR w lo hi (scells g.wr) g.wr.length P1
  r2 : SR w lo hi (scells g.lv) g.lv.length P2
  r3 : SR w lo hi (ncells g.seen) g.seen.length P3
/-- .. in memory of their own: no two share a block. -/
structure gO (w : World) (lo hi : Nat) (g : gT) (P0 P1 P2 P3 : Value) : Prop where
  r0 : SO w lo hi (jcells g.prog) g.prog.length P0
  r1 : SO w lo hi (scells g.wr) g.wr.length P1
  r2 : SO w lo hi (scells g.lv) g.lv.length P2
  r3 : SO w lo hi (ncells g.seen) g.seen.length P3
  d01 : ∀ k ∈ bl P0, k ∉ bl P1
  d02 : ∀ k ∈ bl P0, k ∉ bl P2
  d03 : ∀ k ∈ bl P0, k ∉ bl P3
  d12 : ∀ k ∈ bl P1, k ∉ bl P2
  d13 : ∀ k ∈ bl P1, k ∉ bl P3
  d23 : ∀ k ∈ bl P2, k ∉ bl P3
section
variable {w w' : World} {lo hi lo' hi' : Nat} {g : gT} {P0 P1 P2 P3 : Value}
theorem gO.reads (h : gO w lo hi g P0 P1 P2 P3) : gR w lo hi g P0 P1 P2 P3 := ⟨h.r0.reads, h.r1.reads, h.r2.reads, h.r3.reads⟩
theorem gR.kept (h : gR w lo hi g P0 P1 P2 P3) (hb : ∀ k, lo ≤ k → k < hi → w'.heap[k]? = w.heap[k]?) : gR w' lo hi g P0 P1 P2 P3 := ⟨h.r0.kept hb, h.r1.kept hb, h.r2.kept hb, h.r3.kept hb⟩
theorem gR.wide (h : gR w lo hi g P0 P1 P2 P3) (a : lo' ≤ lo) (b : hi ≤ hi') : gR w lo' hi' g P0 P1 P2 P3 := ⟨h.r0.wide a b, h.r1.wide a b, h.r2.wide a b, h.r3.wide a b⟩
theorem gR.below {B : Nat} (h : gR w lo hi g P0 P1 P2 P3) (hb : Below B w w') (hB : hi ≤ B) : gR w' lo hi g P0 P1 P2 P3 := h.kept fun k _ h2 => hb.block k (by omega)
theorem gR.turned {lo2 hi2 : Nat} (h : gR w lo hi g P0 P1 P2 P3) (hb : ∀ k, k < w.heap.size → (k < lo2 ∨ hi2 ≤ k) → w'.heap[k]? = w.heap[k]?) (hh : hi ≤ w.heap.size) (hd : hi ≤ lo2 ∨ hi2 ≤ lo) : gR w' lo hi g P0 P1 P2 P3 := h.kept fun k h1 h2 => hb k (by omega) (by omega)
theorem gO.kept (h : gO w lo hi g P0 P1 P2 P3) (hb : ∀ k, lo ≤ k → k < hi → w'.heap[k]? = w.heap[k]?) : gO w' lo hi g P0 P1 P2 P3 := ⟨h.r0.kept hb, h.r1.kept hb, h.r2.kept hb, h.r3.kept hb, h.d01, h.d02, h.d03, h.d12, h.d13, h.d23⟩
theorem gO.wide (h : gO w lo hi g P0 P1 P2 P3) (a : lo' ≤ lo) (b : hi ≤ hi') : gO w lo' hi' g P0 P1 P2 P3 := ⟨h.r0.wide a b, h.r1.wide a b, h.r2.wide a b, h.r3.wide a b, h.d01, h.d02, h.d03, h.d12, h.d13, h.d23⟩
theorem gO.below {B : Nat} (h : gO w lo hi g P0 P1 P2 P3) (hb : Below B w w') (hB : hi ≤ B) : gO w' lo hi g P0 P1 P2 P3 := h.kept fun k _ h2 => hb.block k (by omega)
theorem gO.turned {lo2 hi2 : Nat} (h : gO w lo hi g P0 P1 P2 P3) (hb : ∀ k, k < w.heap.size → (k < lo2 ∨ hi2 ≤ k) → w'.heap[k]? = w.heap[k]?) (hh : hi ≤ w.heap.size) (hd : hi ≤ lo2 ∨ hi2 ≤ lo) : gO w' lo hi g P0 P1 P2 P3 := h.kept fun k h1 h2 => hb k (by omega) (by omega)
end
section
variable {w : World} {lo hi : Nat}
end
section
variable {H : Type} {enc : TypeId × Value → H}
end
end Go.Proofs.Ytldgadmpclgfhaa.Guests
namespace Go.Proofs.Ytldgadmpclgfhaa.Guests
set_option maxRecDepth 100000
open Go.ChangeShapes Go.WideShapes Go.ChangeAt Go.RowKit
open Go.Proofs.Ytldgadmpclgfhaa.Base Go.Proofs.Ytldgadmpclgfhaa.Mem Go.Proofs.Ytldgadmpclgfhaa.Data Go.Proofs.Ytldgadmpclgfhaa.Ctls Go.Proofs.Ytldgadmpclgfhaa.Exits Go.Proofs.Ytldgadmpclgfhaa.Stt
set_option linter.unusedVariables false
set_option linter.unusedSimpArgs false
/-- How a gT lies in memory. -/
def rG : Rp gT := rVia (rPair ((rLst 111 (rPair rInt rInt))) (rPair rInt (rPair rInt (rPair ((rLsw (rPair rInt rInt))) (rPair ((rLsw (rPair rInt rInt))) (rPair rCtl (rPair rInt (rPair rExit (rPair rBool ((rLst 3 rInt))))))))))) (fun g => (g.prog, g.a, g.pc, g.wr, g.lv, g.t, g.pd, g.x, g.hl, g.seen)) (fun k => ⟨k.1, k.2.1, k.2.2.1, k.2.2.2.1, k.2.2.2.2.1, k.2.2.2.2.2.1, k.2.2.2.2.2.2.1, k.2.2.2.2.2.2.2.1, k.2.2.2.2.2.2.2.2.1, k.2.2.2.2.2.2.2.2.2⟩)
theorem rG_own {w : World} {lo hi : Nat} {g : gT} {cs : List Value} {F : List Nat} (h : rG.own w lo hi g cs F) : ∃ P0 P1 P2 P3 F0 F1 F2 F3, cs = [P0, .int .i64 g.a, .int .i64 g.pc, P1, P2, .int .i64 g.t.1, .int .i64 g.t.2.1, .bool g.t.2.2, .int .i64 g.pd, .int .i64 g.x.1, .int .i64 g.x.2.1, .bool g.x.2.2.1, .int .i64 g.x.2.2.2, .bool g.hl, P3] ∧ F = F0 ++ (F1 ++ (F2 ++ F3)) ∧ ((rLst 111 (rPair rInt rInt))).own w lo hi g.prog [P0] F0 ∧ ((rLsw (rPair rInt rInt))).own w lo hi g.wr [P1] F1 ∧ ((rLsw (rPair rInt rInt))).own w lo hi g.lv [P2] F2 ∧ ((rLst 3 rInt)).own w lo hi g.seen [P3] F3 := by
  obtain ⟨c0, s0, G0, H0, rfl, rfl, h0, g0⟩ := h
  obtain ⟨P0, rfl⟩ := lst_own h0
  obtain ⟨c1, s1, G1, H1, rfl, rfl, h1, g1⟩ := g0
  obtain ⟨rfl, rfl⟩ := h1
  obtain ⟨c2, s2, G2, H2, rfl, rfl, h2, g2⟩ := g1
  obtain ⟨rfl, rfl⟩ := h2
  obtain ⟨c3, s3, G3, H3, rfl, rfl, h3, g3⟩ := g2
  obtain ⟨P1, rfl⟩ := lsw_own h3
  obtain ⟨c4, s4, G4, H4, rfl, rfl, h4, g4⟩ := g3
  obtain ⟨P2, rfl⟩ := lsw_own h4
  obtain ⟨c5, s5, G5, H5, rfl, rfl, h5, g5⟩ := g4
  obtain ⟨u5_0, v5_0, U5_0, V5_0, rfl, rfl, ⟨rfl, rfl⟩, q5_0⟩ := h5
  obtain ⟨u5_1, v5_1, U5_1, V5_1, rfl, rfl, ⟨rfl, rfl⟩, q5_1⟩ := q5_0
  obtain ⟨rfl, rfl⟩ := q5_1
  obtain ⟨c6, s6, G6, H6, rfl, rfl, h6, g6⟩ := g5
  obtain ⟨rfl, rfl⟩ := h6
  obtain ⟨c7, s7, G7, H7, rfl, rfl, h7, g7⟩ := g6
  obtain ⟨u7_0, v7_0, U7_0, V7_0, rfl, rfl, ⟨rfl, rfl⟩, q7_0⟩ := h7
  obtain ⟨u7_1, v7_1, U7_1, V7_1, rfl, rfl, ⟨rfl, rfl⟩, q7_1⟩ := q7_0
  obtain ⟨u7_2, v7_2, U7_2, V7_2, rfl, rfl, ⟨rfl, rfl⟩, q7_2⟩ := q7_1
  obtain ⟨rfl, rfl⟩ := q7_2
  obtain ⟨c8, s8, G8, H8, rfl, rfl, h8, g8⟩ := g7
  obtain ⟨rfl, rfl⟩ := h8
  obtain ⟨P3, rfl⟩ := lst_own g8
  exact ⟨P0, P1, P2, P3, G0, G3, G4, H8, by simp, by simp, h0, h3, h4, g8⟩
theorem rG_own_mk {w : World} {lo hi : Nat} {g : gT} {P0 P1 P2 P3 : Value} {F0 F1 F2 F3 : List Nat} (h0 : ((rLst 111 (rPair rInt rInt))).own w lo hi g.prog [P0] F0) (h1 : ((rLsw (rPair rInt rInt))).own w lo hi g.wr [P1] F1) (h2 : ((rLsw (rPair rInt rInt))).own w lo hi g.lv [P2] F2) (h3 : ((rLst 3 rInt)).own w lo hi g.seen [P3] F3) : rG.own w lo hi g [P0, .int .i64 g.a, .int .i64 g.pc, P1, P2, .int .i64 g.t.1, .int .i64 g.t.2.1, .bool g.t.2.2, .int .i64 g.pd, .int .i64 g.x.1, .int .i64 g.x.2.1, .bool g.x.2.2.1, .int .i64 g.x.2.2.2, .bool g.hl, P3] (F0 ++ (F1 ++ (F2 ++ F3))) := by
  have h : rG.own w lo hi g [P0, .int .i64 g.a, .int .i64 g.pc, P1, P2, .int .i64 g.t.1, .int .i64 g.t.2.1, .bool g.t.2.2, .int .i64 g.pd, .int .i64 g.x.1, .int .i64 g.x.2.1, .bool g.x.2.2.1, .int .i64 g.x.2.2.2, .bool g.hl, P3] _ := ⟨[_], _, F0, _, rfl, rfl, h0, ⟨[_], _, [], _, rfl, rfl, ⟨rfl, rfl⟩, ⟨[_], _, [], _, rfl, rfl, ⟨rfl, rfl⟩, ⟨[_], _, F1, _, rfl, rfl, h1, ⟨[_], _, F2, _, rfl, rfl, h2, ⟨[_, _, _], _, [], _, rfl, rfl, ⟨[_], _, [], [], rfl, rfl, ⟨rfl, rfl⟩, ⟨[_], _, [], [], rfl, rfl, ⟨rfl, rfl⟩, ⟨rfl, rfl⟩⟩⟩, ⟨[_], _, [], _, rfl, rfl, ⟨rfl, rfl⟩, ⟨[_, _, _, _], _, [], _, rfl, rfl, ⟨[_], _, [], [], rfl, rfl, ⟨rfl, rfl⟩, ⟨[_], _, [], [], rfl, rfl, ⟨rfl, rfl⟩, ⟨[_], _, [], [], rfl, rfl, ⟨rfl, rfl⟩, ⟨rfl, rfl⟩⟩⟩⟩, ⟨[_], _, [], _, rfl, rfl, ⟨rfl, rfl⟩, h3⟩⟩⟩⟩⟩⟩⟩⟩⟩
  simpa using h
theorem rG_open {w0 w : World} {lo hi : Nat} {g : gT} {cs : List Value} {F : List Nat} {T : List Res} (S : St w0 w (ow rG lo hi g cs F :: T)) : ∃ P0 P1 P2 P3 F0 F1 F2 F3, cs = [P0, .int .i64 g.a, .int .i64 g.pc, P1, P2, .int .i64 g.t.1, .int .i64 g.t.2.1, .bool g.t.2.2, .int .i64 g.pd, .int .i64 g.x.1, .int .i64 g.x.2.1, .bool g.x.2.2.1, .int .i64 g.x.2.2.2, .bool g.hl, P3] ∧ St w0 w (ow (rLst 111 (rPair rInt rInt)) lo hi g.prog [P0] F0 :: ow (rLsw (rPair rInt rInt)) lo hi g.wr [P1] F1 :: ow (rLsw (rPair rInt rInt)) lo hi g.lv [P2] F2 :: ow (rLst 3 rInt) lo hi g.seen [P3] F3 :: T) := by
  obtain ⟨hown, hnd⟩ := S.at_ 0 rfl
  have hl := S.lo 0 _ rfl
  have hh := S.hi 0 _ rfl
  obtain ⟨P0, P1, P2, P3, F0, F1, F2, F3, rfl, rfl, q0, q1, q2, q3⟩ := rG_own hown
  obtain ⟨m0, n0, d0⟩ := List.nodup_append.1 hnd
  obtain ⟨m1, n1, d1⟩ := List.nodup_append.1 n0
  obtain ⟨m2, n2, d2⟩ := List.nodup_append.1 n1
  have m3 := n2
  refine ⟨P0, P1, P2, P3, F0, F1, F2, F3, rfl, S.parts [ow (rLst 111 (rPair rInt rInt)) lo hi g.prog [P0] F0, ow (rLsw (rPair rInt rInt)) lo hi g.wr [P1] F1, ow (rLsw (rPair rInt rInt)) lo hi g.lv [P2] F2, ow (rLst 3 rInt) lo hi g.seen [P3] F3] ?_ ?_⟩
  · intro s hs
    simp only [List.mem_cons, List.not_mem_nil, or_false] at hs
    rcases hs with rfl | rfl | rfl | rfl
    · exact ⟨⟨q0, m0⟩, fun k hk => ⟨by simp [hk.1], hk.2⟩, hl, hh⟩
    · exact ⟨⟨q1, m1⟩, fun k hk => ⟨by simp [hk.1], hk.2⟩, hl, hh⟩
    · exact ⟨⟨q2, m2⟩, fun k hk => ⟨by simp [hk.1], hk.2⟩, hl, hh⟩
    · exact ⟨⟨q3, m3⟩, fun k hk => ⟨by simp [hk.1], hk.2⟩, hl, hh⟩
  · simp only [List.pairwise_cons, List.mem_cons, List.not_mem_nil, or_false, forall_eq_or_imp, forall_eq, List.Pairwise.nil, and_true, false_implies, implies_true, ow]
    exact ⟨⟨(fun k hk hk' => d0 k hk.1 k (by simp [hk'.1]) rfl), (fun k hk hk' => d0 k hk.1 k (by simp [hk'.1]) rfl), (fun k hk hk' => d0 k hk.1 k (by simp [hk'.1]) rfl)⟩, ⟨(fun k hk hk' => d1 k hk.1 k (by simp [hk'.1]) rfl), (fun k hk hk' => d1 k hk.1 k (by simp [hk'.1]) rfl)⟩, (fun k hk hk' => d2 k hk.1 k (by simp [hk'.1]) rfl)⟩
theorem rG_shut {w0 w : World} {g : gT} {L : List Res} {P0 P1 P2 P3 : Value} {F0 F1 F2 F3 : List Nat} {l0 k0 l1 k1 l2 k2 l3 k3 : Nat} (S : St w0 w L) (i0 : Nat) (e0 : L[i0]? = some (ow (rLst 111 (rPair rInt rInt)) l0 k0 g.prog [P0] F0)) (i1 : Nat) (e1 : L[i1]? = some (ow (rLsw (rPair rInt rInt)) l1 k1 g.wr [P1] F1)) (i2 : Nat) (e2 : L[i2]? = some (ow (rLsw (rPair rInt rInt)) l2 k2 g.lv [P2] F2)) (i3 : Nat) (e3 : L[i3]? = some (ow (rLst 3 rInt) l3 k3 g.seen [P3] F3)) (n01 : i0 ≠ i1) (n02 : i0 ≠ i2) (n03 : i0 ≠ i3) (n12 : i1 ≠ i2) (n13 : i1 ≠ i3) (n23 : i2 ≠ i3) : rG.own w w0.heap.size w.heap.size g [P0, .int .i64 g.a, .int .i64 g.pc, P1, P2, .int .i64 g.t.1, .int .i64 g.t.2.1, .bool g.t.2.2, .int .i64 g.pd, .int .i64 g.x.1, .int .i64 g.x.2.1, .bool g.x.2.2.1, .int .i64 g.x.2.2.2, .bool g.hl, P3] (F0 ++ (F1 ++ (F2 ++ F3))) ∧ (F0 ++ (F1 ++ (F2 ++ F3))).Nodup := by
  refine ⟨rG_own_mk (S.own i0 e0) (S.own i1 e1) (S.own i2 e2) (S.own i3 e3), ?_⟩
  exact (nodup_app (S.nodup i0 e0) (nodup_app (S.nodup i1 e1) (nodup_app (S.nodup i2 e2) (S.nodup i3 e3) (fun k hk => (S.disj i2 i3 e2 e3 n23 k hk))) (fun k hk => (not_app (S.disj i1 i2 e1 e2 n12 k hk) (S.disj i1 i3 e1 e3 n13 k hk)))) (fun k hk => (not_app (S.disj i0 i1 e0 e1 n01 k hk) (not_app (S.disj i0 i2 e0 e2 n02 k hk) (S.disj i0 i3 e0 e3 n03 k hk)))))
end Go.Proofs.Ytldgadmpclgfhaa.Guests
namespace Go.Proofs.Ytldgadmpclgfhaa.Kit
set_option maxRecDepth 100000
open Go.ChangeShapes Go.WideShapes Go.ChangeAt Go.RowKit Go.Deep
open Go.Proofs.Ytldgadmpclgfhaa.Base Go.Proofs.Ytldgadmpclgfhaa.Mem Go.Proofs.Ytldgadmpclgfhaa.Data Go.Proofs.Ytldgadmpclgfhaa.Stt Go.Proofs.Ytldgadmpclgfhaa.Guests Go.Proofs.Ytldgadmpclgfhaa.Ctls Go.Proofs.Ytldgadmpclgfhaa.Exits
set_option linter.unusedVariables false
set_option linter.unusedSimpArgs false
set_option maxRecDepth 100000 in
set_option maxHeartbeats 4000000 in
theorem keq_Ctl (x : CT) (w : World)  : Calls Try.prog 71 #[.agg #[.int .i64 x.1, .int .i64 x.2.1, .bool x.2.2], .agg #[.int .i64 x.1, .int .i64 x.2.1, .bool x.2.2]] w (fun e w' => e = .returned (.bool true) ∧ Below w.heap.size w w') := by
  refine Sx.enter (args := [.agg #[.int .i64 x.1, .int .i64 x.2.1, .bool x.2.2], .agg #[.int .i64 x.1, .int .i64 x.2.1, .bool x.2.2]]) Try.func71 rfl Try.ntmps71 rfl ?_
  refine Sx.C.seq ?_
  refine Sx.C.region ?_
  refine Sx.G.box 47 (.tmp 0) [.int .i64 x.1, .int .i64 x.2.1, .bool x.2.2] rfl (by kernel_rfl) (by kernel_rfl) (fun b1 => ?_)
  refine Sx.G.box 47 (.tmp 1) [.int .i64 x.1, .int .i64 x.2.1, .bool x.2.2] rfl (by kernel_rfl) (by kernel_rfl) (fun b2 => ?_)
  refine Sx.G.pure (.bool false) (by kernel_rfl) (fun w => by kernel_rfl) ?_
  refine Sx.G.nil ?_
  refine Sx.E.next ?_
  refine Sx.C.seq ?_
  refine Sx.C.seq ?_
  refine Sx.C.region ?_
  refine Sx.G.pure (.pointer (some ⟨b1, 0, none⟩)) (by kernel_rfl) (fun w => by kernel_rfl) ?_
  refine Sx.G.ld1 3 (.tmp 5) b1 0 1 [.int .i64 x.1, .int .i64 x.2.1, .bool x.2.2] (.int .i64 x.1) rfl (by kernel_rfl) (by kernel_rfl) rfl (by kernel_rfl) (by kernel_rfl) ?_
  refine Sx.G.pure (.pointer (some ⟨b2, 0, none⟩)) (by kernel_rfl) (fun w => by kernel_rfl) ?_
  refine Sx.G.ld1 3 (.tmp 7) b2 0 0 [.int .i64 x.1, .int .i64 x.2.1, .bool x.2.2] (.int .i64 x.1) rfl (by kernel_rfl) (by kernel_rfl) rfl (by kernel_rfl) (by kernel_rfl) ?_
  refine Sx.G.pureq (.bool (x.1 != x.1)) (.bool false) (by kernel_rfl) (fun w => by kernel_rfl) (congrArg Value.bool (bne_self_eq_false _)) ?_
  refine Sx.G.nil ?_
  refine Sx.E.next ?_
  refine Sx.C.no (by kernel_rfl) (by kernel_rfl) ?_
  refine Sx.C.skip ?_
  refine Sx.E.next ?_
  refine Sx.C.seq ?_
  refine Sx.C.seq ?_
  refine Sx.C.region ?_
  refine Sx.G.pure (.pointer (some ⟨b1, 1, none⟩)) (by kernel_rfl) (fun w => by kernel_rfl) ?_
  refine Sx.G.ld1 3 (.tmp 10) b1 1 1 [.int .i64 x.1, .int .i64 x.2.1, .bool x.2.2] (.int .i64 x.2.1) rfl (by kernel_rfl) (by kernel_rfl) rfl (by kernel_rfl) (by kernel_rfl) ?_
  refine Sx.G.pure (.pointer (some ⟨b2, 1, none⟩)) (by kernel_rfl) (fun w => by kernel_rfl) ?_
  refine Sx.G.ld1 3 (.tmp 12) b2 1 0 [.int .i64 x.1, .int .i64 x.2.1, .bool x.2.2] (.int .i64 x.2.1) rfl (by kernel_rfl) (by kernel_rfl) rfl (by kernel_rfl) (by kernel_rfl) ?_
  refine Sx.G.pureq (.bool (x.2.1 != x.2.1)) (.bool false) (by kernel_rfl) (fun w => by kernel_rfl) (congrArg Value.bool (bne_self_eq_false _)) ?_
  refine Sx.G.nil ?_
  refine Sx.E.next ?_
  refine Sx.C.no (by kernel_rfl) (by kernel_rfl) ?_
  refine Sx.C.skip ?_
  refine Sx.E.next ?_
  refine Sx.C.seq ?_
  refine Sx.C.seq ?_
  refine Sx.C.region ?_
  refine Sx.G.pure (.pointer (some ⟨b1, 2, none⟩)) (by kernel_rfl) (fun w => by kernel_rfl) ?_
  refine Sx.G.ld1 4 (.tmp 15) b1 2 1 [.int .i64 x.1, .int .i64 x.2.1, .bool x.2.2] (.bool x.2.2) rfl (by kernel_rfl) (by kernel_rfl) rfl (by kernel_rfl) (by kernel_rfl) ?_
  refine Sx.G.pure (.pointer (some ⟨b2, 2, none⟩)) (by kernel_rfl) (fun w => by kernel_rfl) ?_
  refine Sx.G.ld1 4 (.tmp 17) b2 2 0 [.int .i64 x.1, .int .i64 x.2.1, .bool x.2.2] (.bool x.2.2) rfl (by kernel_rfl) (by kernel_rfl) rfl (by kernel_rfl) (by kernel_rfl) ?_
  refine Sx.G.pureq (.bool (x.2.2 != x.2.2)) (.bool false) (by kernel_rfl) (fun w => by kernel_rfl) (congrArg Value.bool (bne_self_eq_false _)) ?_
  refine Sx.G.nil ?_
  refine Sx.E.next ?_
  refine Sx.C.no (by kernel_rfl) (by kernel_rfl) ?_
  refine Sx.C.skip ?_
  refine Sx.E.next ?_
  refine Sx.C.seq ?_
  refine Sx.C.region ?_
  refine Sx.G.pure (.bool true) (by kernel_rfl) (fun w => by kernel_rfl) ?_
  refine Sx.G.nil ?_
  refine Sx.E.next ?_
  refine Sx.C.ret ?_
  refine Sx.E.ret1 (.bool true) rfl (by kernel_rfl) (fun w S => ?_)
  exact ⟨rfl, S.below⟩
set_option maxRecDepth 100000 in
set_option maxHeartbeats 4000000 in
theorem keq_Exit (x : QT) (w : World)  : Calls Try.prog 72 #[.agg #[.int .i64 x.1, .int .i64 x.2.1, .bool x.2.2.1, .int .i64 x.2.2.2], .agg #[.int .i64 x.1, .int .i64 x.2.1, .bool x.2.2.1, .int .i64 x.2.2.2]] w (fun e w' => e = .returned (.bool true) ∧ Below w.heap.size w w') := by
  refine Sx.enter (args := [.agg #[.int .i64 x.1, .int .i64 x.2.1, .bool x.2.2.1, .int .i64 x.2.2.2], .agg #[.int .i64 x.1, .int .i64 x.2.1, .bool x.2.2.1, .int .i64 x.2.2.2]]) Try.func72 rfl Try.ntmps72 rfl ?_
  refine Sx.C.seq ?_
  refine Sx.C.region ?_
  refine Sx.G.box 49 (.tmp 0) [.int .i64 x.1, .int .i64 x.2.1, .bool x.2.2.1, .int .i64 x.2.2.2] rfl (by kernel_rfl) (by kernel_rfl) (fun b1 => ?_)
  refine Sx.G.box 49 (.tmp 1) [.int .i64 x.1, .int .i64 x.2.1, .bool x.2.2.1, .int .i64 x.2.2.2] rfl (by kernel_rfl) (by kernel_rfl) (fun b2 => ?_)
  refine Sx.G.pure (.bool false) (by kernel_rfl) (fun w => by kernel_rfl) ?_
  refine Sx.G.nil ?_
  refine Sx.E.next ?_
  refine Sx.C.seq ?_
  refine Sx.C.seq ?_
  refine Sx.C.region ?_
  refine Sx.G.pure (.pointer (some ⟨b1, 0, none⟩)) (by kernel_rfl) (fun w => by kernel_rfl) ?_
  refine Sx.G.ld1 3 (.tmp 5) b1 0 1 [.int .i64 x.1, .int .i64 x.2.1, .bool x.2.2.1, .int .i64 x.2.2.2] (.int .i64 x.1) rfl (by kernel_rfl) (by kernel_rfl) rfl (by kernel_rfl) (by kernel_rfl) ?_
  refine Sx.G.pure (.pointer (some ⟨b2, 0, none⟩)) (by kernel_rfl) (fun w => by kernel_rfl) ?_
  refine Sx.G.ld1 3 (.tmp 7) b2 0 0 [.int .i64 x.1, .int .i64 x.2.1, .bool x.2.2.1, .int .i64 x.2.2.2] (.int .i64 x.1) rfl (by kernel_rfl) (by kernel_rfl) rfl (by kernel_rfl) (by kernel_rfl) ?_
  refine Sx.G.pureq (.bool (x.1 != x.1)) (.bool false) (by kernel_rfl) (fun w => by kernel_rfl) (congrArg Value.bool (bne_self_eq_false _)) ?_
  refine Sx.G.nil ?_
  refine Sx.E.next ?_
  refine Sx.C.no (by kernel_rfl) (by kernel_rfl) ?_
  refine Sx.C.skip ?_
  refine Sx.E.next ?_
  refine Sx.C.seq ?_
  refine Sx.C.seq ?_
  refine Sx.C.region ?_
  refine Sx.G.pure (.pointer (some ⟨b1, 1, none⟩)) (by kernel_rfl) (fun w => by kernel_rfl) ?_
  refine Sx.G.ld1 3 (.tmp 10) b1 1 1 [.int .i64 x.1, .int .i64 x.2.1, .bool x.2.2.1, .int .i64 x.2.2.2] (.int .i64 x.2.1) rfl (by kernel_rfl) (by kernel_rfl) rfl (by kernel_rfl) (by kernel_rfl) ?_
  refine Sx.G.pure (.pointer (some ⟨b2, 1, none⟩)) (by kernel_rfl) (fun w => by kernel_rfl) ?_
  refine Sx.G.ld1 3 (.tmp 12) b2 1 0 [.int .i64 x.1, .int .i64 x.2.1, .bool x.2.2.1, .int .i64 x.2.2.2] (.int .i64 x.2.1) rfl (by kernel_rfl) (by kernel_rfl) rfl (by kernel_rfl) (by kernel_rfl) ?_
  refine Sx.G.pureq (.bool (x.2.1 != x.2.1)) (.bool false) (by kernel_rfl) (fun w => by kernel_rfl) (congrArg Value.bool (bne_self_eq_false _)) ?_
  refine Sx.G.nil ?_
  refine Sx.E.next ?_
  refine Sx.C.no (by kernel_rfl) (by kernel_rfl) ?_
  refine Sx.C.skip ?_
  refine Sx.E.next ?_
  refine Sx.C.seq ?_
  refine Sx.C.seq ?_
  refine Sx.C.region ?_
  refine Sx.G.pure (.pointer (some ⟨b1, 2, none⟩)) (by kernel_rfl) (fun w => by kernel_rfl) ?_
  refine Sx.G.ld1 4 (.tmp 15) b1 2 1 [.int .i64 x.1, .int .i64 x.2.1, .bool x.2.2.1, .int .i64 x.2.2.2] (.bool x.2.2.1) rfl (by kernel_rfl) (by kernel_rfl) rfl (by kernel_rfl) (by kernel_rfl) ?_
  refine Sx.G.pure (.pointer (some ⟨b2, 2, none⟩)) (by kernel_rfl) (fun w => by kernel_rfl) ?_
  refine Sx.G.ld1 4 (.tmp 17) b2 2 0 [.int .i64 x.1, .int .i64 x.2.1, .bool x.2.2.1, .int .i64 x.2.2.2] (.bool x.2.2.1) rfl (by kernel_rfl) (by kernel_rfl) rfl (by kernel_rfl) (by kernel_rfl) ?_
  refine Sx.G.pureq (.bool (x.2.2.1 != x.2.2.1)) (.bool false) (by kernel_rfl) (fun w => by kernel_rfl) (congrArg Value.bool (bne_self_eq_false _)) ?_
  refine Sx.G.nil ?_
  refine Sx.E.next ?_
  refine Sx.C.no (by kernel_rfl) (by kernel_rfl) ?_
  refine Sx.C.skip ?_
  refine Sx.E.next ?_
  refine Sx.C.seq ?_
  refine Sx.C.seq ?_
  refine Sx.C.region ?_
  refine Sx.G.pure (.pointer (some ⟨b1, 3, none⟩)) (by kernel_rfl) (fun w => by kernel_rfl) ?_
  refine Sx.G.ld1 3 (.tmp 20) b1 3 1 [.int .i64 x.1, .int .i64 x.2.1, .bool x.2.2.1, .int .i64 x.2.2.2] (.int .i64 x.2.2.2) rfl (by kernel_rfl) (by kernel_rfl) rfl (by kernel_rfl) (by kernel_rfl) ?_
  refine Sx.G.pure (.pointer (some ⟨b2, 3, none⟩)) (by kernel_rfl) (fun w => by kernel_rfl) ?_
  refine Sx.G.ld1 3 (.tmp 22) b2 3 0 [.int .i64 x.1, .int .i64 x.2.1, .bool x.2.2.1, .int .i64 x.2.2.2] (.int .i64 x.2.2.2) rfl (by kernel_rfl) (by kernel_rfl) rfl (by kernel_rfl) (by kernel_rfl) ?_
  refine Sx.G.pureq (.bool (x.2.2.2 != x.2.2.2)) (.bool false) (by kernel_rfl) (fun w => by kernel_rfl) (congrArg Value.bool (bne_self_eq_false _)) ?_
  refine Sx.G.nil ?_
  refine Sx.E.next ?_
  refine Sx.C.no (by kernel_rfl) (by kernel_rfl) ?_
  refine Sx.C.skip ?_
  refine Sx.E.next ?_
  refine Sx.C.seq ?_
  refine Sx.C.region ?_
  refine Sx.G.pure (.bool true) (by kernel_rfl) (fun w => by kernel_rfl) ?_
  refine Sx.G.nil ?_
  refine Sx.E.next ?_
  refine Sx.C.ret ?_
  refine Sx.E.ret1 (.bool true) rfl (by kernel_rfl) (fun w S => ?_)
  exact ⟨rfl, S.below⟩
/-- How a gT lies in memory. -/
def wG : Rp gT := rVia (rPair ((rLsw (rPair rInt rInt))) (rPair rInt (rPair rInt (rPair ((rLsw (rPair rInt rInt))) (rPair ((rLsw (rPair rInt rInt))) (rPair rCtl (rPair rInt (rPair rExit (rPair rBool ((rLsw rInt))))))))))) (fun g => (g.prog, g.a, g.pc, g.wr, g.lv, g.t, g.pd, g.x, g.hl, g.seen)) (fun k => ⟨k.1, k.2.1, k.2.2.1, k.2.2.2.1, k.2.2.2.2.1, k.2.2.2.2.2.1, k.2.2.2.2.2.2.1, k.2.2.2.2.2.2.2.1, k.2.2.2.2.2.2.2.2.1, k.2.2.2.2.2.2.2.2.2⟩)
theorem wG_rd {w : World} {lo hi : Nat} {g : gT} {cs : List Value} (h : wG.rd w lo hi g cs) : ∃ P0 P1 P2 P3, cs = [P0, .int .i64 g.a, .int .i64 g.pc, P1, P2, .int .i64 g.t.1, .int .i64 g.t.2.1, .bool g.t.2.2, .int .i64 g.pd, .int .i64 g.x.1, .int .i64 g.x.2.1, .bool g.x.2.2.1, .int .i64 g.x.2.2.2, .bool g.hl, P3] ∧ ((rLsw (rPair rInt rInt))).rd w lo hi g.prog [P0] ∧ ((rLsw (rPair rInt rInt))).rd w lo hi g.wr [P1] ∧ ((rLsw (rPair rInt rInt))).rd w lo hi g.lv [P2] ∧ ((rLsw rInt)).rd w lo hi g.seen [P3] := by
  obtain ⟨c0, s0, rfl, h0, g0⟩ := h
  obtain ⟨P0, rfl⟩ := lst_rd h0
  obtain ⟨c1, s1, rfl, h1, g1⟩ := g0
  obtain rfl := show _ = _ from h1
  obtain ⟨c2, s2, rfl, h2, g2⟩ := g1
  obtain rfl := show _ = _ from h2
  obtain ⟨c3, s3, rfl, h3, g3⟩ := g2
  obtain ⟨P1, rfl⟩ := lst_rd h3
  obtain ⟨c4, s4, rfl, h4, g4⟩ := g3
  obtain ⟨P2, rfl⟩ := lst_rd h4
  obtain ⟨c5, s5, rfl, h5, g5⟩ := g4
  obtain ⟨u5_0, v5_0, rfl, x5_0, q5_0⟩ := h5
  obtain rfl := show _ = _ from x5_0
  obtain ⟨u5_1, v5_1, rfl, x5_1, q5_1⟩ := q5_0
  obtain rfl := show _ = _ from x5_1
  obtain rfl := show _ = _ from q5_1
  obtain ⟨c6, s6, rfl, h6, g6⟩ := g5
  obtain rfl := show _ = _ from h6
  obtain ⟨c7, s7, rfl, h7, g7⟩ := g6
  obtain ⟨u7_0, v7_0, rfl, x7_0, q7_0⟩ := h7
  obtain rfl := show _ = _ from x7_0
  obtain ⟨u7_1, v7_1, rfl, x7_1, q7_1⟩ := q7_0
  obtain rfl := show _ = _ from x7_1
  obtain ⟨u7_2, v7_2, rfl, x7_2, q7_2⟩ := q7_1
  obtain rfl := show _ = _ from x7_2
  obtain rfl := show _ = _ from q7_2
  obtain ⟨c8, s8, rfl, h8, g8⟩ := g7
  obtain rfl := show _ = _ from h8
  obtain ⟨P3, rfl⟩ := lst_rd g8
  exact ⟨P0, P1, P2, P3, by simp, h0, h3, h4, g8⟩
theorem wG_own {w : World} {lo hi : Nat} {g : gT} {cs : List Value} {F : List Nat} (h : wG.own w lo hi g cs F) : ∃ P0 P1 P2 P3 F0 F1 F2 F3, cs = [P0, .int .i64 g.a, .int .i64 g.pc, P1, P2, .int .i64 g.t.1, .int .i64 g.t.2.1, .bool g.t.2.2, .int .i64 g.pd, .int .i64 g.x.1, .int .i64 g.x.2.1, .bool g.x.2.2.1, .int .i64 g.x.2.2.2, .bool g.hl, P3] ∧ F = F0 ++ (F1 ++ (F2 ++ F3)) ∧ ((rLsw (rPair rInt rInt))).own w lo hi g.prog [P0] F0 ∧ ((rLsw (rPair rInt rInt))).own w lo hi g.wr [P1] F1 ∧ ((rLsw (rPair rInt rInt))).own w lo hi g.lv [P2] F2 ∧ ((rLsw rInt)).own w lo hi g.seen [P3] F3 := by
  obtain ⟨c0, s0, G0, H0, rfl, rfl, h0, g0⟩ := h
  obtain ⟨P0, rfl⟩ := lsw_own h0
  obtain ⟨c1, s1, G1, H1, rfl, rfl, h1, g1⟩ := g0
  obtain ⟨rfl, rfl⟩ := h1
  obtain ⟨c2, s2, G2, H2, rfl, rfl, h2, g2⟩ := g1
  obtain ⟨rfl, rfl⟩ := h2
  obtain ⟨c3, s3, G3, H3, rfl, rfl, h3, g3⟩ := g2
  obtain ⟨P1, rfl⟩ := lsw_own h3
  obtain ⟨c4, s4, G4, H4, rfl, rfl, h4, g4⟩ := g3
  obtain ⟨P2, rfl⟩ := lsw_own h4
  obtain ⟨c5, s5, G5, H5, rfl, rfl, h5, g5⟩ := g4
  obtain ⟨u5_0, v5_0, U5_0, V5_0, rfl, rfl, ⟨rfl, rfl⟩, q5_0⟩ := h5
  obtain ⟨u5_1, v5_1, U5_1, V5_1, rfl, rfl, ⟨rfl, rfl⟩, q5_1⟩ := q5_0
  obtain ⟨rfl, rfl⟩ := q5_1
  obtain ⟨c6, s6, G6, H6, rfl, rfl, h6, g6⟩ := g5
  obtain ⟨rfl, rfl⟩ := h6
  obtain ⟨c7, s7, G7, H7, rfl, rfl, h7, g7⟩ := g6
  obtain ⟨u7_0, v7_0, U7_0, V7_0, rfl, rfl, ⟨rfl, rfl⟩, q7_0⟩ := h7
  obtain ⟨u7_1, v7_1, U7_1, V7_1, rfl, rfl, ⟨rfl, rfl⟩, q7_1⟩ := q7_0
  obtain ⟨u7_2, v7_2, U7_2, V7_2, rfl, rfl, ⟨rfl, rfl⟩, q7_2⟩ := q7_1
  obtain ⟨rfl, rfl⟩ := q7_2
  obtain ⟨c8, s8, G8, H8, rfl, rfl, h8, g8⟩ := g7
  obtain ⟨rfl, rfl⟩ := h8
  obtain ⟨P3, rfl⟩ := lsw_own g8
  exact ⟨P0, P1, P2, P3, G0, G3, G4, H8, by simp, by simp, h0, h3, h4, g8⟩
theorem wG_own_mk {w : World} {lo hi : Nat} {g : gT} {P0 P1 P2 P3 : Value} {F0 F1 F2 F3 : List Nat} (h0 : ((rLsw (rPair rInt rInt))).own w lo hi g.prog [P0] F0) (h1 : ((rLsw (rPair rInt rInt))).own w lo hi g.wr [P1] F1) (h2 : ((rLsw (rPair rInt rInt))).own w lo hi g.lv [P2] F2) (h3 : ((rLsw rInt)).own w lo hi g.seen [P3] F3) : wG.own w lo hi g [P0, .int .i64 g.a, .int .i64 g.pc, P1, P2, .int .i64 g.t.1, .int .i64 g.t.2.1, .bool g.t.2.2, .int .i64 g.pd, .int .i64 g.x.1, .int .i64 g.x.2.1, .bool g.x.2.2.1, .int .i64 g.x.2.2.2, .bool g.hl, P3] (F0 ++ (F1 ++ (F2 ++ F3))) := by
  have h : wG.own w lo hi g [P0, .int .i64 g.a, .int .i64 g.pc, P1, P2, .int .i64 g.t.1, .int .i64 g.t.2.1, .bool g.t.2.2, .int .i64 g.pd, .int .i64 g.x.1, .int .i64 g.x.2.1, .bool g.x.2.2.1, .int .i64 g.x.2.2.2, .bool g.hl, P3] _ := ⟨[_], _, F0, _, rfl, rfl, h0, ⟨[_], _, [], _, rfl, rfl, ⟨rfl, rfl⟩, ⟨[_], _, [], _, rfl, rfl, ⟨rfl, rfl⟩, ⟨[_], _, F1, _, rfl, rfl, h1, ⟨[_], _, F2, _, rfl, rfl, h2, ⟨[_, _, _], _, [], _, rfl, rfl, ⟨[_], _, [], [], rfl, rfl, ⟨rfl, rfl⟩, ⟨[_], _, [], [], rfl, rfl, ⟨rfl, rfl⟩, ⟨rfl, rfl⟩⟩⟩, ⟨[_], _, [], _, rfl, rfl, ⟨rfl, rfl⟩, ⟨[_, _, _, _], _, [], _, rfl, rfl, ⟨[_], _, [], [], rfl, rfl, ⟨rfl, rfl⟩, ⟨[_], _, [], [], rfl, rfl, ⟨rfl, rfl⟩, ⟨[_], _, [], [], rfl, rfl, ⟨rfl, rfl⟩, ⟨rfl, rfl⟩⟩⟩⟩, ⟨[_], _, [], _, rfl, rfl, ⟨rfl, rfl⟩, h3⟩⟩⟩⟩⟩⟩⟩⟩⟩
  simpa using h
theorem wG_shut {w0 w : World} {g : gT} {L : List Res} {P0 P1 P2 P3 : Value} {F0 F1 F2 F3 : List Nat} {l0 k0 l1 k1 l2 k2 l3 k3 : Nat} (S : St w0 w L) (i0 : Nat) (e0 : L[i0]? = some (ow (rLsw (rPair rInt rInt)) l0 k0 g.prog [P0] F0)) (i1 : Nat) (e1 : L[i1]? = some (ow (rLsw (rPair rInt rInt)) l1 k1 g.wr [P1] F1)) (i2 : Nat) (e2 : L[i2]? = some (ow (rLsw (rPair rInt rInt)) l2 k2 g.lv [P2] F2)) (i3 : Nat) (e3 : L[i3]? = some (ow (rLsw rInt) l3 k3 g.seen [P3] F3)) (n01 : i0 ≠ i1) (n02 : i0 ≠ i2) (n03 : i0 ≠ i3) (n12 : i1 ≠ i2) (n13 : i1 ≠ i3) (n23 : i2 ≠ i3) : wG.own w w0.heap.size w.heap.size g [P0, .int .i64 g.a, .int .i64 g.pc, P1, P2, .int .i64 g.t.1, .int .i64 g.t.2.1, .bool g.t.2.2, .int .i64 g.pd, .int .i64 g.x.1, .int .i64 g.x.2.1, .bool g.x.2.2.1, .int .i64 g.x.2.2.2, .bool g.hl, P3] (F0 ++ (F1 ++ (F2 ++ F3))) ∧ (F0 ++ (F1 ++ (F2 ++ F3))).Nodup := by
  refine ⟨wG_own_mk (S.own i0 e0) (S.own i1 e1) (S.own i2 e2) (S.own i3 e3), ?_⟩
  exact (nodup_app (S.nodup i0 e0) (nodup_app (S.nodup i1 e1) (nodup_app (S.nodup i2 e2) (S.nodup i3 e3) (fun k hk => (S.disj i2 i3 e2 e3 n23 k hk))) (fun k hk => (not_app (S.disj i1 i2 e1 e2 n12 k hk) (S.disj i1 i3 e1 e3 n13 k hk)))) (fun k hk => (not_app (S.disj i0 i1 e0 e1 n01 k hk) (not_app (S.disj i0 i2 e0 e2 n02 k hk) (S.disj i0 i3 e0 e3 n03 k hk)))))
theorem wG_open2 {w0 w : World} {lo hi : Nat} {g : gT} {cs : List Value} {F : List Nat} {T : List Res} (S : St w0 w (ow wG lo hi g cs F :: T)) : ∃ P0 P1 P2 P3 F0 F1 F2 F3, cs = [P0, .int .i64 g.a, .int .i64 g.pc, P1, P2, .int .i64 g.t.1, .int .i64 g.t.2.1, .bool g.t.2.2, .int .i64 g.pd, .int .i64 g.x.1, .int .i64 g.x.2.1, .bool g.x.2.2.1, .int .i64 g.x.2.2.2, .bool g.hl, P3] ∧ F = F0 ++ (F1 ++ (F2 ++ F3)) ∧ St w0 w (ow (rLsw (rPair rInt rInt)) lo hi g.prog [P0] F0 :: ow (rLsw (rPair rInt rInt)) lo hi g.wr [P1] F1 :: ow (rLsw (rPair rInt rInt)) lo hi g.lv [P2] F2 :: ow (rLsw rInt) lo hi g.seen [P3] F3 :: T) := by
  obtain ⟨hown, hnd⟩ := S.at_ 0 rfl
  have hl := S.lo 0 _ rfl
  have hh := S.hi 0 _ rfl
  obtain ⟨P0, P1, P2, P3, F0, F1, F2, F3, rfl, rfl, q0, q1, q2, q3⟩ := wG_own hown
  obtain ⟨m0, n0, d0⟩ := List.nodup_append.1 hnd
  obtain ⟨m1, n1, d1⟩ := List.nodup_append.1 n0
  obtain ⟨m2, n2, d2⟩ := List.nodup_append.1 n1
  have m3 := n2
  refine ⟨P0, P1, P2, P3, F0, F1, F2, F3, rfl, rfl, S.parts [ow (rLsw (rPair rInt rInt)) lo hi g.prog [P0] F0, ow (rLsw (rPair rInt rInt)) lo hi g.wr [P1] F1, ow (rLsw (rPair rInt rInt)) lo hi g.lv [P2] F2, ow (rLsw rInt) lo hi g.seen [P3] F3] ?_ ?_⟩
  · intro s hs
    simp only [List.mem_cons, List.not_mem_nil, or_false] at hs
    rcases hs with rfl | rfl | rfl | rfl
    · exact ⟨⟨q0, m0⟩, fun k hk => ⟨by simp [hk.1], hk.2⟩, hl, hh⟩
    · exact ⟨⟨q1, m1⟩, fun k hk => ⟨by simp [hk.1], hk.2⟩, hl, hh⟩
    · exact ⟨⟨q2, m2⟩, fun k hk => ⟨by simp [hk.1], hk.2⟩, hl, hh⟩
    · exact ⟨⟨q3, m3⟩, fun k hk => ⟨by simp [hk.1], hk.2⟩, hl, hh⟩
  · simp only [List.pairwise_cons, List.mem_cons, List.not_mem_nil, or_false, forall_eq_or_imp, forall_eq, List.Pairwise.nil, and_true, false_implies, implies_true, ow]
    exact ⟨⟨(fun k hk hk' => d0 k hk.1 k (by simp [hk'.1]) rfl), (fun k hk hk' => d0 k hk.1 k (by simp [hk'.1]) rfl), (fun k hk hk' => d0 k hk.1 k (by simp [hk'.1]) rfl)⟩, ⟨(fun k hk hk' => d1 k hk.1 k (by simp [hk'.1]) rfl), (fun k hk hk' => d1 k hk.1 k (by simp [hk'.1]) rfl)⟩, (fun k hk hk' => d2 k hk.1 k (by simp [hk'.1]) rfl)⟩
theorem wG_shut2 {w0 w : World} {lo hi : Nat} {g : gT} {P0 P1 P2 P3 : Value} {F0 F1 F2 F3 : List Nat} {T : List Res} (S : St w0 w (ow (rLsw (rPair rInt rInt)) lo hi g.prog [P0] F0 :: ow (rLsw (rPair rInt rInt)) lo hi g.wr [P1] F1 :: ow (rLsw (rPair rInt rInt)) lo hi g.lv [P2] F2 :: ow (rLsw rInt) lo hi g.seen [P3] F3 :: T)) : St w0 w (ow wG lo hi g [P0, .int .i64 g.a, .int .i64 g.pc, P1, P2, .int .i64 g.t.1, .int .i64 g.t.2.1, .bool g.t.2.2, .int .i64 g.pd, .int .i64 g.x.1, .int .i64 g.x.2.1, .bool g.x.2.2.1, .int .i64 g.x.2.2.2, .bool g.hl, P3] (F0 ++ (F1 ++ (F2 ++ F3))) :: T) := by
  have hnd := (wG_shut (g := g) S 0 rfl 1 rfl 2 rfl 3 rfl (by decide) (by decide) (by decide) (by decide) (by decide) (by decide)).2
  refine Sx.St.merge (rs := [ow (rLsw (rPair rInt rInt)) lo hi g.prog [P0] F0, ow (rLsw (rPair rInt rInt)) lo hi g.wr [P1] F1, ow (rLsw (rPair rInt rInt)) lo hi g.lv [P2] F2, ow (rLsw rInt) lo hi g.seen [P3] F3]) S (ow wG lo hi g [P0, .int .i64 g.a, .int .i64 g.pc, P1, P2, .int .i64 g.t.1, .int .i64 g.t.2.1, .bool g.t.2.2, .int .i64 g.pd, .int .i64 g.x.1, .int .i64 g.x.2.1, .bool g.x.2.2.1, .int .i64 g.x.2.2.2, .bool g.hl, P3] (F0 ++ (F1 ++ (F2 ++ F3)))) ⟨wG_own_mk (S.at_ 0 rfl).1 (S.at_ 1 rfl).1 (S.at_ 2 rfl).1 (S.at_ 3 rfl).1, hnd⟩ (fun k hk => ?_) (S.lo 0 _ rfl : w0.heap.size ≤ lo) (S.hi 0 _ rfl : hi ≤ w.heap.size)
  obtain ⟨hk, hb⟩ := hk
  simp only [List.mem_append] at hk
  rcases hk with h | h | h | h
  · exact ⟨_, List.mem_cons_self, h, hb⟩
  · exact ⟨_, List.mem_cons_of_mem _ (List.mem_cons_self), h, hb⟩
  · exact ⟨_, List.mem_cons_of_mem _ (List.mem_cons_of_mem _ (List.mem_cons_self)), h, hb⟩
  · exact ⟨_, List.mem_cons_of_mem _ (List.mem_cons_of_mem _ (List.mem_cons_of_mem _ (List.mem_cons_self))), h, hb⟩
theorem copen_Guest {P : Program} {n : Nat} {Q : Exit → Act → World → Prop} {w0 : World} {T : Sx.Tl} {c : Code} {lo hi : Nat} {g : gT} {es : List Value} {Fi : List Nat} {H : Res} {rest : List Res} (kk : ∀ P0 P1 P2 P3 F0 F1 F2 F3, es = [P0, .int .i64 g.a, .int .i64 g.pc, P1, P2, .int .i64 g.t.1, .int .i64 g.t.2.1, .bool g.t.2.2, .int .i64 g.pd, .int .i64 g.x.1, .int .i64 g.x.2.1, .bool g.x.2.2.1, .int .i64 g.x.2.2.2, .bool g.hl, P3] → Fi = F0 ++ (F1 ++ (F2 ++ F3)) → Sx.C P n Q w0 T (H :: ow (rLsw (rPair rInt rInt)) lo hi g.prog [P0] F0 :: ow (rLsw (rPair rInt rInt)) lo hi g.wr [P1] F1 :: ow (rLsw (rPair rInt rInt)) lo hi g.lv [P2] F2 :: ow (rLsw rInt) lo hi g.seen [P3] F3 :: rest) c) : Sx.C P n Q w0 T (H :: ow wG lo hi g es Fi :: rest) c := fun a w hA S => by
  obtain ⟨P0, P1, P2, P3, F0, F1, F2, F3, e1, e2, S'⟩ := wG_open2 (Sx.St.front S 1 rfl)
  exact kk P0 P1 P2 P3 F0 F1 F2 F3 e1 e2 a w hA (Sx.St.front S' 4 rfl)
theorem cshut_Guest {w0 w : World} {lo hi : Nat} {g : gT} {P0 P1 P2 P3 : Value} {F0 F1 F2 F3 : List Nat} {H : Res} {rest : List Res} (S : St w0 w (H :: ow (rLsw (rPair rInt rInt)) lo hi g.prog [P0] F0 :: ow (rLsw (rPair rInt rInt)) lo hi g.wr [P1] F1 :: ow (rLsw (rPair rInt rInt)) lo hi g.lv [P2] F2 :: ow (rLsw rInt) lo hi g.seen [P3] F3 :: rest)) : St w0 w (H :: ow wG lo hi g [P0, .int .i64 g.a, .int .i64 g.pc, P1, P2, .int .i64 g.t.1, .int .i64 g.t.2.1, .bool g.t.2.2, .int .i64 g.pd, .int .i64 g.x.1, .int .i64 g.x.2.1, .bool g.x.2.2.1, .int .i64 g.x.2.2.2, .bool g.hl, P3] (F0 ++ (F1 ++ (F2 ++ F3))) :: rest) :=
  Sx.St.front (wG_shut2 (g := g) (Sx.St.front (Sx.St.front (Sx.St.front (Sx.St.front S 4 rfl) 4 rfl) 4 rfl) 4 rfl)) 1 rfl
theorem size_Guest (g : gT) : wG.size g = (g.prog.length + sizeAll (rPair rInt rInt) g.prog) + (g.wr.length + sizeAll (rPair rInt rInt) g.wr) + (g.lv.length + sizeAll (rPair rInt rInt) g.lv) + (g.seen.length + sizeAll rInt g.seen) := by simp only [wG, rVia, rPair, rInt, rBool, rLsw, rCtl, rExit]; omega
theorem cnt_Guest (g : gT) : wG.cnt g = cntAll (rPair rInt rInt) g.prog + cntAll (rPair rInt rInt) g.wr + cntAll (rPair rInt rInt) g.lv + cntAll rInt g.seen + 11 := by simp only [wG, rVia, rPair, rInt, rBool, rLsw, rCtl, rExit]; omega
set_option maxRecDepth 100000 in
set_option maxHeartbeats 4000000 in
theorem keq_Guest (x : gT) (cs ds : List Value) (w : World) (hc : wG.cap x) (h : wG.rd w 0 w.heap.size x cs) (j : wG.rd w 0 w.heap.size x ds) : Calls Try.prog 24 #[.agg cs.toArray, .agg ds.toArray] w (fun e w' => e = .returned (.bool true) ∧ Below w.heap.size w w') := by
  obtain ⟨hcap0, hcap1, hcap2, hcap3, hcap4, hcap5, hcap6, hcap7, hcap8, hcap9⟩ := hc
  have hR := h
  obtain ⟨hP0, hP1, hP2, hP3, rfl, hf0, hf1, hf2, hf3⟩ := wG_rd h
  obtain ⟨hA0, hK0, he0, -⟩ := lst_val hf0
  subst he0
  obtain ⟨hA1, hK1, he1, -⟩ := lst_val hf1
  subst he1
  obtain ⟨hA2, hK2, he2, -⟩ := lst_val hf2
  subst he2
  obtain ⟨hA3, hK3, he3, -⟩ := lst_val hf3
  subst he3
  have jR := j
  obtain ⟨jP0, jP1, jP2, jP3, rfl, jf0, jf1, jf2, jf3⟩ := wG_rd j
  obtain ⟨jA0, jK0, je0, -⟩ := lst_val jf0
  subst je0
  obtain ⟨jA1, jK1, je1, -⟩ := lst_val jf1
  subst je1
  obtain ⟨jA2, jK2, je2, -⟩ := lst_val jf2
  subst je2
  obtain ⟨jA3, jK3, je3, -⟩ := lst_val jf3
  subst je3
  refine Sx.enter (args := [.agg #[.slice hA0 x.prog.length hK0, .int .i64 x.a, .int .i64 x.pc, .slice hA1 x.wr.length hK1, .slice hA2 x.lv.length hK2, .int .i64 x.t.1, .int .i64 x.t.2.1, .bool x.t.2.2, .int .i64 x.pd, .int .i64 x.x.1, .int .i64 x.x.2.1, .bool x.x.2.2.1, .int .i64 x.x.2.2.2, .bool x.hl, .slice hA3 x.seen.length hK3], .agg #[.slice jA0 x.prog.length jK0, .int .i64 x.a, .int .i64 x.pc, .slice jA1 x.wr.length jK1, .slice jA2 x.lv.length jK2, .int .i64 x.t.1, .int .i64 x.t.2.1, .bool x.t.2.2, .int .i64 x.pd, .int .i64 x.x.1, .int .i64 x.x.2.1, .bool x.x.2.2.1, .int .i64 x.x.2.2.2, .bool x.hl, .slice jA3 x.seen.length jK3]]) Try.func24 rfl Try.ntmps24 rfl ?_
  refine Sx.C.seq ?_
  refine Sx.C.region ?_
  refine Sx.G.box 51 (.tmp 0) [.slice hA0 x.prog.length hK0, .int .i64 x.a, .int .i64 x.pc, .slice hA1 x.wr.length hK1, .slice hA2 x.lv.length hK2, .int .i64 x.t.1, .int .i64 x.t.2.1, .bool x.t.2.2, .int .i64 x.pd, .int .i64 x.x.1, .int .i64 x.x.2.1, .bool x.x.2.2.1, .int .i64 x.x.2.2.2, .bool x.hl, .slice hA3 x.seen.length hK3] rfl (by kernel_rfl) (by kernel_rfl) (fun b1 => ?_)
  refine Sx.G.box 51 (.tmp 1) [.slice jA0 x.prog.length jK0, .int .i64 x.a, .int .i64 x.pc, .slice jA1 x.wr.length jK1, .slice jA2 x.lv.length jK2, .int .i64 x.t.1, .int .i64 x.t.2.1, .bool x.t.2.2, .int .i64 x.pd, .int .i64 x.x.1, .int .i64 x.x.2.1, .bool x.x.2.2.1, .int .i64 x.x.2.2.2, .bool x.hl, .slice jA3 x.seen.length jK3] rfl (by kernel_rfl) (by kernel_rfl) (fun b2 => ?_)
  refine Sx.G.pure (.bool false) (by kernel_rfl) (fun w => by kernel_rfl) ?_
  refine Sx.G.nil ?_
  refine Sx.E.next ?_
  refine Sx.C.seq ?_
  refine Sx.C.seq ?_
  refine Sx.C.region ?_
  refine Sx.G.pure (.pointer (some ⟨b1, 0, none⟩)) (by kernel_rfl) (fun w => by kernel_rfl) ?_
  refine Sx.G.ld1 44 (.tmp 5) b1 0 1 [.slice hA0 x.prog.length hK0, .int .i64 x.a, .int .i64 x.pc, .slice hA1 x.wr.length hK1, .slice hA2 x.lv.length hK2, .int .i64 x.t.1, .int .i64 x.t.2.1, .bool x.t.2.2, .int .i64 x.pd, .int .i64 x.x.1, .int .i64 x.x.2.1, .bool x.x.2.2.1, .int .i64 x.x.2.2.2, .bool x.hl, .slice hA3 x.seen.length hK3] (.slice hA0 x.prog.length hK0) rfl (by kernel_rfl) (by kernel_rfl) rfl (by kernel_rfl) (by kernel_rfl) ?_
  refine Sx.G.pure (.pointer (some ⟨b2, 0, none⟩)) (by kernel_rfl) (fun w => by kernel_rfl) ?_
  refine Sx.G.ld1 44 (.tmp 7) b2 0 0 [.slice jA0 x.prog.length jK0, .int .i64 x.a, .int .i64 x.pc, .slice jA1 x.wr.length jK1, .slice jA2 x.lv.length jK2, .int .i64 x.t.1, .int .i64 x.t.2.1, .bool x.t.2.2, .int .i64 x.pd, .int .i64 x.x.1, .int .i64 x.x.2.1, .bool x.x.2.2.1, .int .i64 x.x.2.2.2, .bool x.hl, .slice jA3 x.seen.length jK3] (.slice jA0 x.prog.length jK0) rfl (by kernel_rfl) (by kernel_rfl) rfl (by kernel_rfl) (by kernel_rfl) ?_
  refine Sx.G.plain 44 #[.slice hA0 x.prog.length hK0, .slice jA0 x.prog.length jK0] (.bool true) (by kernel_rfl) (fun w => by kernel_rfl) (fun w S => by exact Kit.keq_InsS x.prog hA0 hK0 jA0 jK0 _ hcap0 (St.old (r := (rLsw (rPair rInt rInt))) S hf0) (St.old (r := (rLsw (rPair rInt rInt))) S jf0)) ?_
  refine Sx.G.pure (.bool false) (by kernel_rfl) (fun w => by kernel_rfl) ?_
  refine Sx.G.nil ?_
  refine Sx.E.next ?_
  refine Sx.C.no (by kernel_rfl) (by kernel_rfl) ?_
  refine Sx.C.skip ?_
  refine Sx.E.next ?_
  refine Sx.C.seq ?_
  refine Sx.C.seq ?_
  refine Sx.C.region ?_
  refine Sx.G.pure (.pointer (some ⟨b1, 1, none⟩)) (by kernel_rfl) (fun w => by kernel_rfl) ?_
  refine Sx.G.ld1 3 (.tmp 11) b1 1 1 [.slice hA0 x.prog.length hK0, .int .i64 x.a, .int .i64 x.pc, .slice hA1 x.wr.length hK1, .slice hA2 x.lv.length hK2, .int .i64 x.t.1, .int .i64 x.t.2.1, .bool x.t.2.2, .int .i64 x.pd, .int .i64 x.x.1, .int .i64 x.x.2.1, .bool x.x.2.2.1, .int .i64 x.x.2.2.2, .bool x.hl, .slice hA3 x.seen.length hK3] (.int .i64 x.a) rfl (by kernel_rfl) (by kernel_rfl) rfl (by kernel_rfl) (by kernel_rfl) ?_
  refine Sx.G.pure (.pointer (some ⟨b2, 1, none⟩)) (by kernel_rfl) (fun w => by kernel_rfl) ?_
  refine Sx.G.ld1 3 (.tmp 13) b2 1 0 [.slice jA0 x.prog.length jK0, .int .i64 x.a, .int .i64 x.pc, .slice jA1 x.wr.length jK1, .slice jA2 x.lv.length jK2, .int .i64 x.t.1, .int .i64 x.t.2.1, .bool x.t.2.2, .int .i64 x.pd, .int .i64 x.x.1, .int .i64 x.x.2.1, .bool x.x.2.2.1, .int .i64 x.x.2.2.2, .bool x.hl, .slice jA3 x.seen.length jK3] (.int .i64 x.a) rfl (by kernel_rfl) (by kernel_rfl) rfl (by kernel_rfl) (by kernel_rfl) ?_
  refine Sx.G.pureq (.bool (x.a != x.a)) (.bool false) (by kernel_rfl) (fun w => by kernel_rfl) (congrArg Value.bool (bne_self_eq_false _)) ?_
  refine Sx.G.nil ?_
  refine Sx.E.next ?_
  refine Sx.C.no (by kernel_rfl) (by kernel_rfl) ?_
  refine Sx.C.skip ?_
  refine Sx.E.next ?_
  refine Sx.C.seq ?_
  refine Sx.C.seq ?_
  refine Sx.C.region ?_
  refine Sx.G.pure (.pointer (some ⟨b1, 2, none⟩)) (by kernel_rfl) (fun w => by kernel_rfl) ?_
  refine Sx.G.ld1 3 (.tmp 16) b1 2 1 [.slice hA0 x.prog.length hK0, .int .i64 x.a, .int .i64 x.pc, .slice hA1 x.wr.length hK1, .slice hA2 x.lv.length hK2, .int .i64 x.t.1, .int .i64 x.t.2.1, .bool x.t.2.2, .int .i64 x.pd, .int .i64 x.x.1, .int .i64 x.x.2.1, .bool x.x.2.2.1, .int .i64 x.x.2.2.2, .bool x.hl, .slice hA3 x.seen.length hK3] (.int .i64 x.pc) rfl (by kernel_rfl) (by kernel_rfl) rfl (by kernel_rfl) (by kernel_rfl) ?_
  refine Sx.G.pure (.pointer (some ⟨b2, 2, none⟩)) (by kernel_rfl) (fun w => by kernel_rfl) ?_
  refine Sx.G.ld1 3 (.tmp 18) b2 2 0 [.slice jA0 x.prog.length jK0, .int .i64 x.a, .int .i64 x.pc, .slice jA1 x.wr.length jK1, .slice jA2 x.lv.length jK2, .int .i64 x.t.1, .int .i64 x.t.2.1, .bool x.t.2.2, .int .i64 x.pd, .int .i64 x.x.1, .int .i64 x.x.2.1, .bool x.x.2.2.1, .int .i64 x.x.2.2.2, .bool x.hl, .slice jA3 x.seen.length jK3] (.int .i64 x.pc) rfl (by kernel_rfl) (by kernel_rfl) rfl (by kernel_rfl) (by kernel_rfl) ?_
  refine Sx.G.pureq (.bool (x.pc != x.pc)) (.bool false) (by kernel_rfl) (fun w => by kernel_rfl) (congrArg Value.bool (bne_self_eq_false _)) ?_
  refine Sx.G.nil ?_
  refine Sx.E.next ?_
  refine Sx.C.no (by kernel_rfl) (by kernel_rfl) ?_
  refine Sx.C.skip ?_
  refine Sx.E.next ?_
  refine Sx.C.seq ?_
  refine Sx.C.seq ?_
  refine Sx.C.region ?_
  refine Sx.G.pure (.pointer (some ⟨b1, 3, none⟩)) (by kernel_rfl) (fun w => by kernel_rfl) ?_
  refine Sx.G.ld1 45 (.tmp 21) b1 3 1 [.slice hA0 x.prog.length hK0, .int .i64 x.a, .int .i64 x.pc, .slice hA1 x.wr.length hK1, .slice hA2 x.lv.length hK2, .int .i64 x.t.1, .int .i64 x.t.2.1, .bool x.t.2.2, .int .i64 x.pd, .int .i64 x.x.1, .int .i64 x.x.2.1, .bool x.x.2.2.1, .int .i64 x.x.2.2.2, .bool x.hl, .slice hA3 x.seen.length hK3] (.slice hA1 x.wr.length hK1) rfl (by kernel_rfl) (by kernel_rfl) rfl (by kernel_rfl) (by kernel_rfl) ?_
  refine Sx.G.pure (.pointer (some ⟨b2, 3, none⟩)) (by kernel_rfl) (fun w => by kernel_rfl) ?_
  refine Sx.G.ld1 45 (.tmp 23) b2 3 0 [.slice jA0 x.prog.length jK0, .int .i64 x.a, .int .i64 x.pc, .slice jA1 x.wr.length jK1, .slice jA2 x.lv.length jK2, .int .i64 x.t.1, .int .i64 x.t.2.1, .bool x.t.2.2, .int .i64 x.pd, .int .i64 x.x.1, .int .i64 x.x.2.1, .bool x.x.2.2.1, .int .i64 x.x.2.2.2, .bool x.hl, .slice jA3 x.seen.length jK3] (.slice jA1 x.wr.length jK1) rfl (by kernel_rfl) (by kernel_rfl) rfl (by kernel_rfl) (by kernel_rfl) ?_
  refine Sx.G.plain 70 #[.slice hA1 x.wr.length hK1, .slice jA1 x.wr.length jK1] (.bool true) (by kernel_rfl) (fun w => by kernel_rfl) (fun w S => by exact Kit.keq_SlotS x.wr hA1 hK1 jA1 jK1 _ hcap3 (St.old (r := (rLsw (rPair rInt rInt))) S hf1) (St.old (r := (rLsw (rPair rInt rInt))) S jf1)) ?_
  refine Sx.G.pure (.bool false) (by kernel_rfl) (fun w => by kernel_rfl) ?_
  refine Sx.G.nil ?_
  refine Sx.E.next ?_
  refine Sx.C.no (by kernel_rfl) (by kernel_rfl) ?_
  refine Sx.C.skip ?_
  refine Sx.E.next ?_
  refine Sx.C.seq ?_
  refine Sx.C.seq ?_
  refine Sx.C.region ?_
  refine Sx.G.pure (.pointer (some ⟨b1, 4, none⟩)) (by kernel_rfl) (fun w => by kernel_rfl) ?_
  refine Sx.G.ld1 45 (.tmp 27) b1 4 1 [.slice hA0 x.prog.length hK0, .int .i64 x.a, .int .i64 x.pc, .slice hA1 x.wr.length hK1, .slice hA2 x.lv.length hK2, .int .i64 x.t.1, .int .i64 x.t.2.1, .bool x.t.2.2, .int .i64 x.pd, .int .i64 x.x.1, .int .i64 x.x.2.1, .bool x.x.2.2.1, .int .i64 x.x.2.2.2, .bool x.hl, .slice hA3 x.seen.length hK3] (.slice hA2 x.lv.length hK2) rfl (by kernel_rfl) (by kernel_rfl) rfl (by kernel_rfl) (by kernel_rfl) ?_
  refine Sx.G.pure (.pointer (some ⟨b2, 4, none⟩)) (by kernel_rfl) (fun w => by kernel_rfl) ?_
  refine Sx.G.ld1 45 (.tmp 29) b2 4 0 [.slice jA0 x.prog.length jK0, .int .i64 x.a, .int .i64 x.pc, .slice jA1 x.wr.length jK1, .slice jA2 x.lv.length jK2, .int .i64 x.t.1, .int .i64 x.t.2.1, .bool x.t.2.2, .int .i64 x.pd, .int .i64 x.x.1, .int .i64 x.x.2.1, .bool x.x.2.2.1, .int .i64 x.x.2.2.2, .bool x.hl, .slice jA3 x.seen.length jK3] (.slice jA2 x.lv.length jK2) rfl (by kernel_rfl) (by kernel_rfl) rfl (by kernel_rfl) (by kernel_rfl) ?_
  refine Sx.G.plain 70 #[.slice hA2 x.lv.length hK2, .slice jA2 x.lv.length jK2] (.bool true) (by kernel_rfl) (fun w => by kernel_rfl) (fun w S => by exact Kit.keq_SlotS x.lv hA2 hK2 jA2 jK2 _ hcap4 (St.old (r := (rLsw (rPair rInt rInt))) S hf2) (St.old (r := (rLsw (rPair rInt rInt))) S jf2)) ?_
  refine Sx.G.pure (.bool false) (by kernel_rfl) (fun w => by kernel_rfl) ?_
  refine Sx.G.nil ?_
  refine Sx.E.next ?_
  refine Sx.C.no (by kernel_rfl) (by kernel_rfl) ?_
  refine Sx.C.skip ?_
  refine Sx.E.next ?_
  refine Sx.C.seq ?_
  refine Sx.C.seq ?_
  refine Sx.C.region ?_
  refine Sx.G.pure (.pointer (some ⟨b1, 5, none⟩)) (by kernel_rfl) (fun w => by kernel_rfl) ?_
  refine Sx.G.ld 47 (.tmp 33) b1 5 1 [.slice hA0 x.prog.length hK0, .int .i64 x.a, .int .i64 x.pc, .slice hA1 x.wr.length hK1, .slice hA2 x.lv.length hK2, .int .i64 x.t.1, .int .i64 x.t.2.1, .bool x.t.2.2, .int .i64 x.pd, .int .i64 x.x.1, .int .i64 x.x.2.1, .bool x.x.2.2.1, .int .i64 x.x.2.2.2, .bool x.hl, .slice hA3 x.seen.length hK3] [.int .i64 x.t.1, .int .i64 x.t.2.1, .bool x.t.2.2] rfl (by kernel_rfl) (by kernel_rfl) rfl (by kernel_rfl) (by kernel_rfl) (by kernel_rfl) ?_
  refine Sx.G.pure (.pointer (some ⟨b2, 5, none⟩)) (by kernel_rfl) (fun w => by kernel_rfl) ?_
  refine Sx.G.ld 47 (.tmp 35) b2 5 0 [.slice jA0 x.prog.length jK0, .int .i64 x.a, .int .i64 x.pc, .slice jA1 x.wr.length jK1, .slice jA2 x.lv.length jK2, .int .i64 x.t.1, .int .i64 x.t.2.1, .bool x.t.2.2, .int .i64 x.pd, .int .i64 x.x.1, .int .i64 x.x.2.1, .bool x.x.2.2.1, .int .i64 x.x.2.2.2, .bool x.hl, .slice jA3 x.seen.length jK3] [.int .i64 x.t.1, .int .i64 x.t.2.1, .bool x.t.2.2] rfl (by kernel_rfl) (by kernel_rfl) rfl (by kernel_rfl) (by kernel_rfl) (by kernel_rfl) ?_
  refine Sx.G.plain 71 #[.agg #[.int .i64 x.t.1, .int .i64 x.t.2.1, .bool x.t.2.2], .agg #[.int .i64 x.t.1, .int .i64 x.t.2.1, .bool x.t.2.2]] (.bool true) (by kernel_rfl) (fun w => by kernel_rfl) (fun w S => by exact Kit.keq_Ctl x.t _) ?_
  refine Sx.G.pure (.bool false) (by kernel_rfl) (fun w => by kernel_rfl) ?_
  refine Sx.G.nil ?_
  refine Sx.E.next ?_
  refine Sx.C.no (by kernel_rfl) (by kernel_rfl) ?_
  refine Sx.C.skip ?_
  refine Sx.E.next ?_
  refine Sx.C.seq ?_
  refine Sx.C.seq ?_
  refine Sx.C.region ?_
  refine Sx.G.pure (.pointer (some ⟨b1, 8, none⟩)) (by kernel_rfl) (fun w => by kernel_rfl) ?_
  refine Sx.G.ld1 3 (.tmp 39) b1 8 1 [.slice hA0 x.prog.length hK0, .int .i64 x.a, .int .i64 x.pc, .slice hA1 x.wr.length hK1, .slice hA2 x.lv.length hK2, .int .i64 x.t.1, .int .i64 x.t.2.1, .bool x.t.2.2, .int .i64 x.pd, .int .i64 x.x.1, .int .i64 x.x.2.1, .bool x.x.2.2.1, .int .i64 x.x.2.2.2, .bool x.hl, .slice hA3 x.seen.length hK3] (.int .i64 x.pd) rfl (by kernel_rfl) (by kernel_rfl) rfl (by kernel_rfl) (by kernel_rfl) ?_
  refine Sx.G.pure (.pointer (some ⟨b2, 8, none⟩)) (by kernel_rfl) (fun w => by kernel_rfl) ?_
  refine Sx.G.ld1 3 (.tmp 41) b2 8 0 [.slice jA0 x.prog.length jK0, .int .i64 x.a, .int .i64 x.pc, .slice jA1 x.wr.length jK1, .slice jA2 x.lv.length jK2, .int .i64 x.t.1, .int .i64 x.t.2.1, .bool x.t.2.2, .int .i64 x.pd, .int .i64 x.x.1, .int .i64 x.x.2.1, .bool x.x.2.2.1, .int .i64 x.x.2.2.2, .bool x.hl, .slice jA3 x.seen.length jK3] (.int .i64 x.pd) rfl (by kernel_rfl) (by kernel_rfl) rfl (by kernel_rfl) (by kernel_rfl) ?_
  refine Sx.G.pureq (.bool (x.pd != x.pd)) (.bool false) (by kernel_rfl) (fun w => by kernel_rfl) (congrArg Value.bool (bne_self_eq_false _)) ?_
  refine Sx.G.nil ?_
  refine Sx.E.next ?_
  refine Sx.C.no (by kernel_rfl) (by kernel_rfl) ?_
  refine Sx.C.skip ?_
  refine Sx.E.next ?_
  refine Sx.C.seq ?_
  refine Sx.C.seq ?_
  refine Sx.C.region ?_
  refine Sx.G.pure (.pointer (some ⟨b1, 9, none⟩)) (by kernel_rfl) (fun w => by kernel_rfl) ?_
  refine Sx.G.ld 49 (.tmp 44) b1 9 1 [.slice hA0 x.prog.length hK0, .int .i64 x.a, .int .i64 x.pc, .slice hA1 x.wr.length hK1, .slice hA2 x.lv.length hK2, .int .i64 x.t.1, .int .i64 x.t.2.1, .bool x.t.2.2, .int .i64 x.pd, .int .i64 x.x.1, .int .i64 x.x.2.1, .bool x.x.2.2.1, .int .i64 x.x.2.2.2, .bool x.hl, .slice hA3 x.seen.length hK3] [.int .i64 x.x.1, .int .i64 x.x.2.1, .bool x.x.2.2.1, .int .i64 x.x.2.2.2] rfl (by kernel_rfl) (by kernel_rfl) rfl (by kernel_rfl) (by kernel_rfl) (by kernel_rfl) ?_
  refine Sx.G.pure (.pointer (some ⟨b2, 9, none⟩)) (by kernel_rfl) (fun w => by kernel_rfl) ?_
  refine Sx.G.ld 49 (.tmp 46) b2 9 0 [.slice jA0 x.prog.length jK0, .int .i64 x.a, .int .i64 x.pc, .slice jA1 x.wr.length jK1, .slice jA2 x.lv.length jK2, .int .i64 x.t.1, .int .i64 x.t.2.1, .bool x.t.2.2, .int .i64 x.pd, .int .i64 x.x.1, .int .i64 x.x.2.1, .bool x.x.2.2.1, .int .i64 x.x.2.2.2, .bool x.hl, .slice jA3 x.seen.length jK3] [.int .i64 x.x.1, .int .i64 x.x.2.1, .bool x.x.2.2.1, .int .i64 x.x.2.2.2] rfl (by kernel_rfl) (by kernel_rfl) rfl (by kernel_rfl) (by kernel_rfl) (by kernel_rfl) ?_
  refine Sx.G.plain 72 #[.agg #[.int .i64 x.x.1, .int .i64 x.x.2.1, .bool x.x.2.2.1, .int .i64 x.x.2.2.2], .agg #[.int .i64 x.x.1, .int .i64 x.x.2.1, .bool x.x.2.2.1, .int .i64 x.x.2.2.2]] (.bool true) (by kernel_rfl) (fun w => by kernel_rfl) (fun w S => by exact Kit.keq_Exit x.x _) ?_
  refine Sx.G.pure (.bool false) (by kernel_rfl) (fun w => by kernel_rfl) ?_
  refine Sx.G.nil ?_
  refine Sx.E.next ?_
  refine Sx.C.no (by kernel_rfl) (by kernel_rfl) ?_
  refine Sx.C.skip ?_
  refine Sx.E.next ?_
  refine Sx.C.seq ?_
  refine Sx.C.seq ?_
  refine Sx.C.region ?_
  refine Sx.G.pure (.pointer (some ⟨b1, 13, none⟩)) (by kernel_rfl) (fun w => by kernel_rfl) ?_
  refine Sx.G.ld1 4 (.tmp 50) b1 13 1 [.slice hA0 x.prog.length hK0, .int .i64 x.a, .int .i64 x.pc, .slice hA1 x.wr.length hK1, .slice hA2 x.lv.length hK2, .int .i64 x.t.1, .int .i64 x.t.2.1, .bool x.t.2.2, .int .i64 x.pd, .int .i64 x.x.1, .int .i64 x.x.2.1, .bool x.x.2.2.1, .int .i64 x.x.2.2.2, .bool x.hl, .slice hA3 x.seen.length hK3] (.bool x.hl) rfl (by kernel_rfl) (by kernel_rfl) rfl (by kernel_rfl) (by kernel_rfl) ?_
  refine Sx.G.pure (.pointer (some ⟨b2, 13, none⟩)) (by kernel_rfl) (fun w => by kernel_rfl) ?_
  refine Sx.G.ld1 4 (.tmp 52) b2 13 0 [.slice jA0 x.prog.length jK0, .int .i64 x.a, .int .i64 x.pc, .slice jA1 x.wr.length jK1, .slice jA2 x.lv.length jK2, .int .i64 x.t.1, .int .i64 x.t.2.1, .bool x.t.2.2, .int .i64 x.pd, .int .i64 x.x.1, .int .i64 x.x.2.1, .bool x.x.2.2.1, .int .i64 x.x.2.2.2, .bool x.hl, .slice jA3 x.seen.length jK3] (.bool x.hl) rfl (by kernel_rfl) (by kernel_rfl) rfl (by kernel_rfl) (by kernel_rfl) ?_
  refine Sx.G.pureq (.bool (x.hl != x.hl)) (.bool false) (by kernel_rfl) (fun w => by kernel_rfl) (congrArg Value.bool (bne_self_eq_false _)) ?_
  refine Sx.G.nil ?_
  refine Sx.E.next ?_
  refine Sx.C.no (by kernel_rfl) (by kernel_rfl) ?_
  refine Sx.C.skip ?_
  refine Sx.E.next ?_
  refine Sx.C.seq ?_
  refine Sx.C.seq ?_
  refine Sx.C.region ?_
  refine Sx.G.pure (.pointer (some ⟨b1, 14, none⟩)) (by kernel_rfl) (fun w => by kernel_rfl) ?_
  refine Sx.G.ld1 26 (.tmp 55) b1 14 1 [.slice hA0 x.prog.length hK0, .int .i64 x.a, .int .i64 x.pc, .slice hA1 x.wr.length hK1, .slice hA2 x.lv.length hK2, .int .i64 x.t.1, .int .i64 x.t.2.1, .bool x.t.2.2, .int .i64 x.pd, .int .i64 x.x.1, .int .i64 x.x.2.1, .bool x.x.2.2.1, .int .i64 x.x.2.2.2, .bool x.hl, .slice hA3 x.seen.length hK3] (.slice hA3 x.seen.length hK3) rfl (by kernel_rfl) (by kernel_rfl) rfl (by kernel_rfl) (by kernel_rfl) ?_
  refine Sx.G.pure (.pointer (some ⟨b2, 14, none⟩)) (by kernel_rfl) (fun w => by kernel_rfl) ?_
  refine Sx.G.ld1 26 (.tmp 57) b2 14 0 [.slice jA0 x.prog.length jK0, .int .i64 x.a, .int .i64 x.pc, .slice jA1 x.wr.length jK1, .slice jA2 x.lv.length jK2, .int .i64 x.t.1, .int .i64 x.t.2.1, .bool x.t.2.2, .int .i64 x.pd, .int .i64 x.x.1, .int .i64 x.x.2.1, .bool x.x.2.2.1, .int .i64 x.x.2.2.2, .bool x.hl, .slice jA3 x.seen.length jK3] (.slice jA3 x.seen.length jK3) rfl (by kernel_rfl) (by kernel_rfl) rfl (by kernel_rfl) (by kernel_rfl) ?_
  refine Sx.G.plain 43 #[.slice hA3 x.seen.length hK3, .slice jA3 x.seen.length jK3] (.bool true) (by kernel_rfl) (fun w => by kernel_rfl) (fun w S => by exact Kit.keq_IntS x.seen hA3 hK3 jA3 jK3 _ hcap9 (St.old (r := (rLsw rInt)) S hf3) (St.old (r := (rLsw rInt)) S jf3)) ?_
  refine Sx.G.pure (.bool false) (by kernel_rfl) (fun w => by kernel_rfl) ?_
  refine Sx.G.nil ?_
  refine Sx.E.next ?_
  refine Sx.C.no (by kernel_rfl) (by kernel_rfl) ?_
  refine Sx.C.skip ?_
  refine Sx.E.next ?_
  refine Sx.C.seq ?_
  refine Sx.C.region ?_
  refine Sx.G.pure (.bool true) (by kernel_rfl) (fun w => by kernel_rfl) ?_
  refine Sx.G.nil ?_
  refine Sx.E.next ?_
  refine Sx.C.ret ?_
  refine Sx.E.ret1 (.bool true) rfl (by kernel_rfl) (fun w S => ?_)
  exact ⟨rfl, S.below⟩
end Go.Proofs.Ytldgadmpclgfhaa.Kit
