/-
  At every argument the law FnExactWalkInner returns true: the project's WalkInner answers as the given model's WalkInner, changes no argument, and what it returns is its own. The project's sentinels that the row lists are tied to the program's text by the given card (over the pruned copy of the project that the seat holds). No other condition.
-/
import Derived.Test.YtilgkknmldlklaaDoorCards
import Derived.Test.YtilgkknmldlklaaDoorTie
import Derived.Test.YtilgkknmldlklaaDoorLaidW
import Derived.Test.YtilgkknmldlklaaDoorFaultsW
import Derived.Test.YtilgkknmldlklaaDoorSlotArgs
import Derived.Deep.DeepHandedRow
import Derived.Deep.DeepWitnessRowRef
import Derived.Lay
namespace Go.Proofs.YtilgkknmldlklaaDoor.fnExactWalkInner
set_option maxRecDepth 100000
open Go.ChangeShapes Go.WideShapes Go.ChangeAt Go.RowKit
open Go.Proofs.YtilgkknmldlklaaDoor.Base Go.Proofs.YtilgkknmldlklaaDoor.Mem Go.Proofs.YtilgkknmldlklaaDoor.Slots Go.Proofs.YtilgkknmldlklaaDoor.Ints
set_option linter.unusedVariables false

set_option maxRecDepth 100000 in
set_option maxHeartbeats 4000000 in
theorem walk (A0 : Option Addr) (n0 c0 : Nat) (l0 : List Sl) (a1 : Int) (a2 : Int) {w : World} (hn0 : n0 ≤ 9223372036854775807) (hl0 : l0.length = n0) (hw0 : wfL l0) (h0 : Lies w 0 w.heap.size A0 (scells l0)) (w1 : (Lit.int .i64 a1).wf = true) (w2 : (Lit.int .i64 a2).wf = true) (z0 : Addr) (hs : Sent1 w z0) :
    Calls Tryd.prog 4 #[.slice A0 n0 c0, .int .i64 a1, .int .i64 a2] w fun e w' => e = .returned (.bool true) ∧ Below w.heap.size w w' := by
  have HA0 := Lib.hid (show ∀ W, Below w.heap.size w W → Lies W 0 W.heap.size A0 (scells l0) from fun W hb => (h0.below hb (Nat.le_refl _)).wide (Nat.le_refl _) hb.size)
  have HL0 := Lib.hid hl0
  have HW0 := Lib.hid hw0
  clear hl0 hw0 h0
  have HW1 := Lib.hid w1
  clear w1
  have HW2 := Lib.hid w2
  clear w2
  have HSN := Lib.hid (show ∀ W, Below w.heap.size w W → Sent1 W z0 from fun W hb => hs.below hb)
  clear hs
  by_cases hbig0 : (1048576 : Int) < (n0 : Int)
  · go_enter Tryd.func4, Tryd.ntmps4
    go_wp2_with fail
    refine (szSlotS_no A0 n0 c0 (1048576 : Int) _ (by omega) (by omega) hn0 hbig0).mono ?_
    rintro e w' ⟨rfl, rfl⟩
    go_wp2_with fail
    go_ret
    exact ⟨rfl, (Below.refl _ _)⟩
  have hm0 : n0 ≤ 1048576 := by omega
  have hle0 : (n0 : Int) ≤ (1048576 : Int) := by omega
  have hz0 : ¬ ((1048576 : Int) - (n0 : Int) < 0) := by omega
  have hK1 := fun (A : Option Addr) (n c : Nat) (V : World) (hn : n ≤ 1048576) (hl : l0.length = n) (h1 : Lies V 0 V.heap.size A (scells l0)) => spec_inner A n c a1 a2 l0 V hn hl h1
  have hK2 := fun (A : Option Addr) (n c : Nat) (V : World) (hn : n ≤ 1048576) (hl : l0.length = n) (h1 : Lies V 0 V.heap.size A (scells l0)) (hs : Sent1 V z0) => impl_inner A n c a1 a2 l0 V z0 hn hl HW0.out HW2.out h1 hs
  generalize innerW l0 a1 a2 = v at hK1 hK2
  obtain ⟨x, y⟩ := v
  have HK1 := Lib.hid hK1
  have HK2 := Lib.hid hK2
  clear hK1 hK2
  go_enter Tryd.func4, Tryd.ntmps4
  go_wp2_with fail
  refine (szSlotS_yes A0 n0 c0 (1048576 : Int) _ (by omega) hle0).mono ?_
  rintro e w' ⟨rfl, rfl⟩
  go_wp2_with fail
  refine (toSlotS_any A0 n0 c0 0 l0 _ hm0 HL0.out (HA0.out _ (Below.refl _ _))).mono ?_
  rintro e w1 ⟨ad1, d1, rfl, hc1, ho1, hb1⟩
  have hB1 := btr (Below.refl _ _) hb1
  have hS1 := hb1.size
  have hOa_1 := Lib.hid ho1
  clear hc1 ho1 hb1
  go_wp2_with fail
  refine (HK1.out _ _ _ _ hm0 HL0.out (hOa_1.out.1.wide (Nat.zero_le _) (by omega))).mono ?_
  rintro e w2 ⟨rfl, hb2⟩
  have hB2 := btr hB1 hb2
  have hS2 := hb2.size
  have hOa_2 := Lib.hid (hOa_1.out.below hb2 (by omega))
  clear hOa_1 hb2
  clear hOa_2
  go_wp2_with fail
  refine (toSlotS_any A0 n0 c0 0 l0 _ hm0 HL0.out (HA0.out _ hB2)).mono ?_
  rintro e w3 ⟨ad3, d3, rfl, hc3, ho3, hb3⟩
  have hB3 := btr hB2 hb3
  have hS3 := hb3.size
  have hOx_3 := Lib.hid ho3
  clear hc3 ho3 hb3
  go_wp2_with fail
  refine (HK2.out _ _ _ _ hm0 HL0.out (hOx_3.out.1.wide (Nat.zero_le _) (by omega)) (HSN.out _ hB3)).mono ?_
  rintro e w4 ⟨rfl, hb4⟩
  have hB4 := btr hB3 hb4
  have hS4 := hb4.size
  have hOx_4 := Lib.hid (hOx_3.out.below hb4 (by omega))
  clear hOx_3 hb4
  go_wp2_with fail
  refine (toSlotS_any A0 n0 c0 0 l0 _ hm0 HL0.out (HA0.out _ hB4)).mono ?_
  rintro e w5 ⟨ad5, d5, rfl, hc5, ho5, hb5⟩
  have hB5 := btr hB4 hb5
  have hS5 := hb5.size
  have hOx_5 := Lib.hid (hOx_4.out.below hb5 (by omega))
  have hOy_5 := Lib.hid ho5
  clear hOx_4 hc5 ho5 hb5
  go_wp2_with fail
  refine (eqSlotS_same (some ad3) (some ad5) n0 d3 d5 _ _ _ _ l0 _ hm0 HL0.out (by omega) (by omega) hOx_5.out.1 hOy_5.out.1).mono ?_
  rintro e w6 ⟨rfl, hb6⟩
  have hB6 := btr hB5 hb6
  have hS6 := hb6.size
  have hOx_6 := Lib.hid (hOx_5.out.below hb6 (by omega))
  have hOy_6 := Lib.hid (hOy_5.out.below hb6 (by omega))
  clear hOx_5 hOy_5 hb6
  go_wp2_with fail
  go_ret
  exact ⟨rfl, hB6⟩

/-! ### The row's step, and the card -/
theorem contract (H : Type) (enc : TypeId × Value → H) (W : World) (base : Nat) (args : Array Value) (ds gs : List (DataW H)) (before : List MemPlace)
    (hval : ∀ (j : Nat) t v, Tryd.f4.params[j]? = some t → args[j]? = some v → Value.okWide Tryd.prog W .any base t v)
    (hW : DataW.Whole enc Tryd.prog Tryd.f4.params.toList Rows.fnExactWalkInnerSpec.vars false W args.toList ds gs before) (hL : laidMetH Tryd.prog Rows.fnExactWalkInnerRow.laid W) :
    Calls Tryd.prog 4 args W fun e W' => ∃ v, e = .returned v ∧ Rows.fnExactWalkInnerSpec.post enc Tryd.prog Tryd.f4 false true false false W args v W' := by
  obtain ⟨z0, hs, hv0⟩ := LaidW.one hL
  have hW' := hW
  obtain ⟨p, q, hA0, hV0, rfl, hfz, hnd⟩ := hW
  have hA : DataW.TrodAll enc Tryd.prog W 0 (fun _ => true) true Tryd.f4.params.toList args.toList ds p := hA0
  have hA1 := hA
  obtain ⟨rfl, rfl⟩ := DataW.TrodVars.unique hV0 (LaidW.read1 enc hv0 _)
  rw [Tryd.params4] at hA hval
  obtain ⟨v0, vs0, d0, ds0, p0, q0, hargs, rfl, rfl, h0, r0⟩ := trodAll_cons hA
  obtain ⟨v1, vs1, d1, ds1, p1, q1, rfl, rfl, rfl, h1, r1⟩ := trodAll_cons r0
  obtain ⟨v2, vs2, d2, ds2, p2, q2, rfl, rfl, rfl, h2, r2⟩ := trodAll_cons r1
  obtain ⟨rfl, rfl, rfl⟩ := trodAll_nil r2
  obtain rfl : args = #[v0, v1, v2] := by cases args; simp_all
  obtain ⟨A0, n0, c0, l0, rfl, hn0, hl0, hw0, h0'⟩ := Slots.open_slots (hval 0 45 v0 rfl rfl) h0
  obtain ⟨a1, rfl, _, _, w1⟩ := open_int Tryd.underlying3 (hval 1 3 v1 rfl rfl) h1
  obtain ⟨a2, rfl, _, _, w2⟩ := open_int Tryd.underlying3 (hval 2 3 v2 rfl rfl) h2
  clear hA0 hV0
  refine (walk A0 n0 c0 l0 a1 a2 hn0 hl0 hw0 h0' w1 w2 z0 hs).mono fun e W' ⟨he, hg⟩ => ?_
  subst he
  exact ⟨_, rfl, LaidW.post_vars Slots.laid (by kernel_rfl) rfl rfl hW' hA1 hg (fun sp => LaidW.read1 enc (LaidW.var_below hv0 hg) sp) (fun _ _ _ => (trodAll_cons_mk (shut_bool Tryd.underlying4 _) trodAll_mk0)) (ok_one (by kernel_rfl) rfl (okWide_bool_mk Tryd.underlying4 _))⟩

theorem laid_met (os : Os) : laidMet Tryd.prog Rows.fnExactWalkInnerRow.laid ((World.laidAll Tryd.prog os Rows.fnExactWalkInnerRow.laid).forCall (fun _ _ => 0) ⟨#[], #[.slice none 0 0, .int .i64 0, .int .i64 0], []⟩).memory :=
  laidMet_laidAll _ (by kernel_rfl) (by kernel_rfl)

set_option maxRecDepth 100000 in
theorem lifted (os : Os) (started : os.Started) (H : Type) (enc : TypeId × Value → H) (F : Stop.Interp) :
    ReturnsInHanded {} Tryd.checked os 4 .any ((OpenSpec.ofChange Rows.fnExactWalkInnerSpec).preRow enc Tryd.prog Tryd.f4 Rows.fnExactWalkInnerRow.domain false Rows.fnExactWalkInnerRow.laid) (((OpenSpec.ofChange Rows.fnExactWalkInnerSpec).at F).post enc Tryd.prog Tryd.f4 false true false false) := by
  refine returnsInHanded_of_row (C := Tryd.checked) (s := OpenSpec.ofChange Rows.fnExactWalkInnerSpec) Base.own started (by kernel_rfl) Tryd.func4
    (witness_row_atRef (enc := enc) (C := Tryd.checked) false (World.laidAll Tryd.prog os Rows.fnExactWalkInnerRow.laid) #[.slice none 0 0, .int .i64 0, .int .i64 0] (World.laidAll_os _ _ _) (by kernel_rfl) (by kernel_rfl) (by kernel_rfl)
      (OpenSpec.preRow_of_B rfl 8 (by kernel_rfl) (by kernel_rfl) (laid_met os))) ?_
  intro W base args ds gs before hval hW _ _ _ hL _ _
  exact contract H enc W base args ds gs before hval hW hL

theorem said : Rows.FnExactWalkInnerSaid :=
  OpenClaim.holds_of_cond 4 Tryd.f4 rfl rfl rfl rfl rfl rfl rfl ⟨rfl, rfl, rfl, rfl, rfl⟩ rfl rfl rfl rfl rfl (by kernel_rfl) Tryd.func4 (by kernel_rfl)
    (of_decide_eq_true (by kernel_rfl)) (by unfold Func.isWrapper; first | (rw [if_pos (by decide +kernel)]; kernel_rfl) | (rw [if_neg (by decide +kernel)]; exact ⟨rfl, rfl⟩))
    (fun os started H enc _ F => by rw [OpenClaim.pre_eq_preRow]; exact lifted os started H enc F)

theorem plain (f : FuncId) (fn : Func) (hf : Tryd.pinned.checked.prog.funcNamed "loop.example/g00975/laws.FnExactWalkInner" = some f) (hfn : Tryd.pinned.checked.prog.funcs[f]? = some fn) :
    true = Tryd.pinned.checked.prog.looks [] ∧ ∀ (j : Nat) t, fn.params[j]? = some t → Tryd.pinned.checked.prog.wantsStandIn t = false := by
  obtain rfl : f = 4 := Option.some.inj ((show Tryd.prog.funcNamed "loop.example/g00975/laws.FnExactWalkInner" = some 4 by kernel_rfl).symm.trans hf) |>.symm
  obtain rfl : fn = Tryd.f4 := (Option.some.inj (Tryd.func4.symm.trans hfn)).symm
  refine ⟨by kernel_rfl, fun j t ht => ?_⟩
  have hall : Tryd.f4.params.toList.all (fun t => !Tryd.prog.wantsStandIn t) = true := by kernel_rfl
  have hm := List.all_eq_true.1 hall t (by simpa using Array.mem_of_getElem? ht)
  exact (show Tryd.prog.wantsStandIn t = false by simpa using hm)

/-- The given statement: the card. -/
theorem proved : Rows.FnExactWalkInnerCardSaid :=
  Claim7.holds_tied_plain_at .later [] _ _ _ _ said (fun _ h => by cases h) (by kernel_rfl) (fun _ h => by cases h) fnExactWalkInner_row_tie rfl ⟨rfl, rfl⟩ (by kernel_rfl) rfl plain (by kernel_rfl)
#print axioms proved
end Go.Proofs.YtilgkknmldlklaaDoor.fnExactWalkInner
