/-
  At every argument the law FnExactWalk returns true: the project's Walk answers as the given model's Walk, changes no argument, and what it returns is its own. The project's sentinels that the row lists are tied to the program's text by the given card (over the pruned copy of the project that the seat holds). No other condition.
-/
import Derived.Test.YtilgkknmldlklaaDoorCards
import Derived.Test.YtilgkknmldlklaaDoorTie
import Derived.Test.YtilgkknmldlklaaDoorLaidW
import Derived.Test.YtilgkknmldlklaaDoorFaultsW
import Derived.Test.YtilgkknmldlklaaDoorSlotArgs
import Derived.Deep.DeepHandedRow
import Derived.Deep.DeepWitnessRowRef
import Derived.Lay
namespace Go.Proofs.YtilgkknmldlklaaDoor.fnExactWalk
set_option maxRecDepth 100000
open Go.ChangeShapes Go.WideShapes Go.ChangeAt Go.RowKit
open Go.Proofs.YtilgkknmldlklaaDoor.Base Go.Proofs.YtilgkknmldlklaaDoor.Mem Go.Proofs.YtilgkknmldlklaaDoor.Slots Go.Proofs.YtilgkknmldlklaaDoor.Ints
set_option linter.unusedVariables false

set_option maxRecDepth 100000 in
set_option maxHeartbeats 4000000 in
theorem walk (A0 : Option Addr) (n0 c0 : Nat) (l0 : List Sl) (A1 : Option Addr) (n1 c1 : Nat) (l1 : List Sl) (a2 : Int) (a3 : Int) {w : World} (hn0 : n0 ≤ 9223372036854775807) (hl0 : l0.length = n0) (hw0 : wfL l0) (h0 : Lies w 0 w.heap.size A0 (scells l0)) (hn1 : n1 ≤ 9223372036854775807) (hl1 : l1.length = n1) (hw1 : wfL l1) (h1 : Lies w 0 w.heap.size A1 (scells l1)) (w2 : (Lit.int .i64 a2).wf = true) (w3 : (Lit.int .i64 a3).wf = true) (z0 z1 : Addr) (hs : Sent w z0 z1) :
    Calls Tryd.prog 5 #[.slice A0 n0 c0, .slice A1 n1 c1, .int .i64 a2, .int .i64 a3] w fun e w' => e = .returned (.bool true) ∧ Below w.heap.size w w' := by
  have HA0 := Lib.hid (show ∀ W, Below w.heap.size w W → Lies W 0 W.heap.size A0 (scells l0) from fun W hb => (h0.below hb (Nat.le_refl _)).wide (Nat.le_refl _) hb.size)
  have HL0 := Lib.hid hl0
  have HW0 := Lib.hid hw0
  clear hl0 hw0 h0
  have HA1 := Lib.hid (show ∀ W, Below w.heap.size w W → Lies W 0 W.heap.size A1 (scells l1) from fun W hb => (h1.below hb (Nat.le_refl _)).wide (Nat.le_refl _) hb.size)
  have HL1 := Lib.hid hl1
  have HW1 := Lib.hid hw1
  clear hl1 hw1 h1
  have HW2 := Lib.hid w2
  clear w2
  have HW3 := Lib.hid w3
  clear w3
  have HSN := Lib.hid (show ∀ W, Below w.heap.size w W → Sent W z0 z1 from fun W hb => hs.below hb)
  clear hs
  by_cases hbig0 : (1048576 : Int) < (n0 : Int)
  · go_enter Tryd.func5, Tryd.ntmps5
    go_wp2_with fail
    refine (szSlotS_no A0 n0 c0 (1048576 : Int) _ (by omega) (by omega) hn0 hbig0).mono ?_
    rintro e w' ⟨rfl, rfl⟩
    go_wp2_with fail
    go_ret
    exact ⟨rfl, (Below.refl _ _)⟩
  have hm0 : n0 ≤ 1048576 := by omega
  have hle0 : (n0 : Int) ≤ (1048576 : Int) := by omega
  have hz0 : ¬ ((1048576 : Int) - (n0 : Int) < 0) := by omega
  by_cases hbig1 : ((1048576 : Int) - (n0 : Int)) < (n1 : Int)
  · go_enter Tryd.func5, Tryd.ntmps5
    go_wp2_with fail
    refine (szSlotS_yes A0 n0 c0 (1048576 : Int) _ (by omega) hle0).mono ?_
    rintro e w' ⟨rfl, rfl⟩
    go_wp2_with fail
    refine (szSlotS_no A1 n1 c1 ((1048576 : Int) - (n0 : Int)) _ (by omega) (by omega) hn1 hbig1).mono ?_
    rintro e w' ⟨rfl, rfl⟩
    go_wp2_with fail
    go_ret
    exact ⟨rfl, (Below.refl _ _)⟩
  have hm1 : n1 ≤ 1048576 := by omega
  have hle1 : (n1 : Int) ≤ ((1048576 : Int) - (n0 : Int)) := by omega
  have hz1 : ¬ (((1048576 : Int) - (n0 : Int)) - (n1 : Int) < 0) := by omega
  have hK1 := fun (A B : Option Addr) (n m c d : Nat) (V : World) (hn : n ≤ 1048576) (hm : m ≤ 1048576) (hl : l0.length = n) (ho : l1.length = m) (h1 : Lies V 0 V.heap.size A (scells l0)) (h2 : Lies V 0 V.heap.size B (scells l1)) => spec_walk A B n m c d a2 a3 l0 l1 V hn hm hl ho h1 h2
  have hK2 := fun (A B : Option Addr) (n m c d : Nat) (V : World) (hn : n ≤ 1048576) (hm : m ≤ 1048576) (hl : l0.length = n) (ho : l1.length = m) (h1 : Lies V 0 V.heap.size A (scells l0)) (h2 : Lies V 0 V.heap.size B (scells l1)) (hs : Sent V z0 z1) => impl_walk A B n m c d a2 a3 l0 l1 V z0 z1 hn hm hl ho HW0.out HW1.out HW3.out h1 h2 hs
  unfold WalkPost at hK2
  generalize walkW l0 l1 a2 a3 = v at hK1 hK2
  obtain ⟨x, y⟩ := v
  have HK1 := Lib.hid hK1
  have HK2 := Lib.hid hK2
  clear hK1 hK2
  go_enter Tryd.func5, Tryd.ntmps5
  go_wp2_with fail
  refine (szSlotS_yes A0 n0 c0 (1048576 : Int) _ (by omega) hle0).mono ?_
  rintro e w' ⟨rfl, rfl⟩
  go_wp2_with fail
  refine (szSlotS_yes A1 n1 c1 ((1048576 : Int) - (n0 : Int)) _ (by omega) hle1).mono ?_
  rintro e w' ⟨rfl, rfl⟩
  go_wp2_with fail
  refine (toSlotS_any A0 n0 c0 0 l0 _ hm0 HL0.out (HA0.out _ (Below.refl _ _))).mono ?_
  rintro e w1 ⟨ad1, d1, rfl, hc1, ho1, hb1⟩
  have hB1 := btr (Below.refl _ _) hb1
  have hS1 := hb1.size
  have hOa_1 := Lib.hid ho1
  clear hc1 ho1 hb1
  go_wp2_with fail
  refine (toSlotS_any A1 n1 c1 0 l1 _ hm1 HL1.out (HA1.out _ hB1)).mono ?_
  rintro e w2 ⟨ad2, d2, rfl, hc2, ho2, hb2⟩
  have hB2 := btr hB1 hb2
  have hS2 := hb2.size
  have hOa_2 := Lib.hid (hOa_1.out.below hb2 (by omega))
  have hOb_2 := Lib.hid ho2
  clear hOa_1 hc2 ho2 hb2
  go_wp2_with fail
  refine (HK1.out _ _ _ _ _ _ _ hm0 hm1 HL0.out HL1.out (hOa_2.out.1.wide (Nat.zero_le _) (by omega)) (hOb_2.out.1.wide (Nat.zero_le _) (by omega))).mono ?_
  rintro e w3 ⟨rfl, hb3⟩
  have hB3 := btr hB2 hb3
  have hS3 := hb3.size
  have hOa_3 := Lib.hid (hOa_2.out.below hb3 (by omega))
  have hOb_3 := Lib.hid (hOb_2.out.below hb3 (by omega))
  clear hOa_2 hOb_2 hb3
  clear hOa_3
  clear hOb_3
  go_wp2_with fail
  refine (toSlotS_any A0 n0 c0 0 l0 _ hm0 HL0.out (HA0.out _ hB3)).mono ?_
  rintro e w4 ⟨ad4, d4, rfl, hc4, ho4, hb4⟩
  have hB4 := btr hB3 hb4
  have hS4 := hb4.size
  have hOx_4 := Lib.hid ho4
  clear hc4 ho4 hb4
  go_wp2_with fail
  refine (toSlotS_any A1 n1 c1 0 l1 _ hm1 HL1.out (HA1.out _ hB4)).mono ?_
  rintro e w5 ⟨ad5, d5, rfl, hc5, ho5, hb5⟩
  have hB5 := btr hB4 hb5
  have hS5 := hb5.size
  have hOx_5 := Lib.hid (hOx_4.out.below hb5 (by omega))
  have hOi_5 := Lib.hid ho5
  clear hOx_4 hc5 ho5 hb5
  go_wp2_with fail
  refine (HK2.out _ _ _ _ _ _ _ hm0 hm1 HL0.out HL1.out (hOx_5.out.1.wide (Nat.zero_le _) (by omega)) (hOi_5.out.1.wide (Nat.zero_le _) (by omega)) (HSN.out _ hB5)).mono ?_
  rintro e w6 ⟨rfl, hb6⟩
  have hB6 := btr hB5 hb6
  have hS6 := hb6.size
  have hOx_6 := Lib.hid (hOx_5.out.below hb6 (by omega))
  have hOi_6 := Lib.hid (hOi_5.out.below hb6 (by omega))
  clear hOx_5 hOi_5 hb6
  go_wp2_with fail
  refine (toSlotS_any A0 n0 c0 0 l0 _ hm0 HL0.out (HA0.out _ hB6)).mono ?_
  rintro e w7 ⟨ad7, d7, rfl, hc7, ho7, hb7⟩
  have hB7 := btr hB6 hb7
  have hS7 := hb7.size
  have hOx_7 := Lib.hid (hOx_6.out.below hb7 (by omega))
  have hOi_7 := Lib.hid (hOi_6.out.below hb7 (by omega))
  have hOy_7 := Lib.hid ho7
  clear hOx_6 hOi_6 hc7 ho7 hb7
  go_wp2_with fail
  refine (eqSlotS_same (some ad4) (some ad7) n0 d4 d7 _ _ _ _ l0 _ hm0 HL0.out (by omega) (by omega) hOx_7.out.1 hOy_7.out.1).mono ?_
  rintro e w8 ⟨rfl, hb8⟩
  have hB8 := btr hB7 hb8
  have hS8 := hb8.size
  have hOx_8 := Lib.hid (hOx_7.out.below hb8 (by omega))
  have hOi_8 := Lib.hid (hOi_7.out.below hb8 (by omega))
  have hOy_8 := Lib.hid (hOy_7.out.below hb8 (by omega))
  clear hOx_7 hOi_7 hOy_7 hb8
  clear hOx_8
  clear hOy_8
  go_wp2_with fail
  refine (toSlotS_any A1 n1 c1 0 l1 _ hm1 HL1.out (HA1.out _ hB8)).mono ?_
  rintro e w9 ⟨ad9, d9, rfl, hc9, ho9, hb9⟩
  have hB9 := btr hB8 hb9
  have hS9 := hb9.size
  have hOi_9 := Lib.hid (hOi_8.out.below hb9 (by omega))
  have hOj_9 := Lib.hid ho9
  clear hOi_8 hc9 ho9 hb9
  go_wp2_with fail
  refine (eqSlotS_same (some ad5) (some ad9) n1 d5 d9 _ _ _ _ l1 _ hm1 HL1.out (by omega) (by omega) hOi_9.out.1 hOj_9.out.1).mono ?_
  rintro e w10 ⟨rfl, hb10⟩
  have hB10 := btr hB9 hb10
  have hS10 := hb10.size
  have hOi_10 := Lib.hid (hOi_9.out.below hb10 (by omega))
  have hOj_10 := Lib.hid (hOj_9.out.below hb10 (by omega))
  clear hOi_9 hOj_9 hb10
  go_wp2_with fail
  go_ret
  exact ⟨rfl, hB10⟩

/-! ### The row's step, and the card -/
theorem contract (H : Type) (enc : TypeId × Value → H) (W : World) (base : Nat) (args : Array Value) (ds gs : List (DataW H)) (before : List MemPlace)
    (hval : ∀ (j : Nat) t v, Tryd.f5.params[j]? = some t → args[j]? = some v → Value.okWide Tryd.prog W .any base t v)
    (hW : DataW.Whole enc Tryd.prog Tryd.f5.params.toList Rows.fnExactWalkSpec.vars false W args.toList ds gs before) (hL : laidMetH Tryd.prog Rows.fnExactWalkRow.laid W) :
    Calls Tryd.prog 5 args W fun e W' => ∃ v, e = .returned v ∧ Rows.fnExactWalkSpec.post enc Tryd.prog Tryd.f5 false true false false W args v W' := by
  obtain ⟨z0, z1, hs, hv0, hv1⟩ := LaidW.both hL
  have hW' := hW
  obtain ⟨p, q, hA0, hV0, rfl, hfz, hnd⟩ := hW
  have hA : DataW.TrodAll enc Tryd.prog W 0 (fun _ => true) true Tryd.f5.params.toList args.toList ds p := hA0
  have hA1 := hA
  obtain ⟨rfl, rfl⟩ := DataW.TrodVars.unique hV0 (LaidW.read2 enc hv0 hv1 _)
  rw [Tryd.params5] at hA hval
  obtain ⟨v0, vs0, d0, ds0, p0, q0, hargs, rfl, rfl, h0, r0⟩ := trodAll_cons hA
  obtain ⟨v1, vs1, d1, ds1, p1, q1, rfl, rfl, rfl, h1, r1⟩ := trodAll_cons r0
  obtain ⟨v2, vs2, d2, ds2, p2, q2, rfl, rfl, rfl, h2, r2⟩ := trodAll_cons r1
  obtain ⟨v3, vs3, d3, ds3, p3, q3, rfl, rfl, rfl, h3, r3⟩ := trodAll_cons r2
  obtain ⟨rfl, rfl, rfl⟩ := trodAll_nil r3
  obtain rfl : args = #[v0, v1, v2, v3] := by cases args; simp_all
  obtain ⟨A0, n0, c0, l0, rfl, hn0, hl0, hw0, h0'⟩ := Slots.open_slots (hval 0 45 v0 rfl rfl) h0
  obtain ⟨A1, n1, c1, l1, rfl, hn1, hl1, hw1, h1'⟩ := Slots.open_slots (hval 1 45 v1 rfl rfl) h1
  obtain ⟨a2, rfl, _, _, w2⟩ := open_int Tryd.underlying3 (hval 2 3 v2 rfl rfl) h2
  obtain ⟨a3, rfl, _, _, w3⟩ := open_int Tryd.underlying3 (hval 3 3 v3 rfl rfl) h3
  clear hA0 hV0
  refine (walk A0 n0 c0 l0 A1 n1 c1 l1 a2 a3 hn0 hl0 hw0 h0' hn1 hl1 hw1 h1' w2 w3 z0 z1 hs).mono fun e W' ⟨he, hg⟩ => ?_
  subst he
  exact ⟨_, rfl, LaidW.post_vars Slots.laid (by kernel_rfl) rfl rfl hW' hA1 hg (fun sp => LaidW.read2 enc (LaidW.var_below hv0 hg) (LaidW.var_below hv1 hg) sp) (fun _ _ _ => (trodAll_cons_mk (shut_bool Tryd.underlying4 _) trodAll_mk0)) (ok_one (by kernel_rfl) rfl (okWide_bool_mk Tryd.underlying4 _))⟩

theorem laid_met (os : Os) : laidMet Tryd.prog Rows.fnExactWalkRow.laid ((World.laidAll Tryd.prog os Rows.fnExactWalkRow.laid).forCall (fun _ _ => 0) ⟨#[], #[.slice none 0 0, .slice none 0 0, .int .i64 0, .int .i64 0], []⟩).memory :=
  laidMet_laidAll _ (by kernel_rfl) (by kernel_rfl)

set_option maxRecDepth 100000 in
theorem lifted (os : Os) (started : os.Started) (H : Type) (enc : TypeId × Value → H) (F : Stop.Interp) :
    ReturnsInHanded {} Tryd.checked os 5 .any ((OpenSpec.ofChange Rows.fnExactWalkSpec).preRow enc Tryd.prog Tryd.f5 Rows.fnExactWalkRow.domain false Rows.fnExactWalkRow.laid) (((OpenSpec.ofChange Rows.fnExactWalkSpec).at F).post enc Tryd.prog Tryd.f5 false true false false) := by
  refine returnsInHanded_of_row (C := Tryd.checked) (s := OpenSpec.ofChange Rows.fnExactWalkSpec) Base.own started (by kernel_rfl) Tryd.func5
    (witness_row_atRef (enc := enc) (C := Tryd.checked) false (World.laidAll Tryd.prog os Rows.fnExactWalkRow.laid) #[.slice none 0 0, .slice none 0 0, .int .i64 0, .int .i64 0] (World.laidAll_os _ _ _) (by kernel_rfl) (by kernel_rfl) (by kernel_rfl)
      (OpenSpec.preRow_of_B rfl 8 (by kernel_rfl) (by kernel_rfl) (laid_met os))) ?_
  intro W base args ds gs before hval hW _ _ _ hL _ _
  exact contract H enc W base args ds gs before hval hW hL

theorem said : Rows.FnExactWalkSaid :=
  OpenClaim.holds_of_cond 5 Tryd.f5 rfl rfl rfl rfl rfl rfl rfl ⟨rfl, rfl, rfl, rfl, rfl⟩ rfl rfl rfl rfl rfl (by kernel_rfl) Tryd.func5 (by kernel_rfl)
    (of_decide_eq_true (by kernel_rfl)) (by unfold Func.isWrapper; first | (rw [if_pos (by decide +kernel)]; kernel_rfl) | (rw [if_neg (by decide +kernel)]; exact ⟨rfl, rfl⟩))
    (fun os started H enc _ F => by rw [OpenClaim.pre_eq_preRow]; exact lifted os started H enc F)

theorem plain (f : FuncId) (fn : Func) (hf : Tryd.pinned.checked.prog.funcNamed "loop.example/g00975/laws.FnExactWalk" = some f) (hfn : Tryd.pinned.checked.prog.funcs[f]? = some fn) :
    true = Tryd.pinned.checked.prog.looks [] ∧ ∀ (j : Nat) t, fn.params[j]? = some t → Tryd.pinned.checked.prog.wantsStandIn t = false := by
  obtain rfl : f = 5 := Option.some.inj ((show Tryd.prog.funcNamed "loop.example/g00975/laws.FnExactWalk" = some 5 by kernel_rfl).symm.trans hf) |>.symm
  obtain rfl : fn = Tryd.f5 := (Option.some.inj (Tryd.func5.symm.trans hfn)).symm
  refine ⟨by kernel_rfl, fun j t ht => ?_⟩
  have hall : Tryd.f5.params.toList.all (fun t => !Tryd.prog.wantsStandIn t) = true := by kernel_rfl
  have hm := List.all_eq_true.1 hall t (by simpa using Array.mem_of_getElem? ht)
  exact (show Tryd.prog.wantsStandIn t = false by simpa using hm)

/-- The given statement: the card. -/
theorem proved : Rows.FnExactWalkCardSaid :=
  Claim7.holds_tied_plain_at .later [] _ _ _ _ said (fun _ h => by cases h) (by kernel_rfl) (fun _ h => by cases h) fnExactWalk_row_tie rfl ⟨rfl, rfl⟩ (by kernel_rfl) rfl plain (by kernel_rfl)
#print axioms proved
end Go.Proofs.YtilgkknmldlklaaDoor.fnExactWalk
