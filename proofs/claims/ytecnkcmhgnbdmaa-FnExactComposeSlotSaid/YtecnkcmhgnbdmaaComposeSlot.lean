/-
  At every argument the law FnExactComposeSlot returns true: the project's ComposeSlot answers as the given model's ComposeSlot, changes no argument, and what it returns is its own. No condition.
-/
import Derived.Test.YtecnkcmhgnbdmaaTwoSlot
import Derived.Test.YtecnkcmhgnbdmaaSlotArgs
namespace Go.Proofs.Ytecnkcmhgnbdmaa.fnExactComposeSlot
open Go.ChangeShapes Go.WideShapes Go.ChangeAt Go.RowKit
open Go.Proofs.Ytecnkcmhgnbdmaa.Base Go.Proofs.Ytecnkcmhgnbdmaa.Mem Go.Proofs.Ytecnkcmhgnbdmaa.Slots Go.Proofs.Ytecnkcmhgnbdmaa.Ints
set_option linter.unusedVariables false

set_option maxRecDepth 100000 in
set_option maxHeartbeats 4000000 in
theorem walk (a0 b0 : Int) (A1 : Option Addr) (n1 c1 : Nat) (l1 : List Sl) {w : World} (w0 : wfS (a0, b0)) (hn1 : n1 ≤ 9223372036854775807) (hl1 : l1.length = n1) (hw1 : wfL l1) (h1 : Lies w 0 w.heap.size A1 (scells l1)) :
    Calls Try.prog 6 #[.agg #[.int .i64 a0, .int .i64 b0], .slice A1 n1 c1] w fun e w' => e = .returned (.bool true) ∧ Below w.heap.size w w' := by
  have HW0 := Lib.hid w0
  clear w0
  have HA1 := Lib.hid (show ∀ W, Below w.heap.size w W → Lies W 0 W.heap.size A1 (scells l1) from fun W hb => (h1.below hb (Nat.le_refl _)).wide (Nat.le_refl _) hb.size)
  have HL1 := Lib.hid hl1
  have HW1 := Lib.hid hw1
  clear hl1 hw1 h1
  by_cases hbig1 : (1048576 : Int) < (n1 : Int)
  · go_enter Try.func6, Try.ntmps6
    go_wp2_with fail
    refine (szSlotS_no A1 n1 c1 (1048576 : Int) _ (by omega) (by omega) hn1 hbig1).mono ?_
    rintro e w' ⟨rfl, rfl⟩
    go_wp2_with fail
    go_ret
    exact ⟨rfl, ((Below.refl _ _).alloc (Nat.le_refl _) _)⟩
  have hm1 : n1 ≤ 1048576 := by omega
  have hle1 : (n1 : Int) ≤ (1048576 : Int) := by omega
  have hz1 : ¬ ((1048576 : Int) - (n1 : Int) < 0) := by omega
  have hK1 := fun (A : Option Addr) (n c : Nat) (V : World) (hm : n ≤ 1048576) (hl : l1.length = n) (h : Lies V 0 V.heap.size A (scells l1)) => spec_compSlot A n c a0 b0 l1 V hm hl h
  have hK2 := fun (A : Option Addr) (n c : Nat) (V : World) (hm : n ≤ 1048576) (hl : l1.length = n) (h : Lies V 0 V.heap.size A (scells l1)) => impl_compSlot A n c a0 b0 l1 V hm hl HW0.out.2 HW1.out h
  generalize compS (a0, b0) l1 = z at hK1 hK2
  obtain ⟨x, y⟩ := z
  have HK1 := Lib.hid hK1
  have HK2 := Lib.hid hK2
  clear hK1 hK2
  go_enter Try.func6, Try.ntmps6
  have hB1 : Below w.heap.size w (w.alloc (.cells #[.int .i64 a0, .int .i64 b0] 47)) := (Below.refl _ _).alloc (Nat.le_refl _) _
  have hS1 := hB1.size
  have hOb_1 := Lib.hid (Two.new w (.int .i64 a0) (.int .i64 b0) 47)
  go_wp2_with fail
  refine (szSlotS_yes A1 n1 c1 (1048576 : Int) _ (by omega) hle1).mono ?_
  rintro e w' ⟨rfl, rfl⟩
  obtain ⟨zb0, zb1, _, _, _⟩ := hOb_1.out
  go_wp2_with fail
  refine (toSlot_any a0 b0 _).mono ?_
  rintro e w2 ⟨rfl, hb2⟩
  have hB2 := btr hB1 hb2
  have hS2 := hb2.size
  have hOb_2 := Lib.hid (hOb_1.out.below hb2 )
  clear hOb_1 hb2
  clear zb0 zb1
  go_wp2_with fail
  refine (toSlotS_any A1 n1 c1 0 l1 _ hm1 HL1.out (HA1.out _ hB2)).mono ?_
  rintro e w3 ⟨ad3, d3, rfl, hc3, ho3, hb3⟩
  have hB3 := btr hB2 hb3
  have hS3 := hb3.size
  have hOb_3 := Lib.hid (hOb_2.out.below hb3 )
  have hOo_3 := Lib.hid ho3
  clear hOb_2 hc3 ho3 hb3
  go_wp2_with fail
  refine (HK1.out _ _ _ _ hm1 HL1.out (hOo_3.out.1.wide (Nat.zero_le _) (by omega))).mono ?_
  rintro e w4 ⟨rfl, hb4⟩
  have hB4 := btr hB3 hb4
  have hS4 := hb4.size
  have hOb_4 := Lib.hid (hOb_3.out.below hb4 )
  have hOo_4 := Lib.hid (hOo_3.out.below hb4 (by omega))
  clear hOb_3 hOo_3 hb4
  clear hOo_4
  have hb5 : Below w4.heap.size w4 (w4.alloc (.cells #[.int .i64 x, .int .i64 y] 30)) := (Below.refl _ _).alloc (Nat.le_refl _) _
  have hB5 := btr hB4 hb5
  have hS5 := hb5.size
  have hOb_5 := Lib.hid (hOb_4.out.below hb5 )
  have hOs_5 := Lib.hid (Two.new w4 (.int .i64 x) (.int .i64 y) 30)
  clear hOb_4 hb5
  go_wp2_with fail
  refine (toSlotS_any A1 n1 c1 0 l1 _ hm1 HL1.out (HA1.out _ hB5)).mono ?_
  rintro e w6 ⟨ad6, d6, rfl, hc6, ho6, hb6⟩
  have hB6 := btr hB5 hb6
  have hS6 := hb6.size
  have hOb_6 := Lib.hid (hOb_5.out.below hb6 )
  have hOs_6 := Lib.hid (hOs_5.out.below hb6 )
  have hOx_6 := Lib.hid ho6
  clear hOb_5 hOs_5 hc6 ho6 hb6
  obtain ⟨zb0, zb1, _, _, _⟩ := hOb_6.out
  go_wp2_with fail
  refine (toSlot_any a0 b0 _).mono ?_
  rintro e w7 ⟨rfl, hb7⟩
  have hB7 := btr hB6 hb7
  have hS7 := hb7.size
  have hOb_7 := Lib.hid (hOb_6.out.below hb7 )
  have hOs_7 := Lib.hid (hOs_6.out.below hb7 )
  have hOx_7 := Lib.hid (hOx_6.out.below hb7 (by omega))
  clear hOb_6 hOs_6 hOx_6 hb7
  clear zb0 zb1
  go_wp2_with fail
  refine (HK2.out _ _ _ _ hm1 HL1.out (hOx_7.out.1.wide (Nat.zero_le _) (by omega))).mono ?_
  rintro e w8 ⟨rfl, hb8⟩
  have hB8 := btr hB7 hb8
  have hS8 := hb8.size
  have hOb_8 := Lib.hid (hOb_7.out.below hb8 )
  have hOs_8 := Lib.hid (hOs_7.out.below hb8 )
  have hOx_8 := Lib.hid (hOx_7.out.below hb8 (by omega))
  clear hOb_7 hOs_7 hOx_7 hb8
  have hb9 : Below w8.heap.size w8 (w8.alloc (.cells #[.int .i64 x, .int .i64 y] 30)) := (Below.refl _ _).alloc (Nat.le_refl _) _
  have hB9 := btr hB8 hb9
  have hS9 := hb9.size
  have hOb_9 := Lib.hid (hOb_8.out.below hb9 )
  have hOs_9 := Lib.hid (hOs_8.out.below hb9 )
  have hOx_9 := Lib.hid (hOx_8.out.below hb9 (by omega))
  have hOg_9 := Lib.hid (Two.new w8 (.int .i64 x) (.int .i64 y) 30)
  clear hOb_8 hOs_8 hOx_8 hb9
  obtain ⟨zs0, zs1, _, _, _⟩ := hOs_9.out
  obtain ⟨zg0, zg1, _, _, _⟩ := hOg_9.out
  go_wp2_with fail
  refine (eqSlot_same x y _).mono ?_
  rintro e w10 ⟨rfl, hb10⟩
  have hB10 := btr hB9 hb10
  have hS10 := hb10.size
  have hOb_10 := Lib.hid (hOb_9.out.below hb10 )
  have hOs_10 := Lib.hid (hOs_9.out.below hb10 )
  have hOx_10 := Lib.hid (hOx_9.out.below hb10 (by omega))
  have hOg_10 := Lib.hid (hOg_9.out.below hb10 )
  clear hOb_9 hOs_9 hOx_9 hOg_9 hb10
  clear zs0 zs1 zg0 zg1
  clear hOs_10
  clear hOg_10
  clear hOb_10
  go_wp2_with fail
  refine (toSlotS_any A1 n1 c1 0 l1 _ hm1 HL1.out (HA1.out _ hB10)).mono ?_
  rintro e w11 ⟨ad11, d11, rfl, hc11, ho11, hb11⟩
  have hB11 := btr hB10 hb11
  have hS11 := hb11.size
  have hOx_11 := Lib.hid (hOx_10.out.below hb11 (by omega))
  have hOy_11 := Lib.hid ho11
  clear hOx_10 hc11 ho11 hb11
  go_wp2_with fail
  refine (eqSlotS_same (some ad6) (some ad11) n1 d6 d11 _ _ _ _ l1 _ hm1 HL1.out (by omega) (by omega) hOx_11.out.1 hOy_11.out.1).mono ?_
  rintro e w12 ⟨rfl, hb12⟩
  have hB12 := btr hB11 hb12
  have hS12 := hb12.size
  have hOx_12 := Lib.hid (hOx_11.out.below hb12 (by omega))
  have hOy_12 := Lib.hid (hOy_11.out.below hb12 (by omega))
  clear hOx_11 hOy_11 hb12
  go_wp2_with fail
  go_ret
  exact ⟨rfl, hB12⟩

/-! ### The row's step -/
set_option maxRecDepth 100000 in
theorem lifted (os : Os) (started : os.Started) (H : Type) (enc : TypeId × Value → H) :
    ReturnsInHanded {} Try.checked os 6 .any (Rows.fnExactComposeSlotSpec.pre6 enc Try.prog Try.f6 Rows.fnExactComposeSlotRow.domain false) (Rows.fnExactComposeSlotSpec.post enc Try.prog Try.f6 false true false false) := by
  refine returnsInHanded_of_change (C := Try.checked) Base.own started (by kernel_rfl) Try.func6
    (ChangeSpec.witness6 (enc := enc) (C := Try.checked) false ⟨#[], #[.agg #[.int .i64 0, .int .i64 0], .slice none 0 0], []⟩ 8 (by kernel_rfl) (by kernel_rfl) (by kernel_rfl) (by kernel_rfl)) ?_
  intro W base args ds gs before hval0 hW hcnd _
  have hval : ∀ (j : Nat) t v, Try.f6.params[j]? = some t → args[j]? = some v → Value.okWide Try.prog W .any base t v := hval0
  have hW' := hW
  obtain ⟨p, q, hA0, hV, rfl, hfz, hnd⟩ := hW
  have hA : DataW.TrodAll enc Try.prog W 0 (fun _ => true) true Try.f6.params.toList args.toList ds p := hA0
  have hA1 := hA
  rw [Try.params6] at hA hval
  obtain ⟨v0, vs0, d0, ds0, p0, q0, hargs, rfl, rfl, h0, r0⟩ := trodAll_cons hA
  obtain ⟨v1, vs1, d1, ds1, p1, q1, rfl, rfl, rfl, h1, r1⟩ := trodAll_cons r0
  obtain ⟨rfl, rfl, rfl⟩ := trodAll_nil r1
  obtain rfl : args = #[v0, v1] := by cases args; simp_all
  obtain ⟨rfl, rfl⟩ := trodVars_none hV
  obtain ⟨a0, b0, rfl, w0⟩ := Slots.open_slot (hval 0 47 v0 rfl rfl) h0
  obtain ⟨A1, n1, c1, l1, rfl, hn1, hl1, hw1, h1'⟩ := Slots.open_slots (hval 1 48 v1 rfl rfl) h1
  clear hA0 hval0
  rw [List.append_nil] at hW'
  refine (walk a0 b0 A1 n1 c1 l1 w0 hn1 hl1 hw1 h1').mono fun e W' ⟨he, hg⟩ => ?_
  subst he
  exact ⟨_, rfl, Mem.post_args Slots.laid (by kernel_rfl) rfl rfl rfl hW' hA1 hg (fun _ _ _ => (trodAll_cons_mk (shut_bool Try.underlying4 _) trodAll_mk0)) (ok_one (by kernel_rfl) rfl (okWide_bool_mk Try.underlying4 _))⟩

theorem over : Rows.fnExactComposeSlotRow.holds Try.pinned (OpenSpec.ofChange Rows.fnExactComposeSlotSpec) :=
  OpenClaim.holds_of_wide 6 Try.f6 rfl rfl rfl rfl rfl rfl rfl ⟨rfl, rfl, rfl, rfl, rfl⟩ rfl rfl rfl rfl rfl (by kernel_rfl) Try.func6 (by kernel_rfl)
    (of_decide_eq_true (by kernel_rfl)) (by unfold Func.isWrapper; first | (rw [if_pos (by decide +kernel)]; kernel_rfl) | (rw [if_neg (by decide +kernel)]; exact ⟨rfl, rfl⟩))
    (fun os started H enc _ => lifted os started H enc)

/-- The given statement. -/
theorem proved : Rows.FnExactComposeSlotSaid :=
  over
#print axioms proved
end Go.Proofs.Ytecnkcmhgnbdmaa.fnExactComposeSlot
