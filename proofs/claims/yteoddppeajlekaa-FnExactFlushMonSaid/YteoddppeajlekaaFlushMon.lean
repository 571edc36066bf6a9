/-
  At every argument the law FnExactFlushMon returns true: the project's FlushMon answers as the given model's FlushMon, changes no argument, and what it returns is its own. No condition.
-/
import Derived.Test.YteoddppeajlekaaTagImpl
import Derived.Test.YteoddppeajlekaaTagFlush
import Derived.Test.YteoddppeajlekaaOrdT
namespace Go.Proofs.Yteoddppeajlekaa.fnExactFlushMon
set_option maxRecDepth 100000
open Go.ChangeShapes Go.WideShapes Go.ChangeAt Go.RowKit
open Go.Proofs.Yteoddppeajlekaa.Base Go.Proofs.Yteoddppeajlekaa.Mem Go.Proofs.Yteoddppeajlekaa.Slots Go.Proofs.Yteoddppeajlekaa.Ints Go.Proofs.Yteoddppeajlekaa.Ents Go.Proofs.Yteoddppeajlekaa.Tags
set_option linter.unusedVariables false
set_option linter.unusedSimpArgs false

set_option maxRecDepth 100000 in
set_option maxHeartbeats 8000000 in
theorem walk (A0 : Option Addr) (n0 c0 : Nat) (l0 : List ET) (a1 : Int) {w : World} (hn0 : n0 ≤ 9223372036854775807) (hl0 : l0.length = n0) (hw0 : wfEL l0) (h0 : Lies w 0 w.heap.size A0 (ecells l0)) (w1 : (Lit.int .i64 a1).wf = true) :
    Calls Try.prog 9 #[.slice A0 n0 c0, .int .i64 a1] w fun e w' => e = .returned (.bool true) ∧ Below w.heap.size w w' := by
  have HA0 := Lib.hid (show ∀ W, Below w.heap.size w W → Lies W 0 W.heap.size A0 (ecells l0) from fun W hb => (h0.below hb (Nat.le_refl _)).wide (Nat.le_refl _) hb.size)
  have HL0 := Lib.hid hl0
  have HW0 := Lib.hid hw0
  clear hl0 hw0 h0
  have HW1 := Lib.hid w1
  clear w1
  by_cases hbig0 : (1048576 : Int) < (n0 : Int)
  · go_enter Try.func9, Try.ntmps9
    go_wp2_with fail
    refine (szEntryS_no A0 n0 c0 (1048576 : Int) _ (by omega) (by omega) hn0 hbig0).mono ?_
    rintro e w' ⟨rfl, rfl⟩
    go_wp2_with fail
    go_ret
    exact ⟨rfl, (Below.refl _ _)⟩
  have hm0 : n0 ≤ 1048576 := by omega
  have hle0 : (n0 : Int) ≤ (1048576 : Int) := by omega
  have hz0 : ¬ ((1048576 : Int) - (n0 : Int) < 0) := by omega
  have hK1 := fun (A : Option Addr) (c : Nat) (V : World) (h : Lies V 0 V.heap.size A (ecells l0)) => spec_flushM A n0 c 0 a1 l0 V hm0 HL0.out h
  have hK2 := fun (A : Option Addr) (c : Nat) (V : World) (h : Lies V 0 V.heap.size A (ecells l0)) => impl_flushM A n0 c a1 l0 V hm0 HL0.out h HW0.out HW1.out
  have hu := flushM_le l0 a1
  generalize flushM l0 a1 = u at hK1 hK2 hu
  have HK1 := Lib.hid hK1
  have HK2 := Lib.hid hK2
  clear hK1 hK2
  obtain ⟨N, hN⟩ : ∃ N, u.length = N := ⟨_, rfl⟩
  have HU := Lib.hid hN
  have hmN : N ≤ 1048576 := by have := HL0.out; omega
  clear hN hu
  obtain ⟨q1, hq1⟩ : ∃ q : Nat, q = 1 + 4 * n0 := ⟨_, rfl⟩
  have Hq1 := Lib.hid (show ((1 : Nat) : Int) + 4 * (n0 : Int) = (q1 : Int) by omega)
  have hpq1 : ¬ ((q1 : Int) < 0) := by omega
  obtain ⟨q2, hq2⟩ : ∃ q : Nat, q = 1 + 4 * N := ⟨_, rfl⟩
  have Hq2 := Lib.hid (show ((1 : Nat) : Int) + 4 * (N : Int) = (q2 : Int) by omega)
  have hpq2 : ¬ ((q2 : Int) < 0) := by omega
  go_enter Try.func9, Try.ntmps9
  go_wp2_with fail
  refine (szEntryS_yes A0 n0 c0 (1048576 : Int) _ (by omega) hle0).mono ?_
  rintro e w' ⟨rfl, rfl⟩
  go_wp2_with fail
  refine (toEntryS_any A0 n0 c0 0 l0 _ hm0 HL0.out (HA0.out _ (Below.refl _ _))).mono ?_
  rintro e w1 ⟨ad1, d1, rfl, hc1, ho1, hb1⟩
  have hB1 := btr (Below.refl _ _) hb1
  have hS1 := hb1.size
  have hOtmp_1 := Lib.hid ho1
  clear hc1 ho1 hb1
  go_wp2_with fail
  refine (HK1.out _ _ _ (hOtmp_1.out.1.wide (Nat.zero_le _) (by omega))).mono ?_
  rintro e w2 ⟨A2', n2', c2', rfl, hl2, ho2, hb2⟩
  have he2 := HU.out.symm.trans hl2
  subst he2
  have hB2 := btr hB1 hb2
  have hS2 := hb2.size
  have hOtmp_2 := Lib.hid (hOtmp_1.out.below hb2 (by omega))
  have hOw0_2 := Lib.hid ho2
  clear hOtmp_1 hl2 ho2 hb2
  clear hOtmp_2
  go_wp2_with fail
  refine (toEntryS_any A0 n0 c0 0 l0 _ hm0 HL0.out (HA0.out _ hB2)).mono ?_
  rintro e w3 ⟨ad3, d3, rfl, hc3, ho3, hb3⟩
  have hB3 := btr hB2 hb3
  have hS3 := hb3.size
  have hOw0_3 := Lib.hid (hOw0_2.out.below hb3 (by omega))
  have hOx_3 := Lib.hid ho3
  clear hOw0_2 hc3 ho3 hb3
  go_wp2_with fail
  refine (HK2.out _ _ _ (hOx_3.out.1.wide (Nat.zero_le _) (by omega))).mono ?_
  rintro e w4 ⟨A4', n4', c4', rfl, hl4, ho4, hb4⟩
  have he4 := HU.out.symm.trans hl4
  subst he4
  have hB4 := btr hB3 hb4
  have hS4 := hb4.size
  have hOw0_4 := Lib.hid (hOw0_3.out.below hb4 (by omega))
  have hOx_4 := Lib.hid (hOx_3.out.below hb4 (by omega))
  have hOg0_4 := Lib.hid ho4
  clear hOw0_3 hOx_3 hl4 ho4 hb4
  go_wp2_with fail
  refine (eqEntryS_same A4' A2' N c4' c2' _ _ _ _ u _ hmN HU.out (by omega) (by omega) hOg0_4.out.1 hOw0_4.out.1).mono ?_
  rintro e w5 ⟨rfl, hb5⟩
  have hB5 := btr hB4 hb5
  have hS5 := hb5.size
  have hOw0_5 := Lib.hid (hOw0_4.out.below hb5 (by omega))
  have hOx_5 := Lib.hid (hOx_4.out.below hb5 (by omega))
  have hOg0_5 := Lib.hid (hOg0_4.out.below hb5 (by omega))
  clear hOw0_4 hOx_4 hOg0_4 hb5
  go_wp2_with fail
  refine (toEntryS_any A0 n0 c0 0 l0 _ hm0 HL0.out (HA0.out _ hB5)).mono ?_
  rintro e w6 ⟨ad6, d6, rfl, hc6, ho6, hb6⟩
  have hB6 := btr hB5 hb6
  have hS6 := hb6.size
  have hOw0_6 := Lib.hid (hOw0_5.out.below hb6 (by omega))
  have hOx_6 := Lib.hid (hOx_5.out.below hb6 (by omega))
  have hOg0_6 := Lib.hid (hOg0_5.out.below hb6 (by omega))
  have hOy_6 := Lib.hid ho6
  clear hOw0_5 hOx_5 hOg0_5 hc6 ho6 hb6
  go_wp2_with fail
  refine (eqEntryS_same (some ad3) (some ad6) n0 d3 d6 _ _ _ _ l0 _ hm0 HL0.out (by omega) (by omega) hOx_6.out.1 hOy_6.out.1).mono ?_
  rintro e w7 ⟨rfl, hb7⟩
  have hB7 := btr hB6 hb7
  have hS7 := hb7.size
  have hOw0_7 := Lib.hid (hOw0_6.out.below hb7 (by omega))
  have hOx_7 := Lib.hid (hOx_6.out.below hb7 (by omega))
  have hOg0_7 := Lib.hid (hOg0_6.out.below hb7 (by omega))
  have hOy_7 := Lib.hid (hOy_6.out.below hb7 (by omega))
  clear hOw0_6 hOx_6 hOg0_6 hOy_6 hb7
  clear hOy_7
  go_wp2_with fail
  refine (markEntryS_any (some ad3) n0 d3 _ _ 1 l0 _ hm0 (by omega) HL0.out hOx_7.out).mono ?_
  rintro e w8 ⟨he, ho8, ht8⟩
  rw [Hq1.out] at he
  subst he
  have hB8 := hB7.trans (ht8.below (B := w.heap.size) (by omega) hB7.size)
  have hS8 := ht8.size
  have hOw0_8 := Lib.hid (hOw0_7.out.turned ht8.block (by omega) (by omega))
  have hOg0_8 := Lib.hid (hOg0_7.out.turned ht8.block (by omega) (by omega))
  have hOx_8 := Lib.hid ho8
  clear hOw0_7 hOg0_7 hOx_7 ho8 ht8
  go_wp2_with fail
  refine (eqEntryS_same A4' A2' N c4' c2' _ _ _ _ u _ hmN HU.out (by omega) (by omega) hOg0_8.out.1 hOw0_8.out.1).mono ?_
  rintro e w9 ⟨rfl, hb9⟩
  have hB9 := btr hB8 hb9
  have hS9 := hb9.size
  have hOw0_9 := Lib.hid (hOw0_8.out.below hb9 (by omega))
  have hOg0_9 := Lib.hid (hOg0_8.out.below hb9 (by omega))
  have hOx_9 := Lib.hid (hOx_8.out.below hb9 (by omega))
  clear hOw0_8 hOg0_8 hOx_8 hb9
  go_wp2_with fail
  refine (markEntryS_any A4' N c4' _ _ 1 u _ hmN (by omega) HU.out hOg0_9.out).mono ?_
  rintro e w10 ⟨he, ho10, ht10⟩
  rw [Hq2.out] at he
  subst he
  have hB10 := hB9.trans (ht10.below (B := w.heap.size) (by omega) hB9.size)
  have hS10 := ht10.size
  have hOw0_10 := Lib.hid (hOw0_9.out.turned ht10.block (by omega) (by omega))
  have hOx_10 := Lib.hid (hOx_9.out.turned ht10.block (by omega) (by omega))
  have hOg0_10 := Lib.hid ho10
  clear hOw0_9 hOx_9 hOg0_9 ho10 ht10
  go_wp2_with fail
  refine (heldEntryS_any A4' N c4' _ _ 1 _ hmN (by omega) hOg0_10.out.1).mono ?_
  rintro e w' ⟨he, rfl⟩
  rw [Hq2.out] at he
  subst he
  go_wp2_with fail
  refine (toEntryS_any A0 n0 c0 0 l0 _ hm0 HL0.out (HA0.out _ hB10)).mono ?_
  rintro e w12 ⟨ad12, d12, rfl, hc12, ho12, hb12⟩
  have hB12 := btr hB10 hb12
  have hS12 := hb12.size
  have hOw0_12 := Lib.hid (hOw0_10.out.below hb12 (by omega))
  have hOx_12 := Lib.hid (hOx_10.out.below hb12 (by omega))
  have hOg0_12 := Lib.hid (hOg0_10.out.below hb12 (by omega))
  have hOtmp_12 := Lib.hid ho12
  clear hOw0_10 hOx_10 hOg0_10 hc12 ho12 hb12
  go_wp2_with fail
  refine (HK2.out _ _ _ (hOtmp_12.out.1.wide (Nat.zero_le _) (by omega))).mono ?_
  rintro e w13 ⟨A13', n13', c13', rfl, hl13, ho13, hb13⟩
  have he13 := HU.out.symm.trans hl13
  subst he13
  have hB13 := btr hB12 hb13
  have hS13 := hb13.size
  have hOw0_13 := Lib.hid (hOw0_12.out.below hb13 (by omega))
  have hOx_13 := Lib.hid (hOx_12.out.below hb13 (by omega))
  have hOg0_13 := Lib.hid (hOg0_12.out.below hb13 (by omega))
  have hOtmp_13 := Lib.hid (hOtmp_12.out.below hb13 (by omega))
  have hOh0_13 := Lib.hid ho13
  clear hOw0_12 hOx_12 hOg0_12 hOtmp_12 hl13 ho13 hb13
  clear hOtmp_13
  go_wp2_with fail
  refine (eqEntryS_same A13' A2' N c13' c2' _ _ _ _ u _ hmN HU.out (by omega) (by omega) hOh0_13.out.1 hOw0_13.out.1).mono ?_
  rintro e w14 ⟨rfl, hb14⟩
  have hB14 := btr hB13 hb14
  have hS14 := hb14.size
  have hOw0_14 := Lib.hid (hOw0_13.out.below hb14 (by omega))
  have hOx_14 := Lib.hid (hOx_13.out.below hb14 (by omega))
  have hOg0_14 := Lib.hid (hOg0_13.out.below hb14 (by omega))
  have hOh0_14 := Lib.hid (hOh0_13.out.below hb14 (by omega))
  clear hOw0_13 hOx_13 hOg0_13 hOh0_13 hb14
  go_wp2_with fail
  refine (heldEntryS_any A4' N c4' _ _ 1 _ hmN (by omega) hOg0_14.out.1).mono ?_
  rintro e w' ⟨he, rfl⟩
  rw [Hq2.out] at he
  subst he
  go_wp2_with fail
  go_ret
  exact ⟨rfl, hB14⟩

/-! ### The row's step -/
set_option maxRecDepth 100000 in
theorem lifted (os : Os) (started : os.Started) (H : Type) (enc : TypeId × Value → H) :
    ReturnsInHanded {} Try.checked os 9 .any (Rows.fnExactFlushMonSpec.pre6 enc Try.prog Try.f9 Rows.fnExactFlushMonRow.domain false) (Rows.fnExactFlushMonSpec.post enc Try.prog Try.f9 false true false false) := by
  refine returnsInHanded_of_change (C := Try.checked) Base.own started (by kernel_rfl) Try.func9
    (ChangeSpec.witness6 (enc := enc) (C := Try.checked) false ⟨#[], #[.slice none 0 0, .int .i64 0], []⟩ 8 (by kernel_rfl) (by kernel_rfl) (by kernel_rfl) (by kernel_rfl)) ?_
  intro W base args ds gs before hval0 hW hcnd _
  have hval : ∀ (j : Nat) t v, Try.f9.params[j]? = some t → args[j]? = some v → Value.okWide Try.prog W .any base t v := hval0
  have hW' := hW
  obtain ⟨p, q, hA0, hV, rfl, hfz, hnd⟩ := hW
  have hA : DataW.TrodAll enc Try.prog W 0 (fun _ => true) true Try.f9.params.toList args.toList ds p := hA0
  have hA1 := hA
  rw [Try.params9] at hA hval
  obtain ⟨v0, vs0, d0, ds0, p0, q0, hargs, rfl, rfl, h0, r0⟩ := trodAll_cons hA
  obtain ⟨v1, vs1, d1, ds1, p1, q1, rfl, rfl, rfl, h1, r1⟩ := trodAll_cons r0
  obtain ⟨rfl, rfl, rfl⟩ := trodAll_nil r1
  obtain rfl : args = #[v0, v1] := by cases args; simp_all
  obtain ⟨rfl, rfl⟩ := trodVars_none hV
  obtain ⟨A0, n0, c0, l0, rfl, hn0, hl0, hw0, h0'⟩ := Ents.open_entries (hval 0 42 v0 rfl rfl) h0
  obtain ⟨a1, rfl, _, _, w1⟩ := open_int Try.underlying3 (hval 1 3 v1 rfl rfl) h1
  clear hA0 hval0
  rw [List.append_nil] at hW'
  refine (walk A0 n0 c0 l0 a1 hn0 hl0 hw0 h0' w1).mono fun e W' ⟨he, hg⟩ => ?_
  subst he
  exact ⟨_, rfl, Mem.post_args Slots.laid (by kernel_rfl) rfl rfl rfl hW' hA1 hg (fun _ _ _ => (trodAll_cons_mk (shut_bool Try.underlying4 _) trodAll_mk0)) (ok_one (by kernel_rfl) rfl (okWide_bool_mk Try.underlying4 _))⟩

theorem over : Rows.fnExactFlushMonRow.holds Try.pinned (OpenSpec.ofChange Rows.fnExactFlushMonSpec) :=
  OpenClaim.holds_of_wide 9 Try.f9 rfl rfl rfl rfl rfl rfl rfl ⟨rfl, rfl, rfl, rfl, rfl⟩ rfl rfl rfl rfl rfl (by kernel_rfl) Try.func9 (by kernel_rfl)
    (of_decide_eq_true (by kernel_rfl)) (by unfold Func.isWrapper; first | (rw [if_pos (by decide +kernel)]; kernel_rfl) | (rw [if_neg (by decide +kernel)]; exact ⟨rfl, rfl⟩))
    (fun os started H enc _ => lifted os started H enc)

/-- The given statement. -/
theorem proved : Rows.FnExactFlushMonSaid :=
  over
#print axioms proved
end Go.Proofs.Yteoddppeajlekaa.fnExactFlushMon
