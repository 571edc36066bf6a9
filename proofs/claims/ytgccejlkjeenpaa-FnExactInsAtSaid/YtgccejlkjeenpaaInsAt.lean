/-
  At every argument the law FnExactInsAt returns true: the project's InsAt answers as the given model's InsAt, changes no argument, and what it returns is its own. No condition.
-/
import Derived.Test.YtgccejlkjeenpaaInsImpl
import Derived.Test.YtgccejlkjeenpaaVar
import Derived.Test.YtgccejlkjeenpaaOrdT
namespace Go.Proofs.Ytgccejlkjeenpaa.fnExactInsAt
set_option maxRecDepth 100000
open Go.ChangeShapes Go.WideShapes Go.ChangeAt Go.RowKit
open Go.Proofs.Ytgccejlkjeenpaa.Base Go.Proofs.Ytgccejlkjeenpaa.Mem Go.Proofs.Ytgccejlkjeenpaa.Slots Go.Proofs.Ytgccejlkjeenpaa.Ints Go.Proofs.Ytgccejlkjeenpaa.Inss
set_option linter.unusedVariables false
set_option linter.unusedSimpArgs false

set_option maxRecDepth 100000 in
set_option maxHeartbeats 8000000 in
theorem walk (A0 : Option Addr) (n0 c0 : Nat) (l0 : List JT) (a1 : Int) {w : World} (hn0 : n0 ≤ 9223372036854775807) (hl0 : l0.length = n0) (hw0 : wfJL l0) (h0 : Lies w 0 w.heap.size A0 (jcells l0)) (w1 : (Lit.int .i64 a1).wf = true) :
    Calls Try.prog 6 #[.slice A0 n0 c0, .int .i64 a1] w fun e w' => e = .returned (.bool true) ∧ Below w.heap.size w w' := by
  have HA0 := Lib.hid (show ∀ W, Below w.heap.size w W → Lies W 0 W.heap.size A0 (jcells l0) from fun W hb => (h0.below hb (Nat.le_refl _)).wide (Nat.le_refl _) hb.size)
  have HL0 := Lib.hid hl0
  have HW0 := Lib.hid hw0
  clear hl0 hw0 h0
  have HW1 := Lib.hid w1
  clear w1
  by_cases hbig0 : (1048576 : Int) < (n0 : Int)
  · go_enter Try.func6, Try.ntmps6
    go_wp2_with fail
    refine (szInsS_no A0 n0 c0 (1048576 : Int) _ (by omega) (by omega) hn0 hbig0).mono ?_
    rintro e w' ⟨rfl, rfl⟩
    go_wp2_with fail
    go_ret
    exact ⟨rfl, (Below.refl _ _)⟩
  have hm0 : n0 ≤ 1048576 := by omega
  have hle0 : (n0 : Int) ≤ (1048576 : Int) := by omega
  have hz0 : ¬ ((1048576 : Int) - (n0 : Int) < 0) := by omega
  have hK1 := fun (A : Option Addr) (c : Nat) (V : World) (h : Lies V 0 V.heap.size A (jcells l0)) => spec_insAt A n0 c 0 a1 l0 V hm0 HL0.out h
  have hK2 := fun (A : Option Addr) (c : Nat) (V : World) (h : Lies V 0 V.heap.size A (jcells l0)) => impl_insAt A n0 c a1 l0 V hm0 HL0.out h HW0.out HW1.out
  unfold OneIns at hK1 hK2
  generalize insAt l0 a1 = z at hK1 hK2
  obtain ⟨x0, x1⟩ := z
  have HK1 := Lib.hid hK1
  have HK2 := Lib.hid hK2
  clear hK1 hK2
  go_enter Try.func6, Try.ntmps6
  go_wp2_with fail
  refine (szInsS_yes A0 n0 c0 (1048576 : Int) _ (by omega) hle0).mono ?_
  rintro e w' ⟨rfl, rfl⟩
  go_wp2_with fail
  refine (toInsS_any A0 n0 c0 0 l0 _ hm0 HL0.out (HA0.out _ (Below.refl _ _))).mono ?_
  rintro e w1 ⟨ad1, d1, rfl, hc1, ho1, hb1⟩
  have hB1 := btr (Below.refl _ _) hb1
  have hS1 := hb1.size
  have hOa_1 := Lib.hid ho1
  clear hc1 ho1 hb1
  go_wp2_with fail
  refine (HK1.out _ _ _ (hOa_1.out.1.wide (Nat.zero_le _) (by omega))).mono ?_
  rintro e w2 ⟨rfl, hb2⟩
  have hB2 := btr hB1 hb2
  have hS2 := hb2.size
  have hOa_2 := Lib.hid (hOa_1.out.below hb2 (by omega))
  clear hOa_1 hb2
  clear hOa_2
  have hb3 : Below w2.heap.size w2 (w2.alloc (.cells #[.int .i64 x0, .int .i64 x1] 29)) := (Below.refl _ _).alloc (Nat.le_refl _) _
  have hB3 := btr hB2 hb3
  have hS3 : w2.heap.size < (w2.alloc (.cells #[.int .i64 x0, .int .i64 x1] 29)).heap.size := by simp
  have hOs_3 := Lib.hid (Var.new w2 [.int .i64 x0, .int .i64 x1] 29)
  clear hb3
  go_wp2_with fail
  refine (toInsS_any A0 n0 c0 0 l0 _ hm0 HL0.out (HA0.out _ hB3)).mono ?_
  rintro e w4 ⟨ad4, d4, rfl, hc4, ho4, hb4⟩
  have hB4 := btr hB3 hb4
  have hS4 := hb4.size
  have hOs_4 := Lib.hid (hOs_3.out.below hb4 (by omega))
  have hOx_4 := Lib.hid ho4
  clear hOs_3 hc4 ho4 hb4
  go_wp2_with fail
  refine (HK2.out _ _ _ (hOx_4.out.1.wide (Nat.zero_le _) (by omega))).mono ?_
  rintro e w5 ⟨rfl, hb5⟩
  have hB5 := btr hB4 hb5
  have hS5 := hb5.size
  have hOs_5 := Lib.hid (hOs_4.out.below hb5 (by omega))
  have hOx_5 := Lib.hid (hOx_4.out.below hb5 (by omega))
  clear hOs_4 hOx_4 hb5
  have hb6 : Below w5.heap.size w5 (w5.alloc (.cells #[.int .i64 x0, .int .i64 x1] 29)) := (Below.refl _ _).alloc (Nat.le_refl _) _
  have hB6 := btr hB5 hb6
  have hS6 : w5.heap.size < (w5.alloc (.cells #[.int .i64 x0, .int .i64 x1] 29)).heap.size := by simp
  have hOs_6 := Lib.hid (hOs_5.out.below hb6 (by omega))
  have hOx_6 := Lib.hid (hOx_5.out.below hb6 (by omega))
  have hOg_6 := Lib.hid (Var.new w5 [.int .i64 x0, .int .i64 x1] 29)
  clear hOs_5 hOx_5 hb6
  have zs0 := hOs_6.out.cell 0 (v := .int .i64 x0) rfl
  have zs1 := hOs_6.out.cell 1 (v := .int .i64 x1) rfl
  have zg0 := hOg_6.out.cell 0 (v := .int .i64 x0) rfl
  have zg1 := hOg_6.out.cell 1 (v := .int .i64 x1) rfl
  go_wp2_with fail
  refine (eqIns_same x0 x1 _).mono ?_
  rintro e w7 ⟨rfl, hb7⟩
  have hB7 := btr hB6 hb7
  have hS7 := hb7.size
  have hOs_7 := Lib.hid (hOs_6.out.below hb7 (by omega))
  have hOx_7 := Lib.hid (hOx_6.out.below hb7 (by omega))
  have hOg_7 := Lib.hid (hOg_6.out.below hb7 (by omega))
  clear hOs_6 hOx_6 hOg_6 hb7
  clear zs0 zs1 zg0 zg1
  go_wp2_with fail
  refine (toInsS_any A0 n0 c0 0 l0 _ hm0 HL0.out (HA0.out _ hB7)).mono ?_
  rintro e w8 ⟨ad8, d8, rfl, hc8, ho8, hb8⟩
  have hB8 := btr hB7 hb8
  have hS8 := hb8.size
  have hOs_8 := Lib.hid (hOs_7.out.below hb8 (by omega))
  have hOx_8 := Lib.hid (hOx_7.out.below hb8 (by omega))
  have hOg_8 := Lib.hid (hOg_7.out.below hb8 (by omega))
  have hOy_8 := Lib.hid ho8
  clear hOs_7 hOx_7 hOg_7 hc8 ho8 hb8
  go_wp2_with fail
  refine (eqInsS_same (some ad4) (some ad8) n0 d4 d8 _ _ _ _ l0 _ hm0 HL0.out (by omega) (by omega) hOx_8.out.1 hOy_8.out.1).mono ?_
  rintro e w9 ⟨rfl, hb9⟩
  have hB9 := btr hB8 hb9
  have hS9 := hb9.size
  have hOs_9 := Lib.hid (hOs_8.out.below hb9 (by omega))
  have hOx_9 := Lib.hid (hOx_8.out.below hb9 (by omega))
  have hOg_9 := Lib.hid (hOg_8.out.below hb9 (by omega))
  have hOy_9 := Lib.hid (hOy_8.out.below hb9 (by omega))
  clear hOs_8 hOx_8 hOg_8 hOy_8 hb9
  go_wp2_with fail
  go_ret
  exact ⟨rfl, hB9⟩

/-! ### The row's step -/
set_option maxRecDepth 100000 in
theorem lifted (os : Os) (started : os.Started) (H : Type) (enc : TypeId × Value → H) :
    ReturnsInHanded {} Try.checked os 6 .any (Rows.fnExactInsAtSpec.pre6 enc Try.prog Try.f6 Rows.fnExactInsAtRow.domain false) (Rows.fnExactInsAtSpec.post enc Try.prog Try.f6 false true false false) := by
  refine returnsInHanded_of_change (C := Try.checked) Base.own started (by kernel_rfl) Try.func6
    (ChangeSpec.witness6 (enc := enc) (C := Try.checked) false ⟨#[], #[.slice none 0 0, .int .i64 0], []⟩ 8 (by kernel_rfl) (by kernel_rfl) (by kernel_rfl) (by kernel_rfl)) ?_
  intro W base args ds gs before hval0 hW hcnd _
  have hval : ∀ (j : Nat) t v, Try.f6.params[j]? = some t → args[j]? = some v → Value.okWide Try.prog W .any base t v := hval0
  have hW' := hW
  obtain ⟨p, q, hA0, hV, rfl, hfz, hnd⟩ := hW
  have hA : DataW.TrodAll enc Try.prog W 0 (fun _ => true) true Try.f6.params.toList args.toList ds p := hA0
  have hA1 := hA
  rw [Try.params6] at hA hval
  obtain ⟨v0, vs0, d0, ds0, p0, q0, hargs, rfl, rfl, h0, r0⟩ := trodAll_cons hA
  obtain ⟨v1, vs1, d1, ds1, p1, q1, rfl, rfl, rfl, h1, r1⟩ := trodAll_cons r0
  obtain ⟨rfl, rfl, rfl⟩ := trodAll_nil r1
  obtain rfl : args = #[v0, v1] := by cases args; simp_all
  obtain ⟨rfl, rfl⟩ := trodVars_none hV
  obtain ⟨A0, n0, c0, l0, rfl, hn0, hl0, hw0, h0'⟩ := Inss.open_insts (hval 0 34 v0 rfl rfl) h0
  obtain ⟨a1, rfl, _, _, w1⟩ := open_int Try.underlying3 (hval 1 3 v1 rfl rfl) h1
  clear hA0 hval0
  rw [List.append_nil] at hW'
  refine (walk A0 n0 c0 l0 a1 hn0 hl0 hw0 h0' w1).mono fun e W' ⟨he, hg⟩ => ?_
  subst he
  exact ⟨_, rfl, Mem.post_args Slots.laid (by kernel_rfl) rfl rfl rfl hW' hA1 hg (fun _ _ _ => (trodAll_cons_mk (shut_bool Try.underlying4 _) trodAll_mk0)) (ok_one (by kernel_rfl) rfl (okWide_bool_mk Try.underlying4 _))⟩

theorem over : Rows.fnExactInsAtRow.holds Try.pinned (OpenSpec.ofChange Rows.fnExactInsAtSpec) :=
  OpenClaim.holds_of_wide 6 Try.f6 rfl rfl rfl rfl rfl rfl rfl ⟨rfl, rfl, rfl, rfl, rfl⟩ rfl rfl rfl rfl rfl (by kernel_rfl) Try.func6 (by kernel_rfl)
    (of_decide_eq_true (by kernel_rfl)) (by unfold Func.isWrapper; first | (rw [if_pos (by decide +kernel)]; kernel_rfl) | (rw [if_neg (by decide +kernel)]; exact ⟨rfl, rfl⟩))
    (fun os started H enc _ => lifted os started H enc)

/-- The given statement. -/
theorem proved : Rows.FnExactInsAtSaid :=
  over
#print axioms proved
end Go.Proofs.Ytgccejlkjeenpaa.fnExactInsAt
