/-
  At every argument the law FnExactWithPage returns true: the project's WithPage answers as the given model's WithPage, changes no argument, and what it returns is its own. No condition.
-/
import Derived.Test.YtkbcmeachfplnaaMemPutS
import Derived.Test.YtkbcmeachfplnaaGridArgs
import Derived.Test.YtkbcmeachfplnaaSizes
namespace Go.Proofs.Ytkbcmeachfplnaa.fnExactWithPage
open Go.ChangeShapes Go.WideShapes Go.ChangeAt Go.RowKit
open Go.Proofs.Ytkbcmeachfplnaa.Base Go.Proofs.Ytkbcmeachfplnaa.Mem Go.Proofs.Ytkbcmeachfplnaa.Ints Go.Proofs.Ytkbcmeachfplnaa.Grid
set_option linter.unusedVariables false

set_option maxRecDepth 100000 in
set_option maxHeartbeats 4000000 in
theorem walk (A0 : Option Addr) (n0 c0 : Nat) (M0 : List (List Int)) (gs0 : List Hd) (a1 : Int) (A2 : Option Addr) (n2 c2 : Nat) (l2 : List Int) {w : World} (hn0 : n0 ≤ 9223372036854775807) (hl0 : M0.length = n0) (hf0 : fitG M0) (h0 : RG w 0 w.heap.size A0 M0 gs0) (wf1 : (Lit.int .i64 a1).wf = true) (hn2 : n2 ≤ 9223372036854775807) (hl2 : l2.length = n2) (h2 : Lies w 0 w.heap.size A2 (ncells l2)) :
    Calls Try.prog 12 #[.slice A0 n0 c0, .int .i64 a1, .slice A2 n2 c2] w fun e w' => e = .returned (.bool true) ∧ Below w.heap.size w w' := by
  have HA0 := Lib.hid (show ∀ W, Below w.heap.size w W → RG W 0 W.heap.size A0 M0 gs0 from fun W hb => (h0.below hb (Nat.le_refl _)).wide (Nat.le_refl _) hb.size)
  have HL0 := Lib.hid hl0
  have HF0 := Lib.hid hf0
  clear hl0 hf0
  have HA2 := Lib.hid (show ∀ W, Below w.heap.size w W → Lies W 0 W.heap.size A2 (ncells l2) from fun W hb => (h2.below hb (Nat.le_refl _)).wide (Nat.le_refl _) hb.size)
  have HL2 := Lib.hid hl2
  clear hl2
  by_cases hbig2 : 1048576 < n2
  · clear h2
    go_enter Try.func12, Try.ntmps12
    go_wp2
    go_ret
    exact ⟨rfl, Below.refl _ _⟩
  have hm2 : n2 ≤ 1048576 := by omega
  clear hbig2
  by_cases hbig0 : (1048576 : Int) < (n0 : Int) + (tot M0 : Nat)
  · go_enter Try.func12, Try.ntmps12
    go_wp2_with fail
    refine (szIntSS_no A0 n0 c0 0 w.heap.size (1048576) M0 gs0 _ (by omega) (by omega) HL0.out HF0.out hn0 hbig0 h0).mono ?_
    rintro e w' ⟨rfl, rfl⟩
    go_wp2_with fail
    go_ret
    exact ⟨rfl, Below.refl _ _⟩
  have HC0 := Lib.hid (capG.of (M := M0) (by have := HL0.out; omega))
  have hz0 : ¬ ((1048576 : Int) - (n0 : Int) - (tot M0 : Nat) < 0) := by omega
  have hK1 := fun (A : Option Addr) (n c lo : Nat) (hs : List Hd) (B : Option Addr) (m d lo' : Nat) (V : World) (h : M0.length = n) (h1 : RG V lo V.heap.size A M0 hs) (hm : m ≤ 1048576) (hq : l2.length = m) (h2 : Lies V lo' V.heap.size B (ncells l2)) => spec_withP A n c lo a1 M0 hs B m d lo' l2 V HC0.out h h1 hm hq h2
  have hK2 := fun (A : Option Addr) (n c lo : Nat) (hs : List Hd) (B : Option Addr) (m d lo' : Nat) (V : World) (h : M0.length = n) (h1 : RG V lo V.heap.size A M0 hs) (hm : m ≤ 1048576) (hq : l2.length = m) (h2 : Lies V lo' V.heap.size B (ncells l2)) => impl_withP A n c lo a1 M0 hs B m d lo' l2 V HC0.out h h1 hm hq h2
  have hc := withP_cap M0 a1 l2 (by have := HL0.out; omega)
  generalize withP M0 a1 l2 = U at hK1 hK2 hc
  have HK1 := Lib.hid hK1
  have HK2 := Lib.hid hK2
  have htU := hc.all
  have HCU := Lib.hid hc
  clear hK1 hK2 hc h2
  have htM := HC0.out.all
  obtain ⟨qM, hqM⟩ : ∃ q : Nat, q = 1 + tot M0 := ⟨_, rfl⟩
  have HqM := Lib.hid hqM
  have hpqM : ¬ ((qM : Int) < 0) := by omega
  obtain ⟨qU, hqU⟩ : ∃ q : Nat, q = 1 + tot U := ⟨_, rfl⟩
  have HqU := Lib.hid hqU
  have hpqU : ¬ ((qU : Int) < 0) := by omega
  have hqk : ¬ ((qM : Int) + (n2 : Int) < 0) := by omega
  have hqb : qM ≤ 1048581 := by omega
  clear hqM hqU
  go_enter Try.func12, Try.ntmps12
  go_wp2_with fail
  refine (szIntSS_yes A0 n0 c0 0 w.heap.size (1048576) M0 gs0 _ (by omega) HL0.out HF0.out (by omega) h0).mono ?_
  rintro e w' ⟨rfl, rfl⟩
  go_wp2_with fail
  refine (toIntSS_any A0 n0 c0 0 M0 gs0 _ HC0.out HL0.out (HA0.out _ (Below.refl _ _))).mono ?_
  rintro e w1 ⟨X1, m1, d1, qs1, rfl, hx1, ho1, hb1⟩
  obtain rfl : n0 = m1 := by have := HL0.out; omega
  have hB1 := btr (Below.refl _ _) hb1
  have hS1 := hb1.size
  have hOa_1 := Lib.hid ho1
  clear hx1 ho1 hb1
  go_wp2_with fail
  refine (toIntS_any A2 n2 c2 0 l2 _ hm2 HL2.out (HA2.out _ hB1)).mono ?_
  rintro e w2 ⟨X2, m2, d2, rfl, hx2, ho2, hb2⟩
  obtain rfl : n2 = m2 := by have := HL2.out; omega
  have hB2 := btr hB1 hb2
  have hS2 := hb2.size
  have hOa_2 := Lib.hid (hOa_1.out.below hb2 (by omega))
  have hOb_2 := Lib.hid ho2
  clear hOa_1 hx2 ho2 hb2
  go_wp2_with fail
  refine (HK1.out _ _ _ _ _ _ _ _ _ _ HL0.out (hOa_2.out.rg.wide (Nat.le_refl _) (by omega)) hm2 HL2.out (hOb_2.out.1.wide (Nat.le_refl _) (by omega))).mono ?_
  rintro e w3 ⟨X3, nU, d3, qs3, rfl, hx3, ho3, hb3⟩
  have HLU := Lib.hid hx3
  have hB3 := btr hB2 hb3
  have hS3 := hb3.size
  have hOa_3 := Lib.hid (hOa_2.out.below hb3 (by omega))
  have hOb_3 := Lib.hid (hOb_2.out.below hb3 (by omega))
  have hOu_3 := Lib.hid ho3
  clear hOa_2 hOb_2 hx3 ho3 hb3
  clear hOa_3
  clear hOb_3
  go_wp2_with fail
  refine (toIntSS_any A0 n0 c0 0 M0 gs0 _ HC0.out HL0.out (HA0.out _ hB3)).mono ?_
  rintro e w4 ⟨X4, m4, d4, qs4, rfl, hx4, ho4, hb4⟩
  obtain rfl : n0 = m4 := by have := HL0.out; omega
  have hB4 := btr hB3 hb4
  have hS4 := hb4.size
  have hOu_4 := Lib.hid (hOu_3.out.below hb4 (by omega))
  have hOx_4 := Lib.hid ho4
  clear hOu_3 hx4 ho4 hb4
  go_wp2_with fail
  refine (toIntS_any A2 n2 c2 0 l2 _ hm2 HL2.out (HA2.out _ hB4)).mono ?_
  rintro e w5 ⟨X5, m5, d5, rfl, hx5, ho5, hb5⟩
  obtain rfl : n2 = m5 := by have := HL2.out; omega
  have hB5 := btr hB4 hb5
  have hS5 := hb5.size
  have hOu_5 := Lib.hid (hOu_4.out.below hb5 (by omega))
  have hOx_5 := Lib.hid (hOx_4.out.below hb5 (by omega))
  have hOi_5 := Lib.hid ho5
  clear hOu_4 hOx_4 hx5 ho5 hb5
  go_wp2_with fail
  refine (HK2.out _ _ _ _ _ _ _ _ _ _ HL0.out (hOx_5.out.rg.wide (Nat.le_refl _) (by omega)) hm2 HL2.out (hOi_5.out.1.wide (Nat.le_refl _) (by omega))).mono ?_
  rintro e w6 ⟨X6, m6, d6, qs6, rfl, hx6, ho6, hb6⟩
  obtain rfl : nU = m6 := by have := HLU.out; omega
  have hB6 := btr hB5 hb6
  have hS6 := hb6.size
  have hOu_6 := Lib.hid (hOu_5.out.below hb6 (by omega))
  have hOx_6 := Lib.hid (hOx_5.out.below hb6 (by omega))
  have hOi_6 := Lib.hid (hOi_5.out.below hb6 (by omega))
  have hOg_6 := Lib.hid ho6
  clear hOu_5 hOx_5 hOi_5 hx6 ho6 hb6
  go_wp2_with fail
  refine (eqIntSS_same X6 X3 nU d6 d3 _ _ _ _ U qs6 qs3 _ HCU.out HLU.out (by omega) (by omega) hOg_6.out.rg hOu_6.out.rg).mono ?_
  rintro e w7 ⟨rfl, hb7⟩
  have hB7 := btr hB6 hb7
  have hS7 := hb7.size
  have hOu_7 := Lib.hid (hOu_6.out.below hb7 (by omega))
  have hOx_7 := Lib.hid (hOx_6.out.below hb7 (by omega))
  have hOi_7 := Lib.hid (hOi_6.out.below hb7 (by omega))
  have hOg_7 := Lib.hid (hOg_6.out.below hb7 (by omega))
  clear hOu_6 hOx_6 hOi_6 hOg_6 hb7
  go_wp2_with fail
  refine (toIntSS_any A0 n0 c0 0 M0 gs0 _ HC0.out HL0.out (HA0.out _ hB7)).mono ?_
  rintro e w8 ⟨X8, m8, d8, qs8, rfl, hx8, ho8, hb8⟩
  obtain rfl : n0 = m8 := by have := HL0.out; omega
  have hB8 := btr hB7 hb8
  have hS8 := hb8.size
  have hOu_8 := Lib.hid (hOu_7.out.below hb8 (by omega))
  have hOx_8 := Lib.hid (hOx_7.out.below hb8 (by omega))
  have hOi_8 := Lib.hid (hOi_7.out.below hb8 (by omega))
  have hOg_8 := Lib.hid (hOg_7.out.below hb8 (by omega))
  have hOy_8 := Lib.hid ho8
  clear hOu_7 hOx_7 hOi_7 hOg_7 hx8 ho8 hb8
  go_wp2_with fail
  refine (eqIntSS_same X4 X8 n0 d4 d8 _ _ _ _ M0 qs4 qs8 _ HC0.out HL0.out (by omega) (by omega) hOx_8.out.rg hOy_8.out.rg).mono ?_
  rintro e w9 ⟨rfl, hb9⟩
  have hB9 := btr hB8 hb9
  have hS9 := hb9.size
  have hOu_9 := Lib.hid (hOu_8.out.below hb9 (by omega))
  have hOx_9 := Lib.hid (hOx_8.out.below hb9 (by omega))
  have hOi_9 := Lib.hid (hOi_8.out.below hb9 (by omega))
  have hOg_9 := Lib.hid (hOg_8.out.below hb9 (by omega))
  have hOy_9 := Lib.hid (hOy_8.out.below hb9 (by omega))
  clear hOu_8 hOx_8 hOi_8 hOg_8 hOy_8 hb9
  clear hOy_9
  go_wp2_with fail
  refine (toIntS_any A2 n2 c2 0 l2 _ hm2 HL2.out (HA2.out _ hB9)).mono ?_
  rintro e w10 ⟨X10, m10, d10, rfl, hx10, ho10, hb10⟩
  obtain rfl : n2 = m10 := by have := HL2.out; omega
  have hB10 := btr hB9 hb10
  have hS10 := hb10.size
  have hOu_10 := Lib.hid (hOu_9.out.below hb10 (by omega))
  have hOx_10 := Lib.hid (hOx_9.out.below hb10 (by omega))
  have hOi_10 := Lib.hid (hOi_9.out.below hb10 (by omega))
  have hOg_10 := Lib.hid (hOg_9.out.below hb10 (by omega))
  have hOj_10 := Lib.hid ho10
  clear hOu_9 hOx_9 hOi_9 hOg_9 hx10 ho10 hb10
  go_wp2_with fail
  refine (eqIntS_same X5 X10 n2 d5 d10 _ _ _ _ l2 _ hm2 HL2.out hOi_10.out.1 hOj_10.out.1).mono ?_
  rintro e w11 ⟨rfl, hb11⟩
  have hB11 := btr hB10 hb11
  have hS11 := hb11.size
  have hOu_11 := Lib.hid (hOu_10.out.below hb11 (by omega))
  have hOx_11 := Lib.hid (hOx_10.out.below hb11 (by omega))
  have hOi_11 := Lib.hid (hOi_10.out.below hb11 (by omega))
  have hOg_11 := Lib.hid (hOg_10.out.below hb11 (by omega))
  have hOj_11 := Lib.hid (hOj_10.out.below hb11 (by omega))
  clear hOu_10 hOx_10 hOi_10 hOg_10 hOj_10 hb11
  clear hOj_11
  go_wp2_with fail
  refine (markIntSS_any X4 n0 d4 _ _ 1 M0 qs4 _ HC0.out (by omega) HL0.out (by omega) hOx_11.out).mono ?_
  rintro e w12 ⟨he, ho12, ht12⟩
  rw [← HqM.out] at he
  subst he
  have hB12 := hB11.trans (ht12.below (B := w.heap.size) (by omega) hB11.size)
  have hS12 := ht12.size
  have hOu_12 := Lib.hid (hOu_11.out.turned ht12.block (by omega) (by omega))
  have hOi_12 := Lib.hid (hOi_11.out.turned ht12.block (by omega) (by omega))
  have hOg_12 := Lib.hid (hOg_11.out.turned ht12.block (by omega) (by omega))
  have hOx_12 := Lib.hid ho12
  clear hOu_11 hOi_11 hOg_11 hOx_11 ho12 ht12
  clear hOx_12
  go_wp2_with fail
  refine (markIntS_any X5 n2 d5 _ _ qM l2 _ hm2 (by omega) HL2.out hOi_12.out).mono ?_
  rintro e w13 ⟨he, ho13, ht13⟩
  subst he
  have hB13 := hB12.trans (ht13.below (B := w.heap.size) (by omega) hB12.size)
  have hS13 := ht13.size
  have hOu_13 := Lib.hid (hOu_12.out.turned ht13.block (by omega) (by omega))
  have hOg_13 := Lib.hid (hOg_12.out.turned ht13.block (by omega) (by omega))
  have hOi_13 := Lib.hid ho13
  clear hOu_12 hOg_12 hOi_12 ho13 ht13
  clear hOi_13
  go_wp2_with fail
  refine (eqIntSS_same X6 X3 nU d6 d3 _ _ _ _ U qs6 qs3 _ HCU.out HLU.out (by omega) (by omega) hOg_13.out.rg hOu_13.out.rg).mono ?_
  rintro e w14 ⟨rfl, hb14⟩
  have hB14 := btr hB13 hb14
  have hS14 := hb14.size
  have hOu_14 := Lib.hid (hOu_13.out.below hb14 (by omega))
  have hOg_14 := Lib.hid (hOg_13.out.below hb14 (by omega))
  clear hOu_13 hOg_13 hb14
  go_wp2_with fail
  refine (markIntSS_any X6 nU d6 _ _ 1 U qs6 _ HCU.out (by omega) HLU.out (by omega) hOg_14.out).mono ?_
  rintro e w15 ⟨he, ho15, ht15⟩
  rw [← HqU.out] at he
  subst he
  have hB15 := hB14.trans (ht15.below (B := w.heap.size) (by omega) hB14.size)
  have hS15 := ht15.size
  have hOu_15 := Lib.hid (hOu_14.out.turned ht15.block (by omega) (by omega))
  have hOg_15 := Lib.hid ho15
  clear hOu_14 hOg_14 ho15 ht15
  go_wp2_with fail
  refine (heldIntSS_any X6 nU d6 _ _ 1 U qs6 _ HCU.out (by omega) HLU.out hOg_15.out.rg).mono ?_
  rintro e w' ⟨he, rfl⟩
  rw [← HqU.out] at he
  subst he
  go_wp2_with fail
  refine (toIntSS_any A0 n0 c0 0 M0 gs0 _ HC0.out HL0.out (HA0.out _ hB15)).mono ?_
  rintro e w17 ⟨X17, m17, d17, qs17, rfl, hx17, ho17, hb17⟩
  obtain rfl : n0 = m17 := by have := HL0.out; omega
  have hB17 := btr hB15 hb17
  have hS17 := hb17.size
  have hOu_17 := Lib.hid (hOu_15.out.below hb17 (by omega))
  have hOg_17 := Lib.hid (hOg_15.out.below hb17 (by omega))
  have hOz_17 := Lib.hid ho17
  clear hOu_15 hOg_15 hx17 ho17 hb17
  go_wp2_with fail
  refine (toIntS_any A2 n2 c2 0 l2 _ hm2 HL2.out (HA2.out _ hB17)).mono ?_
  rintro e w18 ⟨X18, m18, d18, rfl, hx18, ho18, hb18⟩
  obtain rfl : n2 = m18 := by have := HL2.out; omega
  have hB18 := btr hB17 hb18
  have hS18 := hb18.size
  have hOu_18 := Lib.hid (hOu_17.out.below hb18 (by omega))
  have hOg_18 := Lib.hid (hOg_17.out.below hb18 (by omega))
  have hOz_18 := Lib.hid (hOz_17.out.below hb18 (by omega))
  have hOk_18 := Lib.hid ho18
  clear hOu_17 hOg_17 hOz_17 hx18 ho18 hb18
  go_wp2_with fail
  refine (HK2.out _ _ _ _ _ _ _ _ _ _ HL0.out (hOz_18.out.rg.wide (Nat.le_refl _) (by omega)) hm2 HL2.out (hOk_18.out.1.wide (Nat.le_refl _) (by omega))).mono ?_
  rintro e w19 ⟨X19, m19, d19, qs19, rfl, hx19, ho19, hb19⟩
  obtain rfl : nU = m19 := by have := HLU.out; omega
  have hB19 := btr hB18 hb19
  have hS19 := hb19.size
  have hOu_19 := Lib.hid (hOu_18.out.below hb19 (by omega))
  have hOg_19 := Lib.hid (hOg_18.out.below hb19 (by omega))
  have hOz_19 := Lib.hid (hOz_18.out.below hb19 (by omega))
  have hOk_19 := Lib.hid (hOk_18.out.below hb19 (by omega))
  have hOh_19 := Lib.hid ho19
  clear hOu_18 hOg_18 hOz_18 hOk_18 hx19 ho19 hb19
  clear hOz_19
  clear hOk_19
  go_wp2_with fail
  refine (eqIntSS_same X19 X3 nU d19 d3 _ _ _ _ U qs19 qs3 _ HCU.out HLU.out (by omega) (by omega) hOh_19.out.rg hOu_19.out.rg).mono ?_
  rintro e w20 ⟨rfl, hb20⟩
  have hB20 := btr hB19 hb20
  have hS20 := hb20.size
  have hOu_20 := Lib.hid (hOu_19.out.below hb20 (by omega))
  have hOg_20 := Lib.hid (hOg_19.out.below hb20 (by omega))
  have hOh_20 := Lib.hid (hOh_19.out.below hb20 (by omega))
  clear hOu_19 hOg_19 hOh_19 hb20
  clear hOh_20
  clear hOu_20
  go_wp2_with fail
  refine (heldIntSS_any X6 nU d6 _ _ 1 U qs6 _ HCU.out (by omega) HLU.out hOg_20.out.rg).mono ?_
  rintro e w' ⟨he, rfl⟩
  rw [← HqU.out] at he
  subst he
  go_wp2_with fail
  go_ret
  exact ⟨rfl, hB20⟩

/-! ### The row's step -/
set_option maxRecDepth 100000 in
theorem lifted (os : Os) (started : os.Started) (H : Type) (enc : TypeId × Value → H) :
    ReturnsInHanded {} Try.checked os 12 .any (Rows.fnExactWithPageSpec.pre6 enc Try.prog Try.f12 Rows.fnExactWithPageRow.domain false) (Rows.fnExactWithPageSpec.post enc Try.prog Try.f12 false true false false) := by
  refine returnsInHanded_of_change (C := Try.checked) Base.own started (by kernel_rfl) Try.func12
    (ChangeSpec.witness6 (enc := enc) (C := Try.checked) false ⟨#[], #[.slice none 0 0, .int .i64 0, .slice none 0 0], []⟩ 8 (by kernel_rfl) (by kernel_rfl) (by kernel_rfl) (by kernel_rfl)) ?_
  intro W base args ds gs before hval0 hW hcnd _
  have hval : ∀ (j : Nat) t v, Try.f12.params[j]? = some t → args[j]? = some v → Value.okWide Try.prog W .any base t v := hval0
  have hW' := hW
  obtain ⟨p, q, hA0, hV, rfl, hfz, hnd⟩ := hW
  have hA : DataW.TrodAll enc Try.prog W 0 (fun _ => true) true Try.f12.params.toList args.toList ds p := hA0
  have hA1 := hA
  rw [Try.params12] at hA hval
  obtain ⟨v0, vs0, d0, ds0, p0, q0, hargs, rfl, rfl, h0, r0⟩ := trodAll_cons hA
  obtain ⟨v1, vs1, d1, ds1, p1, q1, rfl, rfl, rfl, h1, r1⟩ := trodAll_cons r0
  obtain ⟨v2, vs2, d2, ds2, p2, q2, rfl, rfl, rfl, h2, r2⟩ := trodAll_cons r1
  obtain ⟨rfl, rfl, rfl⟩ := trodAll_nil r2
  obtain rfl : args = #[v0, v1, v2] := by cases args; simp_all
  obtain ⟨rfl, rfl⟩ := trodVars_none hV
  obtain ⟨A0, n0, c0, M0, gs0, rfl, hn0, hl0, hf0, h0'⟩ := Grid.open_grid (hval 0 24 v0 rfl rfl) h0
  obtain ⟨a1, rfl, _, _, w1⟩ := open_int Try.underlying3 (hval 1 3 v1 rfl rfl) h1
  obtain ⟨A2, n2, c2, l2, rfl, hn2, hl2, h2'⟩ := Grid.open_intsA (hval 2 32 v2 rfl rfl) h2
  clear hA0 hval0
  rw [List.append_nil] at hW'
  refine (walk A0 n0 c0 M0 gs0 a1 A2 n2 c2 l2 hn0 hl0 hf0 h0' w1 hn2 hl2 h2').mono fun e W' ⟨he, hg⟩ => ?_
  subst he
  exact ⟨_, rfl, Mem.post_args Grid.laid (by kernel_rfl) rfl rfl rfl hW' hA1 hg (fun _ _ _ => (trodAll_cons_mk (shut_bool Try.underlying4 _) trodAll_mk0)) (ok_one (by kernel_rfl) rfl (okWide_bool_mk Try.underlying4 _))⟩

theorem over : Rows.fnExactWithPageRow.holds Try.pinned (OpenSpec.ofChange Rows.fnExactWithPageSpec) :=
  OpenClaim.holds_of_wide 12 Try.f12 rfl rfl rfl rfl rfl rfl rfl ⟨rfl, rfl, rfl, rfl, rfl⟩ rfl rfl rfl rfl rfl (by kernel_rfl) Try.func12 (by kernel_rfl)
    (of_decide_eq_true (by kernel_rfl)) (by unfold Func.isWrapper; first | (rw [if_pos (by decide +kernel)]; kernel_rfl) | (rw [if_neg (by decide +kernel)]; exact ⟨rfl, rfl⟩))
    (fun os started H enc _ => lifted os started H enc)

/-- The given statement. -/
theorem proved : Rows.FnExactWithPageSaid :=
  over
#print axioms proved
end Go.Proofs.Ytkbcmeachfplnaa.fnExactWithPage
