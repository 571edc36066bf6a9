/-
  For every slice of bytes the law FnTags returns true: every guest has its own tag, from which the hypervisor and the guest are found again. No condition.
-/
import Derived.Test.YteoddppeajlekaaTagImpl
import Derived.Test.YteoddppeajlekaaTagFlush
import Derived.Test.YteoddppeajlekaaTagDraws
import Derived.Test.YteoddppeajlekaaTagLaw
import Derived.Test.YteoddppeajlekaaEntSame
import Derived.Test.YteoddppeajlekaaSameInts
import Derived.Test.YteoddppeajlekaaOrdT
import Derived.Test.YteoddppeajlekaaCode
import Derived.Test.YteoddppeajlekaaBig
namespace Go.Proofs.Yteoddppeajlekaa.fnTags
set_option maxRecDepth 100000
open Go.ChangeShapes Go.WideShapes Go.ChangeAt Go.RowKit
open Go.Proofs.Yteoddppeajlekaa.Base Go.Proofs.Yteoddppeajlekaa.Mem Go.Proofs.Yteoddppeajlekaa.Slots Go.Proofs.Yteoddppeajlekaa.Ints Go.Proofs.Yteoddppeajlekaa.Draw Go.Proofs.Yteoddppeajlekaa.SDraw Go.Proofs.Yteoddppeajlekaa.Data Go.Proofs.Yteoddppeajlekaa.Ents Go.Proofs.Yteoddppeajlekaa.Tags
set_option linter.unusedVariables false
set_option linter.unusedSimpArgs false

set_option maxRecDepth 100000 in
set_option maxHeartbeats 8000000 in
theorem walk (A : Option Addr) (n c : Nat) (hn : n ≤ maxLen) {w : World} (hcode : CodeAt w A n) :
    Calls Try.prog 3 #[.slice A n c] w fun e w' => e = .returned (.bool true) ∧ Below w.heap.size w w' := by
  have hn' : n ≤ 9223372036854775807 := hn
  have HC := Lib.hid (show ∀ W, Below w.heap.size w W → CodeAt W A n from fun W hb => hcode.below hb)
  clear hcode hn
  by_cases h1 : 1048576 < n
  · go_enter Try.func3, Try.ntmps3
    go_wp2_with (go_at_call 10; refine (big_yes A n c _ hn' h1).mono ?_; rintro e w' ⟨rfl, rfl⟩)
    go_ret
    exact ⟨rfl, Below.refl _ _⟩
  · have hn2 : n ≤ 1048576 := by omega
    clear h1 hn'
    go_enter Try.func3, Try.ntmps3
    go_wp2_with (go_at_call 10; refine (big_no A n c _ hn2).mono ?_; rintro e w' ⟨rfl, rfl⟩)
    go_wp2_with fail
    refine (drawTagOf_any A n c _ hn2 (HC.out _ (Below.refl _ _))).mono ?_
    rintro e w1 ⟨m, g, rfl, hwm, hwg, hb1⟩
    have HWm := Lib.hid hwm
    have HWg := Lib.hid hwg
    have hB1 := btr (Below.refl _ _) hb1
    have hS1 := hb1.size
    clear hwm hwg hb1
    have hT1 := fun V : World => spec_tagOf m g V
    have hT2 := fun V : World => impl_tagOf m g V HWm.out HWg.out
    have hbk := tagOf_back (m := m) (g := g)
    have hwt := wf_tagOf (m := m) (g := g)
    generalize tagOf m g = tt at hT1 hT2 hbk hwt
    have HT1 := Lib.hid hT1
    have HT2 := Lib.hid hT2
    have HBK := Lib.hid hbk
    have HWT := Lib.hid hwt
    clear hT1 hT2 hbk hwt
    go_wp2_with fail
    refine (HT2.out _).mono ?_
    rintro e w2 ⟨rfl, hb2⟩
    have hB2 := btr hB1 hb2
    have hS2 := hb2.size
    clear hb2
    go_wp2_with fail
    refine (drawTagMon_any A n c _ hn2 (HC.out _ hB2)).mono ?_
    rintro e w3 ⟨a, rfl, hwa, hb3⟩
    have HWa := Lib.hid hwa
    have hB3 := btr hB2 hb3
    have hS3 := hb3.size
    clear hwa hb3
    have hA1 := fun V : World => spec_tagMon a V
    have hA2 := fun V : World => impl_tagMon a V HWa.out
    generalize tagMon a = x1 at hA1 hA2
    have HA1 := Lib.hid hA1
    have HA2 := Lib.hid hA2
    have hG1 := fun V : World => spec_tagGuest a V
    have hG2 := fun V : World => impl_tagGuest a V HWa.out
    generalize tagGuest a = x2 at hG1 hG2
    have HG1 := Lib.hid hG1
    have HG2 := Lib.hid hG2
    clear hA1 hA2 hG1 hG2
    go_wp2_with fail
    refine (drawTagsOf_any A n c _ hn2 (HC.out _ hB3)).mono ?_
    rintro e w4 ⟨o, rfl, hwo, hb4⟩
    have HWo := Lib.hid hwo
    have hB4 := btr hB3 hb4
    have hS4 := hb4.size
    clear hwo hb4
    have hO1 := fun V : World => spec_tagsM o V
    have hO2 := fun V : World => impl_tagsM o V HWo.out
    have hle2 := tagsM_le o
    generalize tagsM o = T at hO1 hO2 hle2
    obtain ⟨Q, hQ⟩ : ∃ Q, T.length = Q := ⟨_, rfl⟩
    have HQ := Lib.hid hQ
    have hmQ : Q ≤ 1048576 := by omega
    have HO1 := Lib.hid hO1
    have HO2 := Lib.hid hO2
    clear hO1 hO2 hle2 hQ
    go_wp2_with fail
    refine (drawFlushM_any A n c _ hn2 (HC.out _ hB4)).mono ?_
    rintro e w5 ⟨ad1, m1, p1, l1, s, rfl, hws, hE, hb5⟩
    have HL1 := Lib.hid hE.2.1
    have HW1 := Lib.hid hE.2.2.1
    have hm1 : m1 ≤ 1048576 := by have := hE.1; omega
    have hle1 := hE.1
    have HWs := Lib.hid hws
    have hB5 := btr hB4 hb5
    have hS5 := hb5.size
    have hOb1_5 := Lib.hid (hE.2.2.2)
    clear hE hb5
    clear hws
    have hK1 := fun (A : Option Addr) (c : Nat) (V : World) (h : Lies V 0 V.heap.size A (ecells l1)) => spec_flushM A m1 c 0 s l1 V hm1 HL1.out h
    have hK2 := fun (A : Option Addr) (c : Nat) (V : World) (h : Lies V 0 V.heap.size A (ecells l1)) => impl_flushM A m1 c s l1 V hm1 HL1.out h HW1.out HWs.out
    have hle := flushM_le l1 s
    rw [HL1.out] at hle
    have hgone := fun e he => flushM_gone (e := e) (l := l1) (m := s) he
    have hcnt := fun k => flushM_take l1 s k
    have hwu := wf_flushM (m := s) HW1.out
    generalize flushM l1 s = u at hK1 hK2 hle hgone
    obtain ⟨N, hN⟩ : ∃ N, u.length = N := ⟨_, rfl⟩
    have HU := Lib.hid hN
    have hmN : N ≤ 1048576 := by omega
    have HK1 := Lib.hid hK1
    have HK2 := Lib.hid hK2
    have HGO := Lib.hid hgone
    clear hK1 hK2 hgone hcnt hN hle hwu
    go_wp2_with fail
    refine (HT1.out _).mono ?_
    rintro e w' ⟨rfl, rfl⟩
    go_wp2_with fail
    refine (HA2.out _).mono ?_
    rintro e w6 ⟨rfl, hb6⟩
    have hB6 := btr hB5 hb6
    have hS6 := hb6.size
    have hOb1_6 := Lib.hid (hOb1_5.out.below hb6 (by omega))
    clear hOb1_5 hb6
    go_wp2_with fail
    refine (HA1.out _).mono ?_
    rintro e w' ⟨rfl, rfl⟩
    go_wp2_with fail
    refine (HG2.out _).mono ?_
    rintro e w7 ⟨rfl, hb7⟩
    have hB7 := btr hB6 hb7
    have hS7 := hb7.size
    have hOb1_7 := Lib.hid (hOb1_6.out.below hb7 (by omega))
    clear hOb1_6 hb7
    go_wp2_with fail
    refine (HG1.out _).mono ?_
    rintro e w' ⟨rfl, rfl⟩
    go_wp2_with fail
    refine (HO2.out _).mono ?_
    rintro e w8 ⟨A8', n8', c8', rfl, hl8, ho8, hb8⟩
    have he8 := HQ.out.symm.trans hl8
    subst he8
    have hB8 := btr hB7 hb8
    have hS8 := hb8.size
    have hOb1_8 := Lib.hid (hOb1_7.out.below hb8 (by omega))
    have hOto_8 := Lib.hid ho8
    clear hOb1_7 hl8 ho8 hb8
    go_wp2_with fail
    refine (HO1.out _).mono ?_
    rintro e w9 ⟨A9', n9', c9', rfl, hl9, ho9, hb9⟩
    have he9 := HQ.out.symm.trans hl9
    subst he9
    have hB9 := btr hB8 hb9
    have hS9 := hb9.size
    have hOb1_9 := Lib.hid (hOb1_8.out.below hb9 (by omega))
    have hOto_9 := Lib.hid (hOto_8.out.below hb9 (by omega))
    have hOts_9 := Lib.hid ho9
    clear hOb1_8 hOto_8 hl9 ho9 hb9
    go_wp2_with fail
    refine (sameInts_same A8' A9' Q c8' c9' _ _ _ _ T _ hmQ HQ.out hOto_9.out.1 hOts_9.out.1).mono ?_
    rintro e w10 ⟨rfl, hb10⟩
    have hB10 := btr hB9 hb10
    have hS10 := hb10.size
    have hOb1_10 := Lib.hid (hOb1_9.out.below hb10 (by omega))
    have hOto_10 := Lib.hid (hOto_9.out.below hb10 (by omega))
    have hOts_10 := Lib.hid (hOts_9.out.below hb10 (by omega))
    clear hOb1_9 hOto_9 hOts_9 hb10
    clear hOto_10
    clear hOts_10
    go_wp2_with fail
    refine (HK2.out _ _ _ (hOb1_10.out.wide (Nat.zero_le _) (by omega))).mono ?_
    rintro e w11 ⟨A11', n11', c11', rfl, hl11, ho11, hb11⟩
    have he11 := HU.out.symm.trans hl11
    subst he11
    have hB11 := btr hB10 hb11
    have hS11 := hb11.size
    have hOb1_11 := Lib.hid (hOb1_10.out.below hb11 (by omega))
    have hOx_11 := Lib.hid ho11
    clear hOb1_10 hl11 ho11 hb11
    go_wp2_with fail
    have HBW := Lib.hid hB11
    have HX := Lib.hid (show Lies w11 0 w11.heap.size A11' (ecells u) from (hOx_11.out.1.wide (Nat.zero_le _) (by omega)))
    have HBB := Lib.hid (show Lies w11 0 w11.heap.size (some ad1) (ecells l1) from (hOb1_11.out.wide (Nat.zero_le _) (by omega)))
    clear hOx_11
    clear hOb1_11
    generalize w11 = W at HX HBB HBW ⊢
    go_loopw [11] (fun i wr => ∃ (k : Nat), k ≤ N ∧ i = .int .i64 k ∧ wr = W) (fun i _ => N - (intOf i).toNat)
    case atStart => exact ⟨0, Nat.zero_le _, rfl, rfl⟩
    case round =>
      obtain ⟨k, hk, rfl, rfl⟩ := hrel
      by_cases hlt : k < N
      · have hj0 : (0 : Int) ≤ (k : Int) := Int.natCast_nonneg _
        have hj1 : (k : Int) < (N : Int) := by omega
        by_cases h0 : 0 ≤ s
        · have hkl : k < u.length := by have := HU.out; omega
          obtain ⟨b, off, rfl, _, hbW, c0, _, _, _⟩ := e_at HX.out k hkl
          have hg0 := HGO.out u[k] (List.getElem_mem hkl)
          have hcall := fun V : World => spec_tagMon u[k].1 V
          generalize tagMon u[k].1 = z at hcall hg0
          generalize u[k].1 = x0 at c0 hcall
          have hz : (z == s) = false := by simpa using fun h => hg0 ⟨h0, h⟩
          have HCALL := Lib.hid hcall
          clear hcall hg0
          go_wp2_with fail
          refine (HCALL.out _).mono ?_
          rintro e w' ⟨rfl, rfl⟩
          go_wp2_with fail
          go_roundw
          case rel => exact ⟨k + 1, by omega, by go_num, trivial⟩
          case measure => simp [intOf]; omega
        · have h00 : s < 0 := by omega
          go_wp2_with fail
          refine (HK1.out _ _ _ HBB.out).mono ?_
          rintro e w1 ⟨A9, n9, c9, rfl, hl9, ho9, hb9⟩
          obtain rfl : N = n9 := HU.out.symm.trans hl9
          have HL9 := Lib.hid (HX.out.below hb9 (Nat.le_refl _))
          have HO9 := Lib.hid ho9.1
          have HB9 := Lib.hid (btr HBW.out hb9)
          have HU2 := Lib.hid hl9
          clear ho9 hb9 hl9
          go_wp2_with fail
          refine (sameE_same _ _ N _ _ _ _ _ _ u w1 hmN HU2.out HL9.out HO9.out).mono ?_
          rintro e w2 ⟨rfl, hb2⟩
          have HB2 := Lib.hid (btr HB9.out hb2)
          clear hb2 HB9
          have H21 := Lib.hid (fun V : World => impl_tagOf 2 1 V (by decide) (by decide))
          have H6 := Lib.hid (fun V : World => impl_tagMon 6 V (by decide))
          rw [show tagOf 2 1 = 6 by decide] at H21
          rw [show tagMon 6 = 2 by decide] at H6
          have fin : ∀ w3, Below w.heap.size w w3 → True := fun _ _ => trivial
          clear fin
          rcases HBK.out with h0 | ⟨h0, hm1, hg1⟩
          · subst h0
            go_wp2_with fail
            refine (H21.out _).mono ?_
            rintro e w3 ⟨rfl, hb3⟩
            have HB3 := Lib.hid (btr HB2.out hb3)
            clear hb3
            go_wp2_with fail
            refine (H6.out _).mono ?_
            rintro e w4 ⟨rfl, hb4⟩
            have HB4 := Lib.hid (btr HB3.out hb4)
            clear hb4
            go_wp2_with fail
            go_ret
            exact ⟨rfl, HB4.out⟩
          · have hA := fun V : World => impl_tagMon tt V HWT.out
            have hG := fun V : World => impl_tagGuest tt V HWT.out
            rw [hm1] at hA
            rw [hg1] at hG
            have HA := Lib.hid hA
            have HG := Lib.hid hG
            have h02 : (tt == 0) = false := by simpa using h0
            clear hA hG hm1 hg1
            go_wp2_with fail
            refine (HA.out _).mono ?_
            rintro e w5 ⟨rfl, hb5⟩
            have HB5 := Lib.hid (btr HB2.out hb5)
            clear hb5
            go_wp2_with fail
            refine (HG.out _).mono ?_
            rintro e w6 ⟨rfl, hb6⟩
            have HB6 := Lib.hid (btr HB5.out hb6)
            clear hb6
            go_wp2_with fail
            refine (H21.out _).mono ?_
            rintro e w3 ⟨rfl, hb3⟩
            have HB3 := Lib.hid (btr HB6.out hb3)
            clear hb3
            go_wp2_with fail
            refine (H6.out _).mono ?_
            rintro e w4 ⟨rfl, hb4⟩
            have HB4 := Lib.hid (btr HB3.out hb4)
            clear hb4
            go_wp2_with fail
            go_ret
            exact ⟨rfl, HB4.out⟩
      · obtain rfl : k = N := by omega
        go_wp2_with fail
        refine (HK1.out _ _ _ HBB.out).mono ?_
        rintro e w1 ⟨A9, n9, c9, rfl, hl9, ho9, hb9⟩
        obtain rfl : k = n9 := HU.out.symm.trans hl9
        have HL9 := Lib.hid (HX.out.below hb9 (Nat.le_refl _))
        have HO9 := Lib.hid ho9.1
        have HB9 := Lib.hid (btr HBW.out hb9)
        have HU2 := Lib.hid hl9
        clear ho9 hb9 hl9
        go_wp2_with fail
        refine (sameE_same _ _ k _ _ _ _ _ _ u w1 hmN HU2.out HL9.out HO9.out).mono ?_
        rintro e w2 ⟨rfl, hb2⟩
        have HB2 := Lib.hid (btr HB9.out hb2)
        clear hb2 HB9
        have H21 := Lib.hid (fun V : World => impl_tagOf 2 1 V (by decide) (by decide))
        have H6 := Lib.hid (fun V : World => impl_tagMon 6 V (by decide))
        rw [show tagOf 2 1 = 6 by decide] at H21
        rw [show tagMon 6 = 2 by decide] at H6
        have fin : ∀ w3, Below w.heap.size w w3 → True := fun _ _ => trivial
        clear fin
        rcases HBK.out with h0 | ⟨h0, hm1, hg1⟩
        · subst h0
          go_wp2_with fail
          refine (H21.out _).mono ?_
          rintro e w3 ⟨rfl, hb3⟩
          have HB3 := Lib.hid (btr HB2.out hb3)
          clear hb3
          go_wp2_with fail
          refine (H6.out _).mono ?_
          rintro e w4 ⟨rfl, hb4⟩
          have HB4 := Lib.hid (btr HB3.out hb4)
          clear hb4
          go_wp2_with fail
          go_ret
          exact ⟨rfl, HB4.out⟩
        · have hA := fun V : World => impl_tagMon tt V HWT.out
          have hG := fun V : World => impl_tagGuest tt V HWT.out
          rw [hm1] at hA
          rw [hg1] at hG
          have HA := Lib.hid hA
          have HG := Lib.hid hG
          have h02 : (tt == 0) = false := by simpa using h0
          clear hA hG hm1 hg1
          go_wp2_with fail
          refine (HA.out _).mono ?_
          rintro e w5 ⟨rfl, hb5⟩
          have HB5 := Lib.hid (btr HB2.out hb5)
          clear hb5
          go_wp2_with fail
          refine (HG.out _).mono ?_
          rintro e w6 ⟨rfl, hb6⟩
          have HB6 := Lib.hid (btr HB5.out hb6)
          clear hb6
          go_wp2_with fail
          refine (H21.out _).mono ?_
          rintro e w3 ⟨rfl, hb3⟩
          have HB3 := Lib.hid (btr HB6.out hb3)
          clear hb3
          go_wp2_with fail
          refine (H6.out _).mono ?_
          rintro e w4 ⟨rfl, hb4⟩
          have HB4 := Lib.hid (btr HB3.out hb4)
          clear hb4
          go_wp2_with fail
          go_ret
          exact ⟨rfl, HB4.out⟩

/-! ### The row's step -/
set_option maxRecDepth 100000 in
theorem lifted (os : Os) (started : os.Started) (H : Type) (enc : TypeId × Value → H) :
    ReturnsInHanded {} Try.checked os 3 .any (Rows.fnTagsSpec.pre6 enc Try.prog Try.f3 Rows.fnTagsRow.domain false) (Rows.fnTagsSpec.post enc Try.prog Try.f3 false true false false) := by
  refine returnsInHanded_of_change (C := Try.checked) Base.own started (by kernel_rfl) Try.func3
    (ChangeSpec.witness6 (enc := enc) (C := Try.checked) false ⟨#[], #[.slice none 0 0], []⟩ 8 (by kernel_rfl) (by kernel_rfl) (by kernel_rfl) (by kernel_rfl)) ?_
  intro W base args ds gs before hval0 hW hcnd _
  have hval : ∀ (j : Nat) t v, Try.f3.params[j]? = some t → args[j]? = some v → Value.okWide Try.prog W .any base t v := hval0
  have hW' := hW
  obtain ⟨p, q, hA0, hV, rfl, hfz, hnd⟩ := hW
  have hA : DataW.TrodAll enc Try.prog W 0 (fun _ => true) true Try.f3.params.toList args.toList ds p := hA0
  have hA1 := hA
  rw [Try.params3] at hA hval
  obtain ⟨v0, vs0, d0, ds0, p0, q0, hargs, rfl, rfl, h0, r0⟩ := trodAll_cons hA
  obtain ⟨rfl, rfl, rfl⟩ := trodAll_nil r0
  obtain rfl : args = #[v0] := by cases args; simp_all
  obtain ⟨rfl, rfl⟩ := trodVars_none hV
  obtain ⟨A0, n0, c0, rfl, hn0, hcode0, _⟩ := Draw.open_code (hval 0 22 v0 rfl rfl) h0
  clear hA0 hval0
  rw [List.append_nil] at hW'
  refine (walk A0 n0 c0 hn0 hcode0).mono fun e W' ⟨he, hg⟩ => ?_
  subst he
  exact ⟨_, rfl, Mem.post_args Slots.laid (by kernel_rfl) rfl rfl rfl hW' hA1 hg (fun _ _ _ => (trodAll_cons_mk (shut_bool Try.underlying4 _) trodAll_mk0)) (ok_one (by kernel_rfl) rfl (okWide_bool_mk Try.underlying4 _))⟩

theorem over : Rows.fnTagsRow.holds Try.pinned (OpenSpec.ofChange Rows.fnTagsSpec) :=
  OpenClaim.holds_of_wide 3 Try.f3 rfl rfl rfl rfl rfl rfl rfl ⟨rfl, rfl, rfl, rfl, rfl⟩ rfl rfl rfl rfl rfl (by kernel_rfl) Try.func3 (by kernel_rfl)
    (of_decide_eq_true (by kernel_rfl)) (by unfold Func.isWrapper; first | (rw [if_pos (by decide +kernel)]; kernel_rfl) | (rw [if_neg (by decide +kernel)]; exact ⟨rfl, rfl⟩))
    (fun os started H enc _ => lifted os started H enc)

/-- The given statement. -/
theorem proved : Rows.FnTagsSaid :=
  over
#print axioms proved
end Go.Proofs.Yteoddppeajlekaa.fnTags
