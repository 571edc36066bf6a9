/-
  For every slice of bytes the law FnOfMon returns true: of a hypervisor's entries none stays and all others do; tags lead back to the hypervisor and the guest. No condition.
-/
import Derived.Test.YteoddppeajlekaaTagImpl
import Derived.Test.YteoddppeajlekaaTagFlush
import Derived.Test.YteoddppeajlekaaTagDraws
import Derived.Test.YteoddppeajlekaaTagLaw
import Derived.Test.YteoddppeajlekaaEntSame
import Derived.Test.YteoddppeajlekaaSameInts
import Derived.Test.YteoddppeajlekaaOrdT
import Derived.Test.YteoddppeajlekaaCode
import Derived.Test.YteoddppeajlekaaBig
namespace Go.Proofs.Yteoddppeajlekaa.fnOfMon
set_option maxRecDepth 100000
open Go.ChangeShapes Go.WideShapes Go.ChangeAt Go.RowKit
open Go.Proofs.Yteoddppeajlekaa.Base Go.Proofs.Yteoddppeajlekaa.Mem Go.Proofs.Yteoddppeajlekaa.Slots Go.Proofs.Yteoddppeajlekaa.Ints Go.Proofs.Yteoddppeajlekaa.Draw Go.Proofs.Yteoddppeajlekaa.SDraw Go.Proofs.Yteoddppeajlekaa.Data Go.Proofs.Yteoddppeajlekaa.Ents Go.Proofs.Yteoddppeajlekaa.Tags
set_option linter.unusedVariables false
set_option linter.unusedSimpArgs false

set_option maxRecDepth 100000 in
set_option maxHeartbeats 8000000 in
theorem walk (A : Option Addr) (n c : Nat) (hn : n ≤ maxLen) {w : World} (hcode : CodeAt w A n) :
    Calls Try.prog 4 #[.slice A n c] w fun e w' => e = .returned (.bool true) ∧ Below w.heap.size w w' := by
  have hn' : n ≤ 9223372036854775807 := hn
  have HC := Lib.hid (show ∀ W, Below w.heap.size w W → CodeAt W A n from fun W hb => hcode.below hb)
  clear hcode hn
  by_cases h1 : 1048576 < n
  · go_enter Try.func4, Try.ntmps4
    go_wp2_with (go_at_call 10; refine (big_yes A n c _ hn' h1).mono ?_; rintro e w' ⟨rfl, rfl⟩)
    go_ret
    exact ⟨rfl, Below.refl _ _⟩
  · have hn2 : n ≤ 1048576 := by omega
    clear h1 hn'
    go_enter Try.func4, Try.ntmps4
    go_wp2_with (go_at_call 10; refine (big_no A n c _ hn2).mono ?_; rintro e w' ⟨rfl, rfl⟩)
    go_wp2_with fail
    refine (drawFlushM_any A n c _ hn2 (HC.out _ (Below.refl _ _))).mono ?_
    rintro e w1 ⟨ad1, m1, p1, l1, s, rfl, hws, hE, hb1⟩
    have HL1 := Lib.hid hE.2.1
    have HW1 := Lib.hid hE.2.2.1
    have hm1 : m1 ≤ 1048576 := by have := hE.1; omega
    have hle1 := hE.1
    have HWs := Lib.hid hws
    have hB1 := btr (Below.refl _ _) hb1
    have hS1 := hb1.size
    have hOb1_1 := Lib.hid (hE.2.2.2)
    clear hE hb1
    clear hws
    have hK1 := fun (A : Option Addr) (c : Nat) (V : World) (h : Lies V 0 V.heap.size A (ecells l1)) => spec_flushM A m1 c 0 s l1 V hm1 HL1.out h
    have hK2 := fun (A : Option Addr) (c : Nat) (V : World) (h : Lies V 0 V.heap.size A (ecells l1)) => impl_flushM A m1 c s l1 V hm1 HL1.out h HW1.out HWs.out
    have hle := flushM_le l1 s
    rw [HL1.out] at hle
    have hgone := fun e he => flushM_gone (e := e) (l := l1) (m := s) he
    have hcnt := fun k => flushM_take l1 s k
    obtain ⟨u, hu⟩ : ∃ u, u = flushM l1 s := ⟨_, rfl⟩
    rw [← hu] at hK1 hK2 hle
    obtain ⟨N, hN⟩ : ∃ N, u.length = N := ⟨_, rfl⟩
    have HU := Lib.hid hN
    have HE := Lib.hid hu
    have hmN : N ≤ 1048576 := by omega
    have HK2 := Lib.hid hK2
    have HCNT := Lib.hid hcnt
    clear hK1 hK2 hgone hcnt hN hu hle
    go_wp2_with fail
    refine (HK2.out _ _ _ (hOb1_1.out.wide (Nat.zero_le _) (by omega))).mono ?_
    rintro e w2 ⟨A2', n2', c2', rfl, hl2, ho2, hb2⟩
    have he2 := HU.out.symm.trans hl2
    subst he2
    have hB2 := btr hB1 hb2
    have hS2 := hb2.size
    have hOb1_2 := Lib.hid (hOb1_1.out.below hb2 (by omega))
    have hOx_2 := Lib.hid ho2
    clear hOb1_1 hl2 ho2 hb2
    clear hOx_2
    go_wp2_with fail
    have HBW := Lib.hid hB2
    have HBB := Lib.hid (show Lies w2 0 w2.heap.size (some ad1) (ecells l1) from (hOb1_2.out.wide (Nat.zero_le _) (by omega)))
    clear hOb1_2
    generalize w2 = W at HBB HBW ⊢
    go_loopw [6, 7] (fun v i wr => ∃ (k q : Nat), k ≤ m1 ∧ q ≤ k ∧ i = .int .i64 k ∧ v = .int .i64 q ∧ (flushM (l1.take k) s).length = q ∧ wr = W) (fun _ i _ => m1 - (intOf i).toNat)
    case atStart => exact ⟨0, 0, Nat.zero_le _, Nat.le_refl _, rfl, rfl, by rw [List.take_zero]; exact Nat.le_zero.1 (flushM_le [] s), rfl⟩
    case round =>
      obtain ⟨k, q, hk, hqk, rfl, rfl, hq, rfl⟩ := hrel
      by_cases hlt : k < m1
      · have hkl : k < l1.length := by have := HL1.out; omega
        obtain ⟨b, off, he, _, hbW, c0, _, _, _⟩ := e_at HBB.out k hkl
        cases he
        have hc := HCNT.out k hkl
        rw [hq] at hc
        have hj0 : (0 : Int) ≤ (k : Int) := Int.natCast_nonneg _
        have hj1 : (k : Int) < (m1 : Int) := by omega
        have hcall := fun V : World => spec_tagMon l1[k].1 V
        generalize tagMon l1[k].1 = z at hcall hc
        generalize l1[k].1 = x0 at c0 hcall
        have HCALL := Lib.hid hcall
        clear hcall
        by_cases hz : z = s
        · by_cases h0 : s < 0
          · rw [if_neg (by omega)] at hc
            have HC1 := Lib.hid hc
            have hz2 : (z != s) = false := by simpa using hz
            clear hc hq hz
            go_wp2_with fail
            refine (HCALL.out _).mono ?_
            rintro e w' ⟨rfl, rfl⟩
            go_wp2_with fail
            go_roundw
            case rel => exact ⟨k + 1, q + 1, by omega, by omega, by go_num, by go_num, HC1.out, trivial⟩
            case measure => simp [intOf]; omega
          · rw [if_pos ⟨by omega, hz⟩] at hc
            have HC1 := Lib.hid hc
            have hz2 : (z != s) = false := by simpa using hz
            clear hc hq hz
            go_wp2_with fail
            refine (HCALL.out _).mono ?_
            rintro e w' ⟨rfl, rfl⟩
            go_wp2_with fail
            go_roundw
            case rel => exact ⟨k + 1, q, by omega, by omega, by go_num, rfl, HC1.out, trivial⟩
            case measure => simp [intOf]; omega
        · rw [if_neg (fun h => hz h.2)] at hc
          have HC1 := Lib.hid hc
          have hz2 : (z != s) = true := by simpa using hz
          clear hc hq hz
          go_wp2_with fail
          refine (HCALL.out _).mono ?_
          rintro e w' ⟨rfl, rfl⟩
          go_wp2_with fail
          go_roundw
          case rel => exact ⟨k + 1, q + 1, by omega, by omega, by go_num, by go_num, HC1.out, trivial⟩
          case measure => simp [intOf]; omega
      · obtain rfl : k = m1 := by omega
        rw [List.take_of_length_le (by have := HL1.out; omega), ← HE.out, HU.out] at hq
        subst hq
        go_wp2_with fail
        generalize wr = W at HBB HBW ⊢
        go_loopw [8] (fun i wr => ∃ (k : Nat), k ≤ 3 ∧ i = .int .i64 k ∧ Below W.heap.size W wr) (fun i _ => 3 - (intOf i).toNat)
        case atStart => exact ⟨0, Nat.zero_le _, rfl, Below.refl _ _⟩
        case round =>
          obtain ⟨m, hm, rfl, hbr⟩ := hrel
          by_cases hm3 : m < 3
          · have hj1 : (m : Int) < 3 := by omega
            have HBR := Lib.hid hbr
            clear hbr
            go_wp2_with fail
            generalize wr = W2 at HBR ⊢
            go_loopw [9] (fun i wr => ∃ (g : Nat), g ≤ 2 ∧ i = .int .i64 g ∧ Below W.heap.size W wr) (fun i _ => 2 - (intOf i).toNat)
            case atStart => exact ⟨0, Nat.zero_le _, rfl, HBR.out⟩
            case round =>
              obtain ⟨g, hg, rfl, hb1⟩ := hrel
              by_cases hg2 : g < 2
              · have hj2 : (g : Int) < 2 := by omega
                obtain ⟨ht, htm, htg, htw⟩ := tag_back hm3 hg2
                have h1 := fun V : World => impl_tagOf m g V (wf_few (by omega)) (wf_few (by omega))
                generalize tagOf (m : Int) (g : Int) = tt at h1 htm htg htw ht
                have h2 := fun V : World => impl_tagMon tt V htw
                have h3 := fun V : World => impl_tagGuest tt V htw
                rw [htm] at h2
                rw [htg] at h3
                have H1 := Lib.hid h1
                have H2 := Lib.hid h2
                have H3 := Lib.hid h3
                have HB1 := Lib.hid hb1
                clear h1 h2 h3 htm htg htw ht hb1
                go_wp2_with fail
                refine (H1.out _).mono ?_
                rintro e w1 ⟨rfl, hb1⟩
                have HB2 := Lib.hid (btr HB1.out hb1)
                clear hb1
                go_wp2_with fail
                refine (H2.out _).mono ?_
                rintro e w2 ⟨rfl, hb2⟩
                have HB3 := Lib.hid (btr HB2.out hb2)
                clear hb2
                go_wp2_with fail
                refine (H1.out _).mono ?_
                rintro e w3 ⟨rfl, hb3⟩
                have HB4 := Lib.hid (btr HB3.out hb3)
                clear hb3
                go_wp2_with fail
                refine (H3.out _).mono ?_
                rintro e w4 ⟨rfl, hb4⟩
                have HB5 := Lib.hid (btr HB4.out hb4)
                clear hb4
                go_wp2_with fail
                go_roundw
                case rel => exact ⟨g + 1, by omega, by go_num, HB5.out⟩
                case measure => simp [intOf]; omega
              · obtain rfl : g = 2 := by omega
                have HB1 := Lib.hid hb1
                clear hb1
                go_wp2_with fail
                go_roundw
                case rel => exact ⟨m + 1, by omega, by go_num, HB1.out⟩
                case measure => simp [intOf]; omega
          · obtain rfl : m = 3 := by omega
            have HB1 := Lib.hid (btr HBW.out hbr)
            have HT := Lib.hid (fun V : World => impl_tagsM 1 V (by decide))
            clear hbr
            go_wp2_with fail
            refine (HT.out _).mono ?_
            rintro e w1 ⟨A1, n1, c1, rfl, hl1, _, hb1⟩
            obtain rfl : 2 = n1 := hl1
            have HB2 := Lib.hid (btr HB1.out hb1)
            clear hb1
            go_wp2_with fail
            go_ret
            exact ⟨rfl, HB2.out⟩

/-! ### The row's step -/
set_option maxRecDepth 100000 in
theorem lifted (os : Os) (started : os.Started) (H : Type) (enc : TypeId × Value → H) :
    ReturnsInHanded {} Try.checked os 4 .any (Rows.fnOfMonSpec.pre6 enc Try.prog Try.f4 Rows.fnOfMonRow.domain false) (Rows.fnOfMonSpec.post enc Try.prog Try.f4 false true false false) := by
  refine returnsInHanded_of_change (C := Try.checked) Base.own started (by kernel_rfl) Try.func4
    (ChangeSpec.witness6 (enc := enc) (C := Try.checked) false ⟨#[], #[.slice none 0 0], []⟩ 8 (by kernel_rfl) (by kernel_rfl) (by kernel_rfl) (by kernel_rfl)) ?_
  intro W base args ds gs before hval0 hW hcnd _
  have hval : ∀ (j : Nat) t v, Try.f4.params[j]? = some t → args[j]? = some v → Value.okWide Try.prog W .any base t v := hval0
  have hW' := hW
  obtain ⟨p, q, hA0, hV, rfl, hfz, hnd⟩ := hW
  have hA : DataW.TrodAll enc Try.prog W 0 (fun _ => true) true Try.f4.params.toList args.toList ds p := hA0
  have hA1 := hA
  rw [Try.params4] at hA hval
  obtain ⟨v0, vs0, d0, ds0, p0, q0, hargs, rfl, rfl, h0, r0⟩ := trodAll_cons hA
  obtain ⟨rfl, rfl, rfl⟩ := trodAll_nil r0
  obtain rfl : args = #[v0] := by cases args; simp_all
  obtain ⟨rfl, rfl⟩ := trodVars_none hV
  obtain ⟨A0, n0, c0, rfl, hn0, hcode0, _⟩ := Draw.open_code (hval 0 22 v0 rfl rfl) h0
  clear hA0 hval0
  rw [List.append_nil] at hW'
  refine (walk A0 n0 c0 hn0 hcode0).mono fun e W' ⟨he, hg⟩ => ?_
  subst he
  exact ⟨_, rfl, Mem.post_args Slots.laid (by kernel_rfl) rfl rfl rfl hW' hA1 hg (fun _ _ _ => (trodAll_cons_mk (shut_bool Try.underlying4 _) trodAll_mk0)) (ok_one (by kernel_rfl) rfl (okWide_bool_mk Try.underlying4 _))⟩

theorem over : Rows.fnOfMonRow.holds Try.pinned (OpenSpec.ofChange Rows.fnOfMonSpec) :=
  OpenClaim.holds_of_wide 4 Try.f4 rfl rfl rfl rfl rfl rfl rfl ⟨rfl, rfl, rfl, rfl, rfl⟩ rfl rfl rfl rfl rfl (by kernel_rfl) Try.func4 (by kernel_rfl)
    (of_decide_eq_true (by kernel_rfl)) (by unfold Func.isWrapper; first | (rw [if_pos (by decide +kernel)]; kernel_rfl) | (rw [if_neg (by decide +kernel)]; exact ⟨rfl, rfl⟩))
    (fun os started H enc _ => lifted os started H enc)

/-- The given statement. -/
theorem proved : Rows.FnOfMonSaid :=
  over
#print axioms proved
end Go.Proofs.Yteoddppeajlekaa.fnOfMon
