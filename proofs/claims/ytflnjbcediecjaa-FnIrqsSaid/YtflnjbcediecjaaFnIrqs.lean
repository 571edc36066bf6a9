/-
  For every slice of bytes the law FnIrqs returns true: the greatest interrupt is taken first and is gone then, and one that is posted is pending. No condition.
-/
import Derived.Test.YtflnjbcediecjaaIrqImpl
import Derived.Test.YtflnjbcediecjaaIrqDraws
import Derived.Test.YtflnjbcediecjaaIrqLaw
import Derived.Test.YtflnjbcediecjaaSlotArgs
import Derived.Test.YtflnjbcediecjaaCode
import Derived.Test.YtflnjbcediecjaaBig
namespace Go.Proofs.Ytflnjbcediecjaa.fnIrqs
set_option maxRecDepth 100000
open Go.ChangeShapes Go.WideShapes Go.ChangeAt Go.RowKit
open Go.Proofs.Ytflnjbcediecjaa.Base Go.Proofs.Ytflnjbcediecjaa.Mem Go.Proofs.Ytflnjbcediecjaa.Slots Go.Proofs.Ytflnjbcediecjaa.Ints Go.Proofs.Ytflnjbcediecjaa.Draw Go.Proofs.Ytflnjbcediecjaa.SDraw Go.Proofs.Ytflnjbcediecjaa.Irqs
set_option linter.unusedVariables false
set_option linter.unusedSimpArgs false

set_option maxRecDepth 100000 in
set_option maxHeartbeats 8000000 in
theorem walk (A : Option Addr) (n c : Nat) (hn : n ≤ maxLen) {w : World} (hcode : CodeAt w A n) :
    Calls Try.prog 3 #[.slice A n c] w fun e w' => e = .returned (.bool true) ∧ Below w.heap.size w w' := by
  have hn' : n ≤ 9223372036854775807 := hn
  have HC := Lib.hid (show ∀ W, Below w.heap.size w W → CodeAt W A n from fun W hb => hcode.below hb)
  clear hcode hn
  by_cases h1 : 1048576 < n
  · go_enter Try.func3, Try.ntmps3
    go_wp2_with (go_at_call 11; refine (big_yes A n c _ hn' h1).mono ?_; rintro e w' ⟨rfl, rfl⟩)
    go_ret
    exact ⟨rfl, Below.refl _ _⟩
  · have hn2 : n ≤ 1048576 := by omega
    clear h1 hn'
    go_enter Try.func3, Try.ntmps3
    go_wp2_with (go_at_call 11; refine (big_no A n c _ hn2).mono ?_; rintro e w' ⟨rfl, rfl⟩)
    have HB0 := Lib.hid (Below.refl w.heap.size w)
    refine (drawPost_any A n c _ hn2 (HC.out _ HB0.out)).mono ?_
    rintro e v1 ⟨p, m, rfl, wp, wm, hx⟩
    have HB1 := Lib.hid (btr HB0.out hx)
    clear hx
    obtain ⟨wx, hge⟩ := post_facts (p := p) (n := m) wp
    have h1 := fun V : World => impl_post p m V wp wm
    have h2 := fun V : World => spec_post p m V
    have h3 := fun V : World => impl_cnt (postI p m).1 V wx
    have h4 := fun V : World => impl_cnt p V wp
    generalize postI p m = z at h1 h2 h3 hge
    obtain ⟨x, ok⟩ := z
    dsimp only at h1 h2 h3 hge
    generalize cntI x = cx at h3 hge
    generalize cntI p = cp at h4 hge
    have H1 := Lib.hid h1
    have H2 := Lib.hid h2
    have H3 := Lib.hid h3
    have H4 := Lib.hid h4
    have HG := Lib.hid hge
    clear h1 h2 h3 h4 hge wx wm wp
    go_wp2_with fail
    refine (H1.out _).mono ?_
    rintro e v2 ⟨rfl, hx⟩
    have HB2 := Lib.hid (btr HB1.out hx)
    clear hx
    go_wp2_with fail
    refine (H2.out _).mono ?_
    rintro e v' ⟨rfl, rfl⟩
    go_wp2_with fail
    refine (drawTake_any A n c _ hn2 (HC.out _ HB2.out)).mono ?_
    rintro e v3 ⟨q, rfl, wq, hx⟩
    have HB3 := Lib.hid (btr HB2.out hx)
    clear hx
    have hr : (Lit.int .i64 (takeI q).1).wf = true ∧ ((takeI q).2.2 = true → cntI (takeI q).1 = cntI q - 1 ∧ topI (takeI q).1 < (takeI q).2.1) := by
      by_cases h : topI q < 0
      · rw [take_none h]; exact ⟨wq, fun h => by cases h⟩
      · obtain ⟨f1, f2, f3, f4⟩ := take_facts h
        obtain ⟨f5, f6⟩ := pend_iff.1 f1
        exact ⟨byte_wf f5 f6, fun _ => ⟨f2, by rw [f4]; exact f3⟩⟩
    obtain ⟨wr, hr⟩ := hr
    obtain ⟨hq0, hq1⟩ := cnt_range q
    have h1 := fun V : World => impl_take q V wq
    have h2 := fun V : World => spec_take q V
    have h3 := fun V : World => impl_top q V wq
    have h4 := fun V : World => spec_top q V
    have h5 := fun V : World => impl_cnt q V wq
    have h6 := fun V : World => spec_cnt q V
    have h7 := fun V : World => impl_pend q V wq
    have h8 := fun V : World => spec_pend q V
    have h9 := fun V : World => impl_cnt (takeI q).1 V wr
    have h10 := fun V : World => impl_top (takeI q).1 V wr
    generalize takeI q = z at h1 h2 h9 h10 hr
    obtain ⟨r, k, took⟩ := z
    dsimp only at h1 h2 h9 h10 hr
    generalize topI q = tq at h3 h4
    generalize cntI q = cq at h5 h6 hr hq0 hq1
    generalize pend q = pq at h7 h8
    generalize cntI r = cr at h9 hr
    generalize topI r = tr at h10 hr
    have H11 := Lib.hid h1
    have H12 := Lib.hid h2
    have H13 := Lib.hid h3
    have H14 := Lib.hid h4
    have H15 := Lib.hid h5
    have H16 := Lib.hid h6
    have H17 := Lib.hid h7
    have H18 := Lib.hid h8
    have H19 := Lib.hid h9
    have H20 := Lib.hid h10
    have HR := Lib.hid hr
    clear h1 h2 h3 h4 h5 h6 h7 h8 h9 h10 hr wr wq
    go_wp2_with fail
    refine (H11.out _).mono ?_
    rintro e v4 ⟨rfl, hx⟩
    have HB4 := Lib.hid (btr HB3.out hx)
    clear hx
    go_wp2_with fail
    refine (H12.out _).mono ?_
    rintro e v' ⟨rfl, rfl⟩
    go_wp2_with fail
    refine (drawSplit_any A n c _ hn2 (HC.out _ HB4.out)).mono ?_
    rintro e v5 ⟨a, b, rfl, wa, wb, hx⟩
    have HB5 := Lib.hid (btr HB4.out hx)
    clear hx
    have h1 := fun V : World => impl_split a b V wa wb
    have h2 := fun V : World => spec_split a b V
    generalize splitI a b = z at h1 h2
    obtain ⟨d1, d2⟩ := z
    have h3 := fun V : World => impl_top 5 V (by decide)
    have h4 := fun V : World => impl_cnt 255 V (by decide)
    rw [five] at h3
    rw [all8] at h4
    have H21 := Lib.hid h1
    have H22 := Lib.hid h2
    have H23 := Lib.hid h3
    have H24 := Lib.hid h4
    clear h1 h2 h3 h4 wa wb
    go_wp2_with fail
    refine (H21.out _).mono ?_
    rintro e v6 ⟨rfl, hx⟩
    have HB6 := Lib.hid (btr HB5.out hx)
    clear hx
    go_wp2_with fail
    refine (H22.out _).mono ?_
    rintro e v' ⟨rfl, rfl⟩
    go_wp2_with fail
    refine (H13.out _).mono ?_
    rintro e v7 ⟨rfl, hx⟩
    have HB7 := Lib.hid (btr HB6.out hx)
    clear hx
    go_wp2_with fail
    refine (H14.out _).mono ?_
    rintro e v' ⟨rfl, rfl⟩
    go_wp2_with fail
    refine (H15.out _).mono ?_
    rintro e v8 ⟨rfl, hx⟩
    have HB8 := Lib.hid (btr HB7.out hx)
    clear hx
    go_wp2_with fail
    refine (H16.out _).mono ?_
    rintro e v' ⟨rfl, rfl⟩
    go_wp2_with fail
    refine (H17.out _).mono ?_
    rintro e v9 ⟨rfl, hx⟩
    have HB9 := Lib.hid (btr HB8.out hx)
    clear hx
    go_wp2_with fail
    refine (H18.out _).mono ?_
    rintro e v' ⟨rfl, rfl⟩
    cases took
    · cases ok
      · go_wp2_with fail
        refine (H23.out _).mono ?_
        rintro e v10 ⟨rfl, hx⟩
        have HB10 := Lib.hid (btr HB9.out hx)
        clear hx
        go_wp2_with fail
        refine (H24.out _).mono ?_
        rintro e v11 ⟨rfl, hx⟩
        have HB11 := Lib.hid (btr HB10.out hx)
        clear hx
        go_wp2_with fail
        go_ret
        exact ⟨rfl, HB11.out⟩
      · have hge := HG.out rfl
        go_wp2_with fail
        refine (H3.out _).mono ?_
        rintro e v10 ⟨rfl, hx⟩
        have HB10 := Lib.hid (btr HB9.out hx)
        clear hx
        go_wp2_with fail
        refine (H4.out _).mono ?_
        rintro e v11 ⟨rfl, hx⟩
        have HB11 := Lib.hid (btr HB10.out hx)
        clear hx
        go_wp2_with fail
        refine (H23.out _).mono ?_
        rintro e v12 ⟨rfl, hx⟩
        have HB12 := Lib.hid (btr HB11.out hx)
        clear hx
        go_wp2_with fail
        refine (H24.out _).mono ?_
        rintro e v13 ⟨rfl, hx⟩
        have HB13 := Lib.hid (btr HB12.out hx)
        clear hx
        go_wp2_with fail
        go_ret
        exact ⟨rfl, HB13.out⟩
    · cases ok
      · obtain ⟨hr1, hr2⟩ := HR.out rfl
        subst hr1
        go_wp2_with fail
        refine (H19.out _).mono ?_
        rintro e v10 ⟨rfl, hx⟩
        have HB10 := Lib.hid (btr HB9.out hx)
        clear hx
        go_wp2_with fail
        refine (H15.out _).mono ?_
        rintro e v11 ⟨rfl, hx⟩
        have HB11 := Lib.hid (btr HB10.out hx)
        clear hx
        go_wp2_with fail
        refine (H20.out _).mono ?_
        rintro e v12 ⟨rfl, hx⟩
        have HB12 := Lib.hid (btr HB11.out hx)
        clear hx
        go_wp2_with fail
        refine (H23.out _).mono ?_
        rintro e v13 ⟨rfl, hx⟩
        have HB13 := Lib.hid (btr HB12.out hx)
        clear hx
        go_wp2_with fail
        refine (H24.out _).mono ?_
        rintro e v14 ⟨rfl, hx⟩
        have HB14 := Lib.hid (btr HB13.out hx)
        clear hx
        go_wp2_with fail
        go_ret
        exact ⟨rfl, HB14.out⟩
      · obtain ⟨hr1, hr2⟩ := HR.out rfl
        subst hr1
        have hge := HG.out rfl
        go_wp2_with fail
        refine (H19.out _).mono ?_
        rintro e v10 ⟨rfl, hx⟩
        have HB10 := Lib.hid (btr HB9.out hx)
        clear hx
        go_wp2_with fail
        refine (H15.out _).mono ?_
        rintro e v11 ⟨rfl, hx⟩
        have HB11 := Lib.hid (btr HB10.out hx)
        clear hx
        go_wp2_with fail
        refine (H20.out _).mono ?_
        rintro e v12 ⟨rfl, hx⟩
        have HB12 := Lib.hid (btr HB11.out hx)
        clear hx
        go_wp2_with fail
        refine (H3.out _).mono ?_
        rintro e v13 ⟨rfl, hx⟩
        have HB13 := Lib.hid (btr HB12.out hx)
        clear hx
        go_wp2_with fail
        refine (H4.out _).mono ?_
        rintro e v14 ⟨rfl, hx⟩
        have HB14 := Lib.hid (btr HB13.out hx)
        clear hx
        go_wp2_with fail
        refine (H23.out _).mono ?_
        rintro e v15 ⟨rfl, hx⟩
        have HB15 := Lib.hid (btr HB14.out hx)
        clear hx
        go_wp2_with fail
        refine (H24.out _).mono ?_
        rintro e v16 ⟨rfl, hx⟩
        have HB16 := Lib.hid (btr HB15.out hx)
        clear hx
        go_wp2_with fail
        go_ret
        exact ⟨rfl, HB16.out⟩

/-! ### The row's step -/
set_option maxRecDepth 100000 in
theorem lifted (os : Os) (started : os.Started) (H : Type) (enc : TypeId × Value → H) :
    ReturnsInHanded {} Try.checked os 3 .any (Rows.fnIrqsSpec.pre6 enc Try.prog Try.f3 Rows.fnIrqsRow.domain false) (Rows.fnIrqsSpec.post enc Try.prog Try.f3 false true false false) := by
  refine returnsInHanded_of_change (C := Try.checked) Base.own started (by kernel_rfl) Try.func3
    (ChangeSpec.witness6 (enc := enc) (C := Try.checked) false ⟨#[], #[.slice none 0 0], []⟩ 8 (by kernel_rfl) (by kernel_rfl) (by kernel_rfl) (by kernel_rfl)) ?_
  intro W base args ds gs before hval0 hW hcnd _
  have hval : ∀ (j : Nat) t v, Try.f3.params[j]? = some t → args[j]? = some v → Value.okWide Try.prog W .any base t v := hval0
  have hW' := hW
  obtain ⟨p, q, hA0, hV, rfl, hfz, hnd⟩ := hW
  have hA : DataW.TrodAll enc Try.prog W 0 (fun _ => true) true Try.f3.params.toList args.toList ds p := hA0
  have hA1 := hA
  rw [Try.params3] at hA hval
  obtain ⟨v0, vs0, d0, ds0, p0, q0, hargs, rfl, rfl, h0, r0⟩ := trodAll_cons hA
  obtain ⟨rfl, rfl, rfl⟩ := trodAll_nil r0
  obtain rfl : args = #[v0] := by cases args; simp_all
  obtain ⟨rfl, rfl⟩ := trodVars_none hV
  obtain ⟨A0, n0, c0, rfl, hn0, hcode0, _⟩ := Draw.open_code (hval 0 22 v0 rfl rfl) h0
  clear hA0 hval0
  rw [List.append_nil] at hW'
  refine (walk A0 n0 c0 hn0 hcode0).mono fun e W' ⟨he, hg⟩ => ?_
  subst he
  exact ⟨_, rfl, Mem.post_args Slots.laid (by kernel_rfl) rfl rfl rfl hW' hA1 hg (fun _ _ _ => (trodAll_cons_mk (shut_bool Try.underlying4 _) trodAll_mk0)) (ok_one (by kernel_rfl) rfl (okWide_bool_mk Try.underlying4 _))⟩

theorem over : Rows.fnIrqsRow.holds Try.pinned (OpenSpec.ofChange Rows.fnIrqsSpec) :=
  OpenClaim.holds_of_wide 3 Try.f3 rfl rfl rfl rfl rfl rfl rfl ⟨rfl, rfl, rfl, rfl, rfl⟩ rfl rfl rfl rfl rfl (by kernel_rfl) Try.func3 (by kernel_rfl)
    (of_decide_eq_true (by kernel_rfl)) (by unfold Func.isWrapper; first | (rw [if_pos (by decide +kernel)]; kernel_rfl) | (rw [if_neg (by decide +kernel)]; exact ⟨rfl, rfl⟩))
    (fun os started H enc _ => lifted os started H enc)

/-- The given statement. -/
theorem proved : Rows.FnIrqsSaid :=
  over
#print axioms proved
end Go.Proofs.Ytflnjbcediecjaa.fnIrqs
