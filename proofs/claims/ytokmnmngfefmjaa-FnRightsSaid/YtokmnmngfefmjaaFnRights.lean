/-
  For every slice of bytes the law FnRights returns true: at the numbers drawn from it BothRights is as the given model's, does not depend on the order, and is contained in both; Enough, NeedOf, RightsText and RightsOk answer as the given model's. No condition.
-/
import Derived.Test.YtokmnmngfefmjaaRights
import Derived.Test.YtokmnmngfefmjaaRightsDraw
import Derived.Test.YtokmnmngfefmjaaBig
namespace Go.Proofs.Ytokmnmngfefmjaa.fnRights
open Go.ChangeShapes Go.WideShapes Go.ChangeAt Go.RowKit
open Go.Proofs.Ytokmnmngfefmjaa.Base Go.Proofs.Ytokmnmngfefmjaa.Rights Go.Proofs.Ytokmnmngfefmjaa.Draw
set_option linter.unusedVariables false

theorem text3 : text 3 = ⟨#[114, 119]⟩ := rfl
theorem btr {a b c : World} (h : Below a.heap.size a b) (k : Below b.heap.size b c) : Below a.heap.size a c := h.trans (k.mono h.size)

set_option maxRecDepth 100000 in
set_option maxHeartbeats 4000000 in
theorem walk (A : Option Addr) (n c : Nat) (hn : n ≤ maxLen) {w : World} (hcode : CodeAt w A n) :
    Calls Try.prog 3 #[.slice A n c] w fun e w' => e = .returned (.bool true) ∧ Below w.heap.size w w' := by
  have hn' : n ≤ 9223372036854775807 := hn
  have HC := Lib.hid hcode
  clear hcode hn
  by_cases h1 : 1048576 < n
  · go_enter Try.func3, Try.ntmps3
    go_wp2_with (go_at_call 10; refine (big_yes A n c _ hn' h1).mono ?_; rintro e w' ⟨rfl, rfl⟩)
    go_ret
    exact ⟨rfl, Below.refl _ _⟩
  · have hn2 : n ≤ 1048576 := by omega
    clear h1 hn'
    go_enter Try.func3, Try.ntmps3
    go_wp2_with (go_at_call 10; refine (big_no A n c _ hn2).mono ?_; rintro e w' ⟨rfl, rfl⟩)
    refine (drawBoth_any A n c _ hn2 HC.out).mono ?_
    rintro e w1 ⟨a, b, rfl, ha, hb, hb1⟩
    have HA := Lib.hid ha
    have HB := Lib.hid hb
    have K1 := fun V : World => impl_both a b V ha hb
    have K2 := fun V : World => impl_both b a V hb ha
    have K3 := fun V : World => spec_both a b V
    have hen := enough_both a b
    have hwf := wf_both a b
    rw [both_comm b a] at K2
    generalize both a b = r at K1 K2 K3 hen hwf
    have K4 := fun V : World => impl_enough a r V ha hwf
    have K5 := fun V : World => impl_enough b r V hb hwf
    have HK := Lib.hid (And.intro K1 (And.intro K2 (And.intro K3 (And.intro K4 K5))))
    have HE := Lib.hid hen
    have HC1 := Lib.hid (HC.out.below hb1)
    clear K1 K2 K3 K4 K5 hen hwf ha hb HC
    go_wp2_with fail
    refine (HK.out.1 _).mono ?_
    rintro e w' ⟨rfl, rfl⟩
    go_wp2_with fail
    refine (drawEnough_any A n c _ hn2 HC1.out).mono ?_
    rintro e w2 ⟨x, y, rfl, hx, hy, hb2⟩
    have HX := Lib.hid hx
    have HY := Lib.hid hy
    have HC2 := Lib.hid (HC1.out.below hb2)
    clear hx hy
    go_wp2_with fail
    refine (drawNeed_any A n c _ hn2 HC2.out).mono ?_
    rintro e w3 ⟨q, rfl, hb3⟩
    have HC3 := Lib.hid (HC2.out.below hb3)
    go_wp2_with fail
    refine (drawText_any A n c _ hn2 HC3.out).mono ?_
    rintro e w4 ⟨t, rfl, ht, hb4⟩
    have HT := Lib.hid ht
    have hB4 := Lib.hid (btr (btr (btr hb1 hb2) hb3) hb4)
    clear ht hb1 hb2 hb3 hb4 HC1 HC2 HC3
    go_wp2_with fail
    refine (HK.out.2.2.1 _).mono ?_
    rintro e w' ⟨rfl, rfl⟩
    go_wp2_with fail
    refine (HK.out.2.1 _).mono ?_
    rintro e w' ⟨rfl, rfl⟩
    have k3 := fun V : World => impl_text 3 V (by decide)
    rw [text3] at k3
    have K3 := Lib.hid k3
    have k32 := fun V : World => impl_enough 3 2 V (by decide) (by decide)
    rw [enough_32] at k32
    have K32 := Lib.hid k32
    clear k3 k32
    by_cases h0 : r = 0
    · subst h0
      go_wp2_with fail
      refine (impl_enough x y _ HX.out HY.out).mono ?_
      rintro e w' ⟨rfl, rfl⟩
      go_wp2_with fail
      refine (spec_enough x y _).mono ?_
      rintro e w' ⟨rfl, rfl⟩
      go_wp2_with fail
      refine (impl_need q _).mono ?_
      rintro e w' ⟨rfl, rfl⟩
      go_wp2_with fail
      refine (spec_need q _).mono ?_
      rintro e w' ⟨rfl, rfl⟩
      go_wp2_with fail
      refine (impl_text t _ HT.out).mono ?_
      rintro e w5 ⟨rfl, hb5⟩
      go_wp2_with fail
      refine (spec_text t _).mono ?_
      rintro e w6 ⟨rfl, hb6⟩
      go_wp2_with fail
      refine (impl_ok t _ HT.out).mono ?_
      rintro e w' ⟨rfl, rfl⟩
      go_wp2_with fail
      refine (spec_ok t _).mono ?_
      rintro e w' ⟨rfl, rfl⟩
      go_wp2_with fail
      refine (K3.out _).mono ?_
      rintro e w7 ⟨rfl, hb7⟩
      go_wp2_with fail
      refine (K32.out _).mono ?_
      rintro e w' ⟨rfl, rfl⟩
      go_wp2_with fail
      go_ret
      exact ⟨rfl, btr (btr (btr hB4.out hb5) hb6) hb7⟩
    · have hr : (r == 0) = false := by simpa using h0
      obtain ⟨e1, e2⟩ := HE.out h0
      have k4 := HK.out.2.2.2.1
      have k5 := HK.out.2.2.2.2
      rw [e1] at k4
      rw [e2] at k5
      have K4 := Lib.hid k4
      have K5 := Lib.hid k5
      clear k4 k5 e1 e2 h0
      go_wp2_with fail
      refine (K4.out _).mono ?_
      rintro e w' ⟨rfl, rfl⟩
      go_wp2_with fail
      refine (K5.out _).mono ?_
      rintro e w' ⟨rfl, rfl⟩
      go_wp2_with fail
      refine (impl_enough x y _ HX.out HY.out).mono ?_
      rintro e w' ⟨rfl, rfl⟩
      go_wp2_with fail
      refine (spec_enough x y _).mono ?_
      rintro e w' ⟨rfl, rfl⟩
      go_wp2_with fail
      refine (impl_need q _).mono ?_
      rintro e w' ⟨rfl, rfl⟩
      go_wp2_with fail
      refine (spec_need q _).mono ?_
      rintro e w' ⟨rfl, rfl⟩
      go_wp2_with fail
      refine (impl_text t _ HT.out).mono ?_
      rintro e w5 ⟨rfl, hb5⟩
      go_wp2_with fail
      refine (spec_text t _).mono ?_
      rintro e w6 ⟨rfl, hb6⟩
      go_wp2_with fail
      refine (impl_ok t _ HT.out).mono ?_
      rintro e w' ⟨rfl, rfl⟩
      go_wp2_with fail
      refine (spec_ok t _).mono ?_
      rintro e w' ⟨rfl, rfl⟩
      go_wp2_with fail
      refine (K3.out _).mono ?_
      rintro e w7 ⟨rfl, hb7⟩
      go_wp2_with fail
      refine (K32.out _).mono ?_
      rintro e w' ⟨rfl, rfl⟩
      go_wp2_with fail
      go_ret
      exact ⟨rfl, btr (btr (btr hB4.out hb5) hb6) hb7⟩

/-! ### The row's step -/
set_option maxRecDepth 100000 in
theorem lifted (os : Os) (started : os.Started) (H : Type) (enc : TypeId × Value → H) :
    ReturnsInHanded {} Try.checked os 3 .any (Rows.fnRightsSpec.pre6 enc Try.prog Try.f3 Rows.fnRightsRow.domain false) (Rows.fnRightsSpec.post enc Try.prog Try.f3 false true false false) := by
  refine returnsInHanded_of_change (C := Try.checked) Base.own started (by kernel_rfl) Try.func3
    (ChangeSpec.witness6 (enc := enc) (C := Try.checked) false ⟨#[], #[.slice none 0 0], []⟩ 8 (by kernel_rfl) (by kernel_rfl) (by kernel_rfl) (by kernel_rfl)) ?_
  intro W base args ds gs before hval0 hW hcnd _
  have hval : ∀ (j : Nat) t v, Try.f3.params[j]? = some t → args[j]? = some v → Value.okWide Try.prog W .any base t v := hval0
  have hW' := hW
  obtain ⟨p, q, hA0, hV, rfl, hfz, hnd⟩ := hW
  have hA : DataW.TrodAll enc Try.prog W 0 (fun _ => true) true Try.f3.params.toList args.toList ds p := hA0
  rw [Try.params3] at hA hval
  obtain ⟨v0, vs0, d0, ds0, p0, q0, hargs, rfl, rfl, h0, r0⟩ := trodAll_cons hA
  obtain ⟨rfl, rfl, rfl⟩ := trodAll_nil r0
  obtain rfl : args = #[v0] := by cases args; simp_all
  obtain ⟨rfl, rfl⟩ := trodVars_none hV
  obtain ⟨A0, n0, c0, rfl, hn0, hcode0, back0⟩ := Draw.open_code (hval 0 22 v0 rfl rfl) h0
  clear hA0 hval0
  simp only [List.append_nil] at hW'
  refine (walk A0 n0 c0 hn0 hcode0).mono fun e W' ⟨he, hg⟩ => ?_
  subst he
  exact ⟨_, rfl, Base.post_kept rfl rfl hW' hg (fun _ _ _ => (trodAll_cons_mk (shut_bool Try.underlying4 _) trodAll_mk0)) (fun sp hsp => by have hx := (trodAll_cons_mk (back0 W' hg sp (fun q hq => hsp q (by simp [hq]))) trodAll_mk0); simp only [List.append_nil] at hx; exact hx) (ok_one (by kernel_rfl) rfl (okWide_bool_mk Try.underlying4 _))⟩

theorem over : Rows.fnRightsRow.holds Try.pinned (OpenSpec.ofChange Rows.fnRightsSpec) :=
  OpenClaim.holds_of_wide 3 Try.f3 rfl rfl rfl rfl rfl rfl rfl ⟨rfl, rfl, rfl, rfl, rfl⟩ rfl rfl rfl rfl rfl (by kernel_rfl) Try.func3 (by kernel_rfl)
    (of_decide_eq_true (by kernel_rfl)) (by unfold Func.isWrapper; first | (rw [if_pos (by decide +kernel)]; kernel_rfl) | (rw [if_neg (by decide +kernel)]; exact ⟨rfl, rfl⟩))
    (fun os started H enc _ => lifted os started H enc)

/-- The given statement. -/
theorem proved : Rows.FnRightsSaid :=
  over
#print axioms proved
end Go.Proofs.Ytokmnmngfefmjaa.fnRights
