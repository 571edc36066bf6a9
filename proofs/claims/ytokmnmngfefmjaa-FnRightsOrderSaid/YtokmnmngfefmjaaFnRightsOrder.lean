/-
  For every slice of bytes the law FnRightsOrder returns true: at three drawn sets of rights Enough is reflexive and transitive and holds of the intersection, and BothRights is associative with all rights as its unit. No condition.
-/
import Derived.Test.YtokmnmngfefmjaaRights
import Derived.Test.YtokmnmngfefmjaaPlaces
import Derived.Test.YtokmnmngfefmjaaBig
namespace Go.Proofs.Ytokmnmngfefmjaa.fnRightsOrder
open Go.ChangeShapes Go.WideShapes Go.ChangeAt Go.RowKit
open Go.Proofs.Ytokmnmngfefmjaa.Base Go.Proofs.Ytokmnmngfefmjaa.Rights Go.Proofs.Ytokmnmngfefmjaa.Draw
set_option linter.unusedVariables false

theorem wf4 {x : Int} (h : 0 ≤ x ∧ x ≤ 3) : (Lit.int .i64 x).wf = true := by
  have : x = 0 ∨ x = 1 ∨ x = 2 ∨ x = 3 := by omega
  rcases this with rfl | rfl | rfl | rfl <;> decide

set_option maxRecDepth 100000 in
set_option maxHeartbeats 4000000 in
theorem walk (A : Option Addr) (n c : Nat) (hn : n ≤ maxLen) {w : World} (hcode : CodeAt w A n) :
    Calls Try.prog 4 #[.slice A n c] w fun e w' => e = .returned (.bool true) ∧ Below w.heap.size w w' := by
  have hn' : n ≤ 9223372036854775807 := hn
  have HC := Lib.hid hcode
  clear hcode hn
  by_cases h1 : 1048576 < n
  · go_enter Try.func4, Try.ntmps4
    go_wp2_with (go_at_call 10; refine (big_yes A n c _ hn' h1).mono ?_; rintro e w' ⟨rfl, rfl⟩)
    go_ret
    exact ⟨rfl, Below.refl _ _⟩
  · have hn2 : n ≤ 1048576 := by omega
    clear h1 hn'
    go_enter Try.func4, Try.ntmps4
    go_wp2_with (go_at_call 10; refine (big_no A n c _ hn2).mono ?_; rintro e w' ⟨rfl, rfl⟩)
    refine (places_any A n c _ hn2 HC.out).mono ?_
    rintro e w1 ⟨g, cap, l, rfl, hl, hall, hown, hb1⟩
    obtain ⟨p0, p1, p2, p3, p4, p5, p6, p7, p8, p9, p10, p11, rfl⟩ := list12 hl
    obtain ⟨r00, r01⟩ := hall p0 (by simp)
    obtain ⟨r10, r11⟩ := hall p1 (by simp)
    obtain ⟨r20, r21⟩ := hall p2 (by simp)
    have k0 : w1.cell? ⟨g, 0, none⟩ = some (.int .i64 p0) := hown.cellAt 0 (by omega)
    have k1 : w1.cell? ⟨g, 1, none⟩ = some (.int .i64 p1) := hown.cellAt 1 (by omega)
    have k2 : w1.cell? ⟨g, 2, none⟩ = some (.int .i64 p2) := hown.cellAt 2 (by omega)
    clear hall hown hl HC
    have t0 : p0.tmod 4 = p0 % 4 := Int.tmod_eq_emod_of_nonneg r00
    have t1 : p1.tmod 4 = p1 % 4 := Int.tmod_eq_emod_of_nonneg r10
    have t2 : p2.tmod 4 = p2 % 4 := Int.tmod_eq_emod_of_nonneg r20
    have q0 : 0 ≤ p0 % 4 ∧ p0 % 4 ≤ 3 := by omega
    have q1 : 0 ≤ p1 % 4 ∧ p1 % 4 ≤ 3 := by omega
    have q2 : 0 ≤ p2 % 4 ∧ p2 % 4 ≤ 3 := by omega
    have Q := Lib.hid (And.intro q0 (And.intro q1 q2))
    clear q0 q1 q2
    go_wp2_with fail
    go_quiet (fail)
    clear t0 t1 t2 k0 k1 k2
    have hbq : Below w1.heap.size w1 (w1.drewN nq) := below_drewN (Below.refl _ _) _
    have HB := Lib.hid (hb1.trans (hbq.mono hb1.size))
    clear hbq hb1
    generalize p0 % 4 = a at Q ⊢
    generalize p1 % 4 = b at Q ⊢
    generalize p2 % 4 = c at Q ⊢
    generalize w1.drewN nq = w2 at HB ⊢
    obtain ⟨qa, qb, qc⟩ := Q.out
    obtain ⟨h1, h2, h3, h4, h5⟩ := order_laws qa qb qc
    have va := wf4 qa
    have vb := wf4 qb
    have vc := wf4 qc
    have kab := fun V : World => impl_enough a b V va vb
    have kbc := fun V : World => impl_enough b c V vb vc
    have kac := fun V : World => impl_enough a c V va vc
    have kaa := fun V : World => impl_enough a a V va va
    have km := fun V : World => impl_both a b V va vb
    have kam := fun V : World => impl_enough a (both a b) V va (wf_both a b)
    have kmc := fun V : World => impl_both (both a b) c V (wf_both a b) vc
    have ku := fun V : World => impl_both b c V vb vc
    have kau := fun V : World => impl_both a (both b c) V va (wf_both b c)
    have k3 := fun V : World => impl_both 3 a V (by decide) va
    rw [h2] at kaa
    rw [h3] at kam
    rw [h4] at kmc
    rw [h5] at k3
    generalize both a (both b c) = s at kmc kau
    generalize both a b = m at km kam kmc
    generalize both b c = u at ku kau
    have T := Lib.hid (And.intro kaa (And.intro km (And.intro kam (And.intro kmc (And.intro ku (And.intro kau k3))))))
    clear h2 h3 h4 h5 kaa km kam kmc ku kau k3 va vb vc qa qb qc Q r00 r01 r10 r11 r20 r21
    cases eab : enough a b
    · rw [eab] at kab
      have K1 := Lib.hid kab
      clear kab kbc kac h1 eab
      go_wp2_with fail
      refine (K1.out _).mono ?_
      rintro e w' ⟨rfl, rfl⟩
      go_wp2_with fail
      refine (T.out.1 _).mono ?_
      rintro e w' ⟨rfl, rfl⟩
      go_wp2_with fail
      refine (T.out.2.1 _).mono ?_
      rintro e w' ⟨rfl, rfl⟩
      go_wp2_with fail
      refine (T.out.2.2.1 _).mono ?_
      rintro e w' ⟨rfl, rfl⟩
      go_wp2_with fail
      refine (T.out.2.1 _).mono ?_
      rintro e w' ⟨rfl, rfl⟩
      go_wp2_with fail
      refine (T.out.2.2.2.1 _).mono ?_
      rintro e w' ⟨rfl, rfl⟩
      go_wp2_with fail
      refine (T.out.2.2.2.2.1 _).mono ?_
      rintro e w' ⟨rfl, rfl⟩
      go_wp2_with fail
      refine (T.out.2.2.2.2.2.1 _).mono ?_
      rintro e w' ⟨rfl, rfl⟩
      go_wp2_with fail
      refine (T.out.2.2.2.2.2.2 _).mono ?_
      rintro e w' ⟨rfl, rfl⟩
      go_wp2_with fail
      go_ret
      exact ⟨rfl, HB.out⟩
    · rw [eab] at kab h1
      cases ebc : enough b c
      · rw [ebc] at kbc
        have K1 := Lib.hid kab
        have K2 := Lib.hid kbc
        clear kab kbc kac h1 eab ebc
        go_wp2_with fail
        refine (K1.out _).mono ?_
        rintro e w' ⟨rfl, rfl⟩
        go_wp2_with fail
        refine (K2.out _).mono ?_
        rintro e w' ⟨rfl, rfl⟩
        go_wp2_with fail
        refine (T.out.1 _).mono ?_
        rintro e w' ⟨rfl, rfl⟩
        go_wp2_with fail
        refine (T.out.2.1 _).mono ?_
        rintro e w' ⟨rfl, rfl⟩
        go_wp2_with fail
        refine (T.out.2.2.1 _).mono ?_
        rintro e w' ⟨rfl, rfl⟩
        go_wp2_with fail
        refine (T.out.2.1 _).mono ?_
        rintro e w' ⟨rfl, rfl⟩
        go_wp2_with fail
        refine (T.out.2.2.2.1 _).mono ?_
        rintro e w' ⟨rfl, rfl⟩
        go_wp2_with fail
        refine (T.out.2.2.2.2.1 _).mono ?_
        rintro e w' ⟨rfl, rfl⟩
        go_wp2_with fail
        refine (T.out.2.2.2.2.2.1 _).mono ?_
        rintro e w' ⟨rfl, rfl⟩
        go_wp2_with fail
        refine (T.out.2.2.2.2.2.2 _).mono ?_
        rintro e w' ⟨rfl, rfl⟩
        go_wp2_with fail
        go_ret
        exact ⟨rfl, HB.out⟩
      · rw [ebc] at kbc h1
        have eac : enough a c = true := by simpa using h1
        rw [eac] at kac
        have K1 := Lib.hid kab
        have K2 := Lib.hid kbc
        have K3 := Lib.hid kac
        clear kab kbc kac h1 eab ebc eac
        go_wp2_with fail
        refine (K1.out _).mono ?_
        rintro e w' ⟨rfl, rfl⟩
        go_wp2_with fail
        refine (K2.out _).mono ?_
        rintro e w' ⟨rfl, rfl⟩
        go_wp2_with fail
        refine (K3.out _).mono ?_
        rintro e w' ⟨rfl, rfl⟩
        go_wp2_with fail
        refine (T.out.1 _).mono ?_
        rintro e w' ⟨rfl, rfl⟩
        go_wp2_with fail
        refine (T.out.2.1 _).mono ?_
        rintro e w' ⟨rfl, rfl⟩
        go_wp2_with fail
        refine (T.out.2.2.1 _).mono ?_
        rintro e w' ⟨rfl, rfl⟩
        go_wp2_with fail
        refine (T.out.2.1 _).mono ?_
        rintro e w' ⟨rfl, rfl⟩
        go_wp2_with fail
        refine (T.out.2.2.2.1 _).mono ?_
        rintro e w' ⟨rfl, rfl⟩
        go_wp2_with fail
        refine (T.out.2.2.2.2.1 _).mono ?_
        rintro e w' ⟨rfl, rfl⟩
        go_wp2_with fail
        refine (T.out.2.2.2.2.2.1 _).mono ?_
        rintro e w' ⟨rfl, rfl⟩
        go_wp2_with fail
        refine (T.out.2.2.2.2.2.2 _).mono ?_
        rintro e w' ⟨rfl, rfl⟩
        go_wp2_with fail
        go_ret
        exact ⟨rfl, HB.out⟩

/-! ### The row's step -/
set_option maxRecDepth 100000 in
theorem lifted (os : Os) (started : os.Started) (H : Type) (enc : TypeId × Value → H) :
    ReturnsInHanded {} Try.checked os 4 .any (Rows.fnRightsOrderSpec.pre6 enc Try.prog Try.f4 Rows.fnRightsOrderRow.domain false) (Rows.fnRightsOrderSpec.post enc Try.prog Try.f4 false true false false) := by
  refine returnsInHanded_of_change (C := Try.checked) Base.own started (by kernel_rfl) Try.func4
    (ChangeSpec.witness6 (enc := enc) (C := Try.checked) false ⟨#[], #[.slice none 0 0], []⟩ 8 (by kernel_rfl) (by kernel_rfl) (by kernel_rfl) (by kernel_rfl)) ?_
  intro W base args ds gs before hval0 hW hcnd _
  have hval : ∀ (j : Nat) t v, Try.f4.params[j]? = some t → args[j]? = some v → Value.okWide Try.prog W .any base t v := hval0
  have hW' := hW
  obtain ⟨p, q, hA0, hV, rfl, hfz, hnd⟩ := hW
  have hA : DataW.TrodAll enc Try.prog W 0 (fun _ => true) true Try.f4.params.toList args.toList ds p := hA0
  rw [Try.params4] at hA hval
  obtain ⟨v0, vs0, d0, ds0, p0, q0, hargs, rfl, rfl, h0, r0⟩ := trodAll_cons hA
  obtain ⟨rfl, rfl, rfl⟩ := trodAll_nil r0
  obtain rfl : args = #[v0] := by cases args; simp_all
  obtain ⟨rfl, rfl⟩ := trodVars_none hV
  obtain ⟨A0, n0, c0, rfl, hn0, hcode0, back0⟩ := Draw.open_code (hval 0 22 v0 rfl rfl) h0
  clear hA0 hval0
  simp only [List.append_nil] at hW'
  refine (walk A0 n0 c0 hn0 hcode0).mono fun e W' ⟨he, hg⟩ => ?_
  subst he
  exact ⟨_, rfl, Base.post_kept rfl rfl hW' hg (fun _ _ _ => (trodAll_cons_mk (shut_bool Try.underlying4 _) trodAll_mk0)) (fun sp hsp => by have hx := (trodAll_cons_mk (back0 W' hg sp (fun q hq => hsp q (by simp [hq]))) trodAll_mk0); simp only [List.append_nil] at hx; exact hx) (ok_one (by kernel_rfl) rfl (okWide_bool_mk Try.underlying4 _))⟩

theorem over : Rows.fnRightsOrderRow.holds Try.pinned (OpenSpec.ofChange Rows.fnRightsOrderSpec) :=
  OpenClaim.holds_of_wide 4 Try.f4 rfl rfl rfl rfl rfl rfl rfl ⟨rfl, rfl, rfl, rfl, rfl⟩ rfl rfl rfl rfl rfl (by kernel_rfl) Try.func4 (by kernel_rfl)
    (of_decide_eq_true (by kernel_rfl)) (by unfold Func.isWrapper; first | (rw [if_pos (by decide +kernel)]; kernel_rfl) | (rw [if_neg (by decide +kernel)]; exact ⟨rfl, rfl⟩))
    (fun os started H enc _ => lifted os started H enc)

/-- The given statement. -/
theorem proved : Rows.FnRightsOrderSaid :=
  over
#print axioms proved
end Go.Proofs.Ytokmnmngfefmjaa.fnRightsOrder
