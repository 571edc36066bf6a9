/-
  For every slice of bytes the law FnMergeLaws returns true: blocks are merged in any order, and with nothing a block is itself. No condition.
-/
import Derived.Test.YtgpckcdkehmpiaaCtlImpl
import Derived.Test.YtgpckcdkehmpiaaOwnImpl
import Derived.Test.YtgpckcdkehmpiaaPlaces
import Derived.Test.YtgpckcdkehmpiaaCode
import Derived.Test.YtgpckcdkehmpiaaBig
namespace Go.Proofs.Ytgpckcdkehmpiaa.fnMergeLaws
set_option maxRecDepth 100000
open Go.ChangeShapes Go.WideShapes Go.ChangeAt Go.RowKit
open Go.Proofs.Ytgpckcdkehmpiaa.Base Go.Proofs.Ytgpckcdkehmpiaa.Mem Go.Proofs.Ytgpckcdkehmpiaa.Slots Go.Proofs.Ytgpckcdkehmpiaa.Ints Go.Proofs.Ytgpckcdkehmpiaa.Draw Go.Proofs.Ytgpckcdkehmpiaa.Ctls Go.Proofs.Ytgpckcdkehmpiaa.Owns
set_option linter.unusedVariables false
set_option linter.unusedSimpArgs false

theorem pcell {w : World} {base g n c : Nat} {e : TypeId} {l : List Int} (h : w.ownsRow base e 1 (.slice (some ⟨g, 0, none⟩) n c) n (icells l)) (k : Nat) (hk : k < l.length) : w.cell? ⟨g, k, none⟩ = some (.int .i64 l[k]) := by
  have hl := h.1
  simp only [icells, List.length_map] at hl
  rw [h.cellAt k (by omega)]
  simp [icells, hk]
theorem rem4 (q : Int) (h0 : 0 ≤ q) : 0 ≤ q.tmod 4 ∧ q.tmod 4 ≤ 3 := by
  rw [Int.tmod_eq_emod_of_nonneg h0]; have := Int.emod_lt_of_pos q (show (0 : Int) < 4 by omega); have := Int.emod_nonneg q (show (4 : Int) ≠ 0 by omega); omega
theorem four {a : Int} (h : 0 ≤ a ∧ a ≤ 3) : a = 0 ∨ a = 1 ∨ a = 2 ∨ a = 3 := by omega
theorem wf_four {a : Int} (h : 0 ≤ a ∧ a ≤ 3) : (Lit.int .i64 a).wf = true := by rcases four h with rfl | rfl | rfl | rfl <;> decide
def merges (a b c : Int) : Bool :=
  mergeT b a == mergeT a b && mergeT a (mergeT b c) == mergeT (mergeT a b) c && mergeT a 0 == a && mergeT a a == a && (hasTrap (mergeT a b) 1 == (hasTrap a 1 || hasTrap b 1)) &&
    ((ownerOf a b 2 == 0) == !hasTrap (mergeT a b) 2) && (Lit.int .i64 (mergeT a b)).wf && (Lit.int .i64 (mergeT b c)).wf
theorem merges_all : ∀ a b c : Fin 4, merges (a.val : Int) (b.val : Int) (c.val : Int) = true := by decide +kernel
theorem merges_yes {a b c : Int} (ha : 0 ≤ a ∧ a ≤ 3) (hb : 0 ≤ b ∧ b ≤ 3) (hc : 0 ≤ c ∧ c ≤ 3) : merges a b c = true := by
  obtain ⟨x, rfl⟩ := Int.eq_ofNat_of_zero_le ha.1
  obtain ⟨y, rfl⟩ := Int.eq_ofNat_of_zero_le hb.1
  obtain ⟨z, rfl⟩ := Int.eq_ofNat_of_zero_le hc.1
  exact merges_all ⟨x, by omega⟩ ⟨y, by omega⟩ ⟨z, by omega⟩

set_option maxRecDepth 100000 in
set_option maxHeartbeats 8000000 in
theorem walk (A : Option Addr) (n c : Nat) (hn : n ≤ maxLen) {w : World} (hcode : CodeAt w A n) :
    Calls Try.prog 4 #[.slice A n c] w fun e w' => e = .returned (.bool true) ∧ Below w.heap.size w w' := by
  have hn' : n ≤ 9223372036854775807 := hn
  have HC := Lib.hid (show ∀ W, Below w.heap.size w W → CodeAt W A n from fun W hb => hcode.below hb)
  clear hcode hn
  by_cases h1 : 1048576 < n
  · go_enter Try.func4, Try.ntmps4
    go_wp2_with (go_at_call 10; refine (big_yes A n c _ hn' h1).mono ?_; rintro e w' ⟨rfl, rfl⟩)
    go_ret
    exact ⟨rfl, Below.refl _ _⟩
  · have hn2 : n ≤ 1048576 := by omega
    clear h1 hn'
    go_enter Try.func4, Try.ntmps4
    go_wp2_with (go_at_call 10; refine (big_no A n c _ hn2).mono ?_; rintro e w' ⟨rfl, rfl⟩)
    refine (places_any A n c _ hn2 (HC.out _ (Below.refl _ _))).mono ?_
    rintro e w1 ⟨gp, capp, l, rfl, hl, hall, hown, hb1⟩
    obtain ⟨q0, q1, q2, q3, q4, q5, q6, q7, q8, q9, q10, q11, rfl⟩ := list12 hl
    have ha := rem4 q0 (hall q0 (by simp)).1
    have hb := rem4 q1 (hall q1 (by simp)).1
    have hc := rem4 q2 (hall q2 (by simp)).1
    have x0 := pcell hown 0 (by simp)
    have x1 := pcell hown 1 (by simp)
    have x2 := pcell hown 2 (by simp)
    simp only [List.getElem_cons_zero, List.getElem_cons_succ] at x0 x1 x2
    have HB0 := Lib.hid hb1
    obtain ⟨a, hq0⟩ : ∃ a, q0.tmod 4 = a := ⟨_, rfl⟩
    obtain ⟨b, hq1⟩ : ∃ a, q1.tmod 4 = a := ⟨_, rfl⟩
    obtain ⟨d, hq2⟩ : ∃ a, q2.tmod 4 = a := ⟨_, rfl⟩
    rw [hq0] at ha
    rw [hq1] at hb
    rw [hq2] at hc
    have hm := merges_yes ha hb hc
    unfold merges at hm
    simp only [Bool.and_eq_true, beq_iff_eq] at hm
    obtain ⟨⟨⟨⟨⟨⟨⟨m1, m2⟩, m3⟩, m4⟩, m5⟩, m6⟩, m7⟩, m8⟩ := hm
    have wa := wf_four ha
    have wb := wf_four hb
    have wd := wf_four hc
    have h1 := fun V : World => impl_mergeT a b V wa wb
    have h2 := fun V : World => impl_mergeT b a V wb wa
    have h3 := fun V : World => impl_mergeT b d V wb wd
    have h4 := fun V : World => impl_mergeT a (mergeT b d) V wa m8
    have h5 := fun V : World => impl_mergeT (mergeT a b) d V m7 wd
    have h6 := fun V : World => impl_mergeT a 0 V wa (by decide)
    have h7 := fun V : World => impl_mergeT a a V wa wa
    have h8 := fun V : World => impl_hasTrap (mergeT a b) 1 V m7 (by decide)
    have h9 := fun V : World => impl_hasTrap a 1 V wa (by decide)
    have ha1 := fun V : World => impl_hasTrap b 1 V wb (by decide)
    have ha2 := fun V : World => impl_ownerOf a b 2 V wa wb (by decide)
    have ha3 := fun V : World => impl_hasTrap (mergeT a b) 2 V m7 (by decide)
    rw [m1] at h2
    rw [m2] at h4
    rw [m3] at h6
    rw [m4] at h7
    rw [m5] at h8
    generalize hasTrap (mergeT a b) 2 = z at ha3 m6
    generalize mergeT (mergeT a b) d = p at h4 h5
    generalize mergeT b d = r at h3 h4
    generalize mergeT a b = m at h1 h2 h5 h8 ha3
    generalize hasTrap a 1 = u at h8 h9
    generalize hasTrap b 1 = v at h8 ha1
    generalize ownerOf a b 2 = k at ha2 m6
    have H1 := Lib.hid h1
    have H2 := Lib.hid h2
    have H3 := Lib.hid h3
    have H4 := Lib.hid h4
    have H5 := Lib.hid h5
    have H6 := Lib.hid h6
    have H7 := Lib.hid h7
    have H8 := Lib.hid h8
    have H9 := Lib.hid h9
    have H10 := Lib.hid ha1
    have H11 := Lib.hid ha2
    have H12 := Lib.hid ha3
    clear h1 h2 h3 h4 h5 h6 h7 h8 h9 ha1 ha2 ha3 m1 m2 m3 m4 m5 m7 m8 wa wb wd ha hb hc hall hown hl HC hb1
    go_wp2_with fail
    go_quiet (fail)
    rename Nat => nq1
    have HBs0 := Lib.hid (below_drewN HB0.out nq1)
    generalize w1.drewN nq1 = V0 at HBs0 ⊢
    clear HB0
    clear x0 x1 x2 hq0 hq1 hq2
    go_wp2_with fail
    refine (H1.out _).mono ?_
    rintro e v1 ⟨rfl, hx⟩
    have HBs1 := Lib.hid (btr HBs0.out hx)
    clear hx
    go_wp2_with fail
    refine (H2.out _).mono ?_
    rintro e v2 ⟨rfl, hx⟩
    have HBs2 := Lib.hid (btr HBs1.out hx)
    clear hx
    go_wp2_with fail
    refine (H3.out _).mono ?_
    rintro e v3 ⟨rfl, hx⟩
    have HBs3 := Lib.hid (btr HBs2.out hx)
    clear hx
    go_wp2_with fail
    refine (H4.out _).mono ?_
    rintro e v4 ⟨rfl, hx⟩
    have HBs4 := Lib.hid (btr HBs3.out hx)
    clear hx
    go_wp2_with fail
    refine (H1.out _).mono ?_
    rintro e v5 ⟨rfl, hx⟩
    have HBs5 := Lib.hid (btr HBs4.out hx)
    clear hx
    go_wp2_with fail
    refine (H5.out _).mono ?_
    rintro e v6 ⟨rfl, hx⟩
    have HBs6 := Lib.hid (btr HBs5.out hx)
    clear hx
    go_wp2_with fail
    refine (H6.out _).mono ?_
    rintro e v7 ⟨rfl, hx⟩
    have HBs7 := Lib.hid (btr HBs6.out hx)
    clear hx
    go_wp2_with fail
    refine (H7.out _).mono ?_
    rintro e v8 ⟨rfl, hx⟩
    have HBs8 := Lib.hid (btr HBs7.out hx)
    clear hx
    go_wp2_with fail
    refine (H1.out _).mono ?_
    rintro e v9 ⟨rfl, hx⟩
    have HBs9 := Lib.hid (btr HBs8.out hx)
    clear hx
    go_wp2_with fail
    refine (H8.out _).mono ?_
    rintro e v10 ⟨rfl, hx⟩
    have HBs10 := Lib.hid (btr HBs9.out hx)
    clear hx
    go_wp2_with fail
    refine (H9.out _).mono ?_
    rintro e v11 ⟨rfl, hx⟩
    have HBs11 := Lib.hid (btr HBs10.out hx)
    clear hx
    cases u
    · go_wp2_with fail
      refine (H10.out _).mono ?_
      rintro e v12 ⟨rfl, hx⟩
      have HBs12 := Lib.hid (btr HBs11.out hx)
      clear hx
      cases v
      all_goals
        go_wp2_with fail
        refine (H11.out _).mono ?_
        rintro e v13 ⟨rfl, hx⟩
        have HBs13 := Lib.hid (btr HBs12.out hx)
        clear hx
        go_wp2_with fail
        refine (H1.out _).mono ?_
        rintro e v14 ⟨rfl, hx⟩
        have HBs14 := Lib.hid (btr HBs13.out hx)
        clear hx
        go_wp2_with fail
        refine (H12.out _).mono ?_
        rintro e v15 ⟨rfl, hx⟩
        have HBs15 := Lib.hid (btr HBs14.out hx)
        clear hx
        cases z
        all_goals
          simp only [Bool.not_true, Bool.not_false] at m6
          go_wp2_with fail
          go_ret
          exact ⟨rfl, HBs15.out⟩
    · go_wp2_with fail
      refine (H11.out _).mono ?_
      rintro e v12 ⟨rfl, hx⟩
      have HBs12 := Lib.hid (btr HBs11.out hx)
      clear hx
      go_wp2_with fail
      refine (H1.out _).mono ?_
      rintro e v13 ⟨rfl, hx⟩
      have HBs13 := Lib.hid (btr HBs12.out hx)
      clear hx
      go_wp2_with fail
      refine (H12.out _).mono ?_
      rintro e v14 ⟨rfl, hx⟩
      have HBs14 := Lib.hid (btr HBs13.out hx)
      clear hx
      cases z
      all_goals
        simp only [Bool.not_true, Bool.not_false] at m6
        go_wp2_with fail
        go_ret
        exact ⟨rfl, HBs14.out⟩

/-! ### The row's step -/
set_option maxRecDepth 100000 in
theorem lifted (os : Os) (started : os.Started) (H : Type) (enc : TypeId × Value → H) :
    ReturnsInHanded {} Try.checked os 4 .any (Rows.fnMergeLawsSpec.pre6 enc Try.prog Try.f4 Rows.fnMergeLawsRow.domain false) (Rows.fnMergeLawsSpec.post enc Try.prog Try.f4 false true false false) := by
  refine returnsInHanded_of_change (C := Try.checked) Base.own started (by kernel_rfl) Try.func4
    (ChangeSpec.witness6 (enc := enc) (C := Try.checked) false ⟨#[], #[.slice none 0 0], []⟩ 8 (by kernel_rfl) (by kernel_rfl) (by kernel_rfl) (by kernel_rfl)) ?_
  intro W base args ds gs before hval0 hW hcnd _
  have hval : ∀ (j : Nat) t v, Try.f4.params[j]? = some t → args[j]? = some v → Value.okWide Try.prog W .any base t v := hval0
  have hW' := hW
  obtain ⟨p, q, hA0, hV, rfl, hfz, hnd⟩ := hW
  have hA : DataW.TrodAll enc Try.prog W 0 (fun _ => true) true Try.f4.params.toList args.toList ds p := hA0
  have hA1 := hA
  rw [Try.params4] at hA hval
  obtain ⟨v0, vs0, d0, ds0, p0, q0, hargs, rfl, rfl, h0, r0⟩ := trodAll_cons hA
  obtain ⟨rfl, rfl, rfl⟩ := trodAll_nil r0
  obtain rfl : args = #[v0] := by cases args; simp_all
  obtain ⟨rfl, rfl⟩ := trodVars_none hV
  obtain ⟨A0, n0, c0, rfl, hn0, hcode0, _⟩ := Draw.open_code (hval 0 22 v0 rfl rfl) h0
  clear hA0 hval0
  rw [List.append_nil] at hW'
  refine (walk A0 n0 c0 hn0 hcode0).mono fun e W' ⟨he, hg⟩ => ?_
  subst he
  exact ⟨_, rfl, Mem.post_args Slots.laid (by kernel_rfl) rfl rfl rfl hW' hA1 hg (fun _ _ _ => (trodAll_cons_mk (shut_bool Try.underlying4 _) trodAll_mk0)) (ok_one (by kernel_rfl) rfl (okWide_bool_mk Try.underlying4 _))⟩

theorem over : Rows.fnMergeLawsRow.holds Try.pinned (OpenSpec.ofChange Rows.fnMergeLawsSpec) :=
  OpenClaim.holds_of_wide 4 Try.f4 rfl rfl rfl rfl rfl rfl rfl ⟨rfl, rfl, rfl, rfl, rfl⟩ rfl rfl rfl rfl rfl (by kernel_rfl) Try.func4 (by kernel_rfl)
    (of_decide_eq_true (by kernel_rfl)) (by unfold Func.isWrapper; first | (rw [if_pos (by decide +kernel)]; kernel_rfl) | (rw [if_neg (by decide +kernel)]; exact ⟨rfl, rfl⟩))
    (fun os started H enc _ => lifted os started H enc)

/-- The given statement. -/
theorem proved : Rows.FnMergeLawsSaid :=
  over
#print axioms proved
end Go.Proofs.Ytgpckcdkehmpiaa.fnMergeLaws
