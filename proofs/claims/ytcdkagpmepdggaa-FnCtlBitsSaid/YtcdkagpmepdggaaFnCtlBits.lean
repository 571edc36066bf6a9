/-
  For every slice of bytes the law FnCtlBits returns true: bit n of Post is what Posts tells, and a block that is shut posts nothing. No condition.
-/
import Derived.Test.YtcdkagpmepdggaaCtlImpl
import Derived.Test.YtcdkagpmepdggaaPlaces
import Derived.Test.YtcdkagpmepdggaaCode
import Derived.Test.YtcdkagpmepdggaaBig
namespace Go.Proofs.Ytcdkagpmepdggaa.fnCtlBits
set_option maxRecDepth 100000
open Go.ChangeShapes Go.WideShapes Go.ChangeAt Go.RowKit
open Go.Proofs.Ytcdkagpmepdggaa.Base Go.Proofs.Ytcdkagpmepdggaa.Mem Go.Proofs.Ytcdkagpmepdggaa.Slots Go.Proofs.Ytcdkagpmepdggaa.Ints Go.Proofs.Ytcdkagpmepdggaa.Draw Go.Proofs.Ytcdkagpmepdggaa.Ctls
set_option linter.unusedVariables false
set_option linter.unusedSimpArgs false

theorem pcell {w : World} {base g n c : Nat} {e : TypeId} {l : List Int} (h : w.ownsRow base e 1 (.slice (some ⟨g, 0, none⟩) n c) n (icells l)) (k : Nat) (hk : k < l.length) : w.cell? ⟨g, k, none⟩ = some (.int .i64 l[k]) := by
  have hl := h.1
  simp only [icells, List.length_map] at hl
  rw [h.cellAt k (by omega)]
  simp [icells, hk]
theorem rem_part (q m : Int) (h0 : 0 ≤ q) (hm : 0 < m) : ∃ r : Nat, (r : Int) < m ∧ q.tmod m = r :=
  ⟨(q.tmod m).toNat, by rw [Int.tmod_eq_emod_of_nonneg h0]; have := Int.emod_lt_of_pos q hm; have := Int.emod_nonneg q (by omega : m ≠ 0); omega, by rw [Int.tmod_eq_emod_of_nonneg h0]; have := Int.emod_nonneg q (by omega : m ≠ 0); omega⟩
theorem wf_nat {m : Nat} (h : m ≤ 1048576) : (Lit.int .i64 (m : Int)).wf = true := by
  simp [Lit.wf]
  have e1 : IntKind.i64.min = -9223372036854775808 := by decide
  have e2 : IntKind.i64.max = 9223372036854775807 := by decide
  omega
theorem wfc {r : Int} {o : Bool} (h : (Lit.int .i64 r).wf = true) : wfC (0, r, o) := ⟨show (Lit.int .i64 0).wf = true by decide, h, trivial⟩
theorem ok_open {r : Nat} (h : r < 256) : ctlOk (0, (r : Int), true) = true := by
  unfold ctlOk ctlF; dsimp only
  rw [show inB 0 0 3 = true from rfl, show inB (r : Int) 0 255 = true from inB_iff.2 (by omega)]
  simp
theorem ok_shut {r : Nat} (h : r < 256) : ctlOk (0, (r : Int), false) = ((r : Int) == 0) := by
  unfold ctlOk ctlF; dsimp only
  rw [show inB 0 0 3 = true from rfl, show inB (r : Int) 0 255 = true from inB_iff.2 (by omega)]
  by_cases h0 : r = 0
  · subst h0; rfl
  · have : ((r : Int) == 0) = false := by simpa using h0
    rw [this]
    simp [h0]
theorem posts_shut {r : Nat} {n : Int} (h : r < 256) : posts (0, (r : Int), false) n = false := by
  unfold posts
  rw [ok_shut h]
  by_cases h0 : r = 0
  · subst h0
    have hb : bitAt ((0 : Nat) : Int) n = false := by unfold bitAt; rw [show (((0 : Nat) : Int) / 2 ^ n.toNat) = 0 from Int.zero_ediv _]; decide
    rw [hb, Bool.and_false]
  · have : ((r : Int) == 0) = false := by simpa using h0
    rw [this, Bool.false_and, Bool.false_and]
theorem posts_8 {s : CT} : posts s 8 = false := by unfold posts; rw [show inB 8 0 7 = false from rfl, Bool.and_false, Bool.false_and]
theorem posts_open {r k : Nat} (h : r < 256) (hk : k < 8) : posts (0, (r : Int), true) (k : Int) = (bits .and .i64 ((r : Int) / 2 ^ k) 1 == 1) := by
  unfold posts
  rw [ok_open h, inB_iff.2 (show (0 : Int) ≤ k ∧ (k : Int) ≤ 7 by omega), Bool.true_and, Bool.true_and]
  rfl

set_option maxRecDepth 100000 in
set_option maxHeartbeats 8000000 in
theorem walk (A : Option Addr) (n c : Nat) (hn : n ≤ maxLen) {w : World} (hcode : CodeAt w A n) :
    Calls Try.prog 3 #[.slice A n c] w fun e w' => e = .returned (.bool true) ∧ Below w.heap.size w w' := by
  have hn' : n ≤ 9223372036854775807 := hn
  have HC := Lib.hid (show ∀ W, Below w.heap.size w W → CodeAt W A n from fun W hb => hcode.below hb)
  clear hcode hn
  by_cases h1 : 1048576 < n
  · go_enter Try.func3, Try.ntmps3
    go_wp2_with (go_at_call 8; refine (big_yes A n c _ hn' h1).mono ?_; rintro e w' ⟨rfl, rfl⟩)
    go_ret
    exact ⟨rfl, Below.refl _ _⟩
  · have hn2 : n ≤ 1048576 := by omega
    clear h1 hn'
    go_enter Try.func3, Try.ntmps3
    go_wp2_with (go_at_call 8; refine (big_no A n c _ hn2).mono ?_; rintro e w' ⟨rfl, rfl⟩)
    refine (places_any A n c _ hn2 (HC.out _ (Below.refl _ _))).mono ?_
    rintro e w1 ⟨gp, capp, l, rfl, hl, hall, hown, hb1⟩
    obtain ⟨q0, q1, q2, q3, q4, q5, q6, q7, q8, q9, q10, q11, rfl⟩ := list12 hl
    have hR0 := (hall q0 (by simp)).1
    have hR1 := (hall q1 (by simp)).1
    have x0 := pcell hown 0 (by simp)
    have x1 := pcell hown 1 (by simp)
    have x2 := (hown.lt gp rfl).2
    simp only [List.getElem_cons_zero, List.getElem_cons_succ] at x0 x1
    obtain ⟨r, hr, hq0⟩ := rem_part q0 256 hR0 (by omega)
    obtain ⟨k, hk, hq1⟩ := rem_part q1 8 hR1 (by omega)
    have hr' : r < 256 := by omega
    have hk' : k < 8 := by omega
    have hk0 : (0 : Int) ≤ (k : Int) := by omega
    have HB1 := Lib.hid hb1
    have wr := wf_nat (m := r) (by omega)
    have wk := wf_nat (m := k) (by omega)
    have h1 := fun V : World => impl_ctlOk 0 r true V (wfc wr)
    rw [ok_open hr'] at h1
    have h2 := fun V : World => impl_ctlOk 0 r false V (wfc wr)
    rw [ok_shut hr'] at h2
    have h3 := fun V : World => impl_posts 0 r true k V (wfc wr) wk
    rw [posts_open hr' hk'] at h3
    have h4 := fun V : World => impl_posts 0 r false k V (wfc wr) wk
    rw [posts_shut hr'] at h4
    have h5 := fun V : World => impl_posts 0 r true 8 V (wfc wr) (by decide)
    rw [posts_8] at h5
    have h6 := fun V : World => impl_ctlOk 2 0 false V ⟨by decide, by decide, trivial⟩
    rw [show ctlOk (2, 0, false) = true from by decide] at h6
    have h7 := fun V : World => impl_ctlOk 2 1 true V ⟨by decide, by decide, trivial⟩
    rw [show ctlOk (2, 1, true) = false from by decide] at h7
    have H1 := Lib.hid h1
    have H2 := Lib.hid h2
    have H3 := Lib.hid h3
    have H4 := Lib.hid h4
    have H5 := Lib.hid h5
    have H6 := Lib.hid h6
    have H7 := Lib.hid h7
    clear h1 h2 h3 h4 h5 h6 h7 wr wk hall hown hl HC hR0 hR1 hb1
    have t0 := Var.new w1 [.int .i64 0, .int .i64 r, .bool true] 27
    change Var (w1.alloc (.cells #[.int .i64 0, .int .i64 r, .bool true] 27)) w1.heap.size [.int .i64 0, .int .i64 r, .bool true] at t0
    have hz0 : w1.heap.size + 1 = (w1.alloc (.cells #[.int .i64 0, .int .i64 r, .bool true] 27)).heap.size := by simp
    have HZ0 := Lib.hid hz0
    have hb2 := HB1.out.alloc HB1.out.size (.cells #[.int .i64 0, .int .i64 r, .bool true] 27)
    have hz : w1.heap.size + 1 ≤ (w1.alloc (.cells #[.int .i64 0, .int .i64 r, .bool true] 27)).heap.size := by omega
    clear hz0
    have hne : gp ≠ w1.heap.size := by omega
    go_wp2_with fail
    rw [HZ0.out]
    clear HZ0
    generalize w1.alloc (.cells #[.int .i64 0, .int .i64 r, .bool true] 27) = W2 at t0 hb2 hz ⊢
    have t1 := Var.new W2 [.int .i64 0, .int .i64 r, .bool false] 27
    change Var (W2.alloc (.cells #[.int .i64 0, .int .i64 r, .bool false] 27)) W2.heap.size [.int .i64 0, .int .i64 r, .bool false] at t1
    have t2 := t0.below ((Below.refl W2.heap.size W2).alloc (Nat.le_refl _) (.cells #[.int .i64 0, .int .i64 r, .bool false] 27)) hz
    have hb3 := hb2.alloc hb2.size (.cells #[.int .i64 0, .int .i64 r, .bool false] 27)
    have hz3 : W2.heap.size + 1 ≤ (W2.alloc (.cells #[.int .i64 0, .int .i64 r, .bool false] 27)).heap.size := by simp
    have hz4 : w1.heap.size + 1 ≤ (W2.alloc (.cells #[.int .i64 0, .int .i64 r, .bool false] 27)).heap.size := by omega
    generalize W2.alloc (.cells #[.int .i64 0, .int .i64 r, .bool false] 27) = W3 at t1 t2 hb3 hz3 hz4 ⊢
    clear t0 hb2 hz x0 x1 x2
    generalize W2.heap.size = zb at t1 hz3 ⊢
    generalize w1.heap.size = za at t2 hz4 ⊢
    clear hne
    have TA := Lib.hid (fun (V : World) (h : Below W3.heap.size W3 V) => t2.below h hz4)
    have TB := Lib.hid (fun (V : World) (h : Below W3.heap.size W3 V) => t1.below h hz3)
    have HB3 := Lib.hid hb3
    clear t1 t2 hb3 hz3 hz4 HB1
    have HS0 := Lib.hid (Below.refl W3.heap.size W3)
    have a0 := (TA.out _ HS0.out).cell 0 (v := .int .i64 0) rfl
    have a1 := (TA.out _ HS0.out).cell 1 (v := .int .i64 r) rfl
    have a2 := (TA.out _ HS0.out).cell 2 (v := .bool true) rfl
    have b0 := (TB.out _ HS0.out).cell 0 (v := .int .i64 0) rfl
    have b1 := (TB.out _ HS0.out).cell 1 (v := .int .i64 r) rfl
    have b2 := (TB.out _ HS0.out).cell 2 (v := .bool false) rfl
    go_wp2_with fail
    refine (H1.out _).mono ?_
    rintro e v1 ⟨rfl, hx⟩
    have HS1 := Lib.hid (btr HS0.out hx)
    clear hx a0 a1 a2 b0 b1 b2
    have a0 := (TA.out _ HS1.out).cell 0 (v := .int .i64 0) rfl
    have a1 := (TA.out _ HS1.out).cell 1 (v := .int .i64 r) rfl
    have a2 := (TA.out _ HS1.out).cell 2 (v := .bool true) rfl
    have b0 := (TB.out _ HS1.out).cell 0 (v := .int .i64 0) rfl
    have b1 := (TB.out _ HS1.out).cell 1 (v := .int .i64 r) rfl
    have b2 := (TB.out _ HS1.out).cell 2 (v := .bool false) rfl
    go_wp2_with fail
    refine (H2.out _).mono ?_
    rintro e v2 ⟨rfl, hx⟩
    have HS2 := Lib.hid (btr HS1.out hx)
    clear hx a0 a1 a2 b0 b1 b2
    have a0 := (TA.out _ HS2.out).cell 0 (v := .int .i64 0) rfl
    have a1 := (TA.out _ HS2.out).cell 1 (v := .int .i64 r) rfl
    have a2 := (TA.out _ HS2.out).cell 2 (v := .bool true) rfl
    have b0 := (TB.out _ HS2.out).cell 0 (v := .int .i64 0) rfl
    have b1 := (TB.out _ HS2.out).cell 1 (v := .int .i64 r) rfl
    have b2 := (TB.out _ HS2.out).cell 2 (v := .bool false) rfl
    go_wp2_with fail
    refine (H3.out _).mono ?_
    rintro e v3 ⟨rfl, hx⟩
    have HS3 := Lib.hid (btr HS2.out hx)
    clear hx a0 a1 a2 b0 b1 b2
    have a0 := (TA.out _ HS3.out).cell 0 (v := .int .i64 0) rfl
    have a1 := (TA.out _ HS3.out).cell 1 (v := .int .i64 r) rfl
    have a2 := (TA.out _ HS3.out).cell 2 (v := .bool true) rfl
    have b0 := (TB.out _ HS3.out).cell 0 (v := .int .i64 0) rfl
    have b1 := (TB.out _ HS3.out).cell 1 (v := .int .i64 r) rfl
    have b2 := (TB.out _ HS3.out).cell 2 (v := .bool false) rfl
    go_wp2_with fail
    refine (H4.out _).mono ?_
    rintro e v4 ⟨rfl, hx⟩
    have HS4 := Lib.hid (btr HS3.out hx)
    clear hx a0 a1 a2 b0 b1 b2
    have a0 := (TA.out _ HS4.out).cell 0 (v := .int .i64 0) rfl
    have a1 := (TA.out _ HS4.out).cell 1 (v := .int .i64 r) rfl
    have a2 := (TA.out _ HS4.out).cell 2 (v := .bool true) rfl
    have b0 := (TB.out _ HS4.out).cell 0 (v := .int .i64 0) rfl
    have b1 := (TB.out _ HS4.out).cell 1 (v := .int .i64 r) rfl
    have b2 := (TB.out _ HS4.out).cell 2 (v := .bool false) rfl
    go_wp2_with fail
    refine (H5.out _).mono ?_
    rintro e v5 ⟨rfl, hx⟩
    have HS5 := Lib.hid (btr HS4.out hx)
    clear hx a0 a1 a2 b0 b1 b2
    have a0 := (TA.out _ HS5.out).cell 0 (v := .int .i64 0) rfl
    have a1 := (TA.out _ HS5.out).cell 1 (v := .int .i64 r) rfl
    have a2 := (TA.out _ HS5.out).cell 2 (v := .bool true) rfl
    have b0 := (TB.out _ HS5.out).cell 0 (v := .int .i64 0) rfl
    have b1 := (TB.out _ HS5.out).cell 1 (v := .int .i64 r) rfl
    have b2 := (TB.out _ HS5.out).cell 2 (v := .bool false) rfl
    go_wp2_with fail
    refine (H6.out _).mono ?_
    rintro e v6 ⟨rfl, hx⟩
    have HS6 := Lib.hid (btr HS5.out hx)
    clear hx a0 a1 a2 b0 b1 b2
    have a0 := (TA.out _ HS6.out).cell 0 (v := .int .i64 0) rfl
    have a1 := (TA.out _ HS6.out).cell 1 (v := .int .i64 r) rfl
    have a2 := (TA.out _ HS6.out).cell 2 (v := .bool true) rfl
    have b0 := (TB.out _ HS6.out).cell 0 (v := .int .i64 0) rfl
    have b1 := (TB.out _ HS6.out).cell 1 (v := .int .i64 r) rfl
    have b2 := (TB.out _ HS6.out).cell 2 (v := .bool false) rfl
    go_wp2_with fail
    refine (H7.out _).mono ?_
    rintro e v7 ⟨rfl, hx⟩
    have HS7 := Lib.hid (btr HS6.out hx)
    clear hx a0 a1 a2 b0 b1 b2
    have a0 := (TA.out _ HS7.out).cell 0 (v := .int .i64 0) rfl
    have a1 := (TA.out _ HS7.out).cell 1 (v := .int .i64 r) rfl
    have a2 := (TA.out _ HS7.out).cell 2 (v := .bool true) rfl
    have b0 := (TB.out _ HS7.out).cell 0 (v := .int .i64 0) rfl
    have b1 := (TB.out _ HS7.out).cell 1 (v := .int .i64 r) rfl
    have b2 := (TB.out _ HS7.out).cell 2 (v := .bool false) rfl
    go_wp2_with fail
    go_ret
    exact ⟨rfl, btr HB3.out HS7.out⟩

/-! ### The row's step -/
set_option maxRecDepth 100000 in
theorem lifted (os : Os) (started : os.Started) (H : Type) (enc : TypeId × Value → H) :
    ReturnsInHanded {} Try.checked os 3 .any (Rows.fnCtlBitsSpec.pre6 enc Try.prog Try.f3 Rows.fnCtlBitsRow.domain false) (Rows.fnCtlBitsSpec.post enc Try.prog Try.f3 false true false false) := by
  refine returnsInHanded_of_change (C := Try.checked) Base.own started (by kernel_rfl) Try.func3
    (ChangeSpec.witness6 (enc := enc) (C := Try.checked) false ⟨#[], #[.slice none 0 0], []⟩ 8 (by kernel_rfl) (by kernel_rfl) (by kernel_rfl) (by kernel_rfl)) ?_
  intro W base args ds gs before hval0 hW hcnd _
  have hval : ∀ (j : Nat) t v, Try.f3.params[j]? = some t → args[j]? = some v → Value.okWide Try.prog W .any base t v := hval0
  have hW' := hW
  obtain ⟨p, q, hA0, hV, rfl, hfz, hnd⟩ := hW
  have hA : DataW.TrodAll enc Try.prog W 0 (fun _ => true) true Try.f3.params.toList args.toList ds p := hA0
  have hA1 := hA
  rw [Try.params3] at hA hval
  obtain ⟨v0, vs0, d0, ds0, p0, q0, hargs, rfl, rfl, h0, r0⟩ := trodAll_cons hA
  obtain ⟨rfl, rfl, rfl⟩ := trodAll_nil r0
  obtain rfl : args = #[v0] := by cases args; simp_all
  obtain ⟨rfl, rfl⟩ := trodVars_none hV
  obtain ⟨A0, n0, c0, rfl, hn0, hcode0, _⟩ := Draw.open_code (hval 0 22 v0 rfl rfl) h0
  clear hA0 hval0
  rw [List.append_nil] at hW'
  refine (walk A0 n0 c0 hn0 hcode0).mono fun e W' ⟨he, hg⟩ => ?_
  subst he
  exact ⟨_, rfl, Mem.post_args Slots.laid (by kernel_rfl) rfl rfl rfl hW' hA1 hg (fun _ _ _ => (trodAll_cons_mk (shut_bool Try.underlying4 _) trodAll_mk0)) (ok_one (by kernel_rfl) rfl (okWide_bool_mk Try.underlying4 _))⟩

theorem over : Rows.fnCtlBitsRow.holds Try.pinned (OpenSpec.ofChange Rows.fnCtlBitsSpec) :=
  OpenClaim.holds_of_wide 3 Try.f3 rfl rfl rfl rfl rfl rfl rfl ⟨rfl, rfl, rfl, rfl, rfl⟩ rfl rfl rfl rfl rfl (by kernel_rfl) Try.func3 (by kernel_rfl)
    (of_decide_eq_true (by kernel_rfl)) (by unfold Func.isWrapper; first | (rw [if_pos (by decide +kernel)]; kernel_rfl) | (rw [if_neg (by decide +kernel)]; exact ⟨rfl, rfl⟩))
    (fun os started H enc _ => lifted os started H enc)

/-- The given statement. -/
theorem proved : Rows.FnCtlBitsSaid :=
  over
#print axioms proved
end Go.Proofs.Ytcdkagpmepdggaa.fnCtlBits
