/-
  At every argument the law FnExactSameTable returns true: the project's SameTable answers as the given model's SameTable, changes no argument, and what it returns is its own. No condition.
-/
import Derived.Test.YtocclalchakibaaSame
import Derived.Test.YtocclalchakibaaSlotArgs
namespace Go.Proofs.Ytocclalchakibaa.fnExactSameTable
open Go.ChangeShapes Go.WideShapes Go.ChangeAt Go.RowKit
open Go.Proofs.Ytocclalchakibaa.Base Go.Proofs.Ytocclalchakibaa.Mem Go.Proofs.Ytocclalchakibaa.Slots Go.Proofs.Ytocclalchakibaa.Ints
set_option linter.unusedVariables false

set_option maxRecDepth 100000 in
set_option maxHeartbeats 4000000 in
theorem walk (A : Option Addr) (n c : Nat) (l : List Sl) (B : Option Addr) (m d : Nat) (q : List Sl) (hn : n ≤ 9223372036854775807) (hl : l.length = n) (hw : wfL l) {w : World} (h1 : Lies w 0 w.heap.size A (scells l)) (hm : m ≤ 9223372036854775807) (hq : q.length = m) (hv : wfL q) (h2 : Lies w 0 w.heap.size B (scells q)) :
    Calls Try.prog 14 #[.slice A n c, .slice B m d] w fun e w' => e = .returned (.bool true) ∧ Below w.heap.size w w' := by
  have HA := Lib.hid (show ∀ W, Below w.heap.size w W → Lies W 0 W.heap.size A (scells l) from fun W hb => ((h1.below hb (Nat.le_refl _)).wide (Nat.le_refl _) hb.size))
  have HB := Lib.hid (show ∀ W, Below w.heap.size w W → Lies W 0 W.heap.size B (scells q) from fun W hb => ((h2.below hb (Nat.le_refl _)).wide (Nat.le_refl _) hb.size))
  have HL := Lib.hid hl
  have HQ := Lib.hid hq
  clear hl hq hw hv h1 h2
  by_cases hbig : 1048576 < n
  · go_enter Try.func14, Try.ntmps14
    go_wp2_with fail
    refine (szSlotS_no A n c 1048576 _ (by omega) (by omega) hn (by omega)).mono ?_
    rintro e w' ⟨rfl, rfl⟩
    go_wp2_with fail
    go_ret
    exact ⟨rfl, Below.refl _ _⟩
  · have hn2 : n ≤ 1048576 := by omega
    have hq0 : ¬ (1048576 - (n : Int) < 0) := by omega
    by_cases hbig2 : (1048576 - (n : Int)) < m
    · go_enter Try.func14, Try.ntmps14
      go_wp2_with fail
      refine (szSlotS_yes A n c 1048576 _ (by omega) (by omega)).mono ?_
      rintro e w' ⟨rfl, rfl⟩
      go_wp2_with fail
      refine (szSlotS_no B m d (1048576 - (n : Int)) _ (by omega) (by omega) hm hbig2).mono ?_
      rintro e w' ⟨rfl, rfl⟩
      go_wp2_with fail
      go_ret
      exact ⟨rfl, Below.refl _ _⟩
    have hm2 : m ≤ 1048576 := by omega
    have hq1 : ¬ (1048576 - (n : Int) - (m : Int) < 0) := by omega
    have hle : (m : Int) ≤ 1048576 - (n : Int) := by omega
    clear hbig hn hm hbig2
    go_enter Try.func14, Try.ntmps14
    go_wp2_with fail
    refine (szSlotS_yes A n c 1048576 _ (by omega) (by omega)).mono ?_
    rintro e w' ⟨rfl, rfl⟩
    go_wp2_with fail
    refine (szSlotS_yes B m d (1048576 - (n : Int)) _ (by omega) hle).mono ?_
    rintro e w' ⟨rfl, rfl⟩
    go_wp2_with fail
    refine (toSlotS_any A n c 0 l _ hn2 HL.out (HA.out _ (Below.refl _ _))).mono ?_
    rintro e w1 ⟨ad1, c1, rfl, hc1, ho1, hb1⟩
    have hB1 := btr (Below.refl _ _) hb1
    have hO1 := Lib.hid ho1
    have hS1 := hb1.size
    clear ho1 hb1
    go_wp2_with fail
    refine (toSlotS_any B m d 0 q _ hm2 HQ.out (HB.out _ hB1)).mono ?_
    rintro e w2 ⟨ad2, c2, rfl, hc2, ho2, hb2⟩
    have hB2 := btr hB1 hb2
    have hO2 := Lib.hid ho2
    have hS2 := hb2.size
    have hO1_2 := Lib.hid (hO1.out.below hb2 (by omega))
    clear ho2 hb2
    go_wp2_with fail
    refine (spec_same (some ad1) (some ad2) n m c1 c2 _ _ _ _ l q _ hn2 hm2 HL.out HQ.out hO1_2.out.1 hO2.out.1).mono ?_
    rintro e w' ⟨rfl, dq, rfl⟩
    have hB3 : Below w.heap.size w (w2.drewN dq) := below_drewN hB2 dq
    generalize hb0 : decide (l = q) = b
    have HBQ := Lib.hid hb0
    clear hb0
    generalize w2.drewN dq = w3 at hB3 ⊢
    clear hO1 hO2 hO1_2
    go_wp2_with fail
    refine (toSlotS_any A n c 0 l _ hn2 HL.out (HA.out _ hB3)).mono ?_
    rintro e w4 ⟨ad4, c4, rfl, hc4, ho4, hb4⟩
    have hB4 := btr hB3 hb4
    have hO4 := Lib.hid ho4
    have hS4 := hb4.size
    clear ho4 hb4
    go_wp2_with fail
    refine (toSlotS_any B m d 0 q _ hm2 HQ.out (HB.out _ hB4)).mono ?_
    rintro e w5 ⟨ad5, c5, rfl, hc5, ho5, hb5⟩
    have hB5 := btr hB4 hb5
    have hO5 := Lib.hid ho5
    have hS5 := hb5.size
    have hO4_5 := Lib.hid (hO4.out.below hb5 (by omega))
    clear ho5 hb5
    go_wp2_with fail
    refine (impl_same (some ad4) (some ad5) n m c4 c5 _ _ _ _ l q _ hn2 hm2 HL.out HQ.out hO4_5.out.1 hO5.out.1).mono ?_
    rintro e w' ⟨rfl, dr, rfl⟩
    rw [HBQ.out]
    have hB6 : Below w.heap.size w (w5.drewN dr) := below_drewN hB5 dr
    have hO4_6 := Lib.hid (hO4_5.out.drewN dr)
    have hO5_6 := Lib.hid (hO5.out.drewN dr)
    have hS6 : w5.heap.size ≤ (w5.drewN dr).heap.size := Nat.le_refl _
    generalize w5.drewN dr = w6 at hB6 hO4_6 hO5_6 hS6 ⊢
    clear hO4 hO5 hO4_5
    go_wp2_with fail
    refine (toSlotS_any A n c 0 l _ hn2 HL.out (HA.out _ hB6)).mono ?_
    rintro e w7 ⟨ad7, c7, rfl, hc7, ho7, hb7⟩
    have hB7 := btr hB6 hb7
    have hO7 := Lib.hid ho7
    have hS7 := hb7.size
    have hO4_7 := Lib.hid (hO4_6.out.below hb7 (by omega))
    have hO5_7 := Lib.hid (hO5_6.out.below hb7 (by omega))
    clear ho7 hb7
    go_wp2_with fail
    refine (eqSlotS_same (some ad4) (some ad7) n c4 c7 _ _ _ _ l _ hn2 HL.out (by omega) (Nat.le_refl _) hO4_7.out.1 hO7.out.1).mono ?_
    rintro e w8 ⟨rfl, hb8⟩
    have hB8 := btr hB7 hb8
    have hS8 := hb8.size
    have hO5_8 := Lib.hid (hO5_7.out.below hb8 (by omega))
    clear hb8 hO4_7 hO7 hO4_6
    go_wp2_with fail
    refine (toSlotS_any B m d 0 q _ hm2 HQ.out (HB.out _ hB8)).mono ?_
    rintro e w9 ⟨ad9, c9, rfl, hc9, ho9, hb9⟩
    have hB9 := btr hB8 hb9
    have hO9 := Lib.hid ho9
    have hS9 := hb9.size
    have hO5_9 := Lib.hid (hO5_8.out.below hb9 (by omega))
    clear ho9 hb9
    go_wp2_with fail
    refine (eqSlotS_same (some ad5) (some ad9) m c5 c9 _ _ _ _ q _ hm2 HQ.out (by omega) (Nat.le_refl _) hO5_9.out.1 hO9.out.1).mono ?_
    rintro e w10 ⟨rfl, hb10⟩
    go_wp2_with fail
    go_ret
    exact ⟨rfl, btr hB9 hb10⟩

/-! ### The row's step -/
set_option maxRecDepth 100000 in
theorem lifted (os : Os) (started : os.Started) (H : Type) (enc : TypeId × Value → H) :
    ReturnsInHanded {} Try.checked os 14 .any (Rows.fnExactSameTableSpec.pre6 enc Try.prog Try.f14 Rows.fnExactSameTableRow.domain false) (Rows.fnExactSameTableSpec.post enc Try.prog Try.f14 false true false false) := by
  refine returnsInHanded_of_change (C := Try.checked) Base.own started (by kernel_rfl) Try.func14
    (ChangeSpec.witness6 (enc := enc) (C := Try.checked) false ⟨#[], #[.slice none 0 0, .slice none 0 0], []⟩ 8 (by kernel_rfl) (by kernel_rfl) (by kernel_rfl) (by kernel_rfl)) ?_
  intro W base args ds gs before hval0 hW hcnd _
  have hval : ∀ (j : Nat) t v, Try.f14.params[j]? = some t → args[j]? = some v → Value.okWide Try.prog W .any base t v := hval0
  have hW' := hW
  obtain ⟨p, q, hA0, hV, rfl, hfz, hnd⟩ := hW
  have hA : DataW.TrodAll enc Try.prog W 0 (fun _ => true) true Try.f14.params.toList args.toList ds p := hA0
  have hA1 := hA
  rw [Try.params14] at hA hval
  obtain ⟨v0, vs0, d0, ds0, p0, q0, hargs, rfl, rfl, h0, r0⟩ := trodAll_cons hA
  obtain ⟨v1, vs1, d1, ds1, p1, q1, rfl, rfl, rfl, h1, r1⟩ := trodAll_cons r0
  obtain ⟨rfl, rfl, rfl⟩ := trodAll_nil r1
  obtain rfl : args = #[v0, v1] := by cases args; simp_all
  obtain ⟨rfl, rfl⟩ := trodVars_none hV
  obtain ⟨A0, n0, c0, l0, rfl, hn0, hl0, hw0, h0'⟩ := Slots.open_slots (hval 0 58 v0 rfl rfl) h0
  obtain ⟨A1, n1, c1, l1, rfl, hn1, hl1, hw1, h1'⟩ := Slots.open_slots (hval 1 58 v1 rfl rfl) h1
  clear hA0 hval0
  rw [List.append_nil] at hW'
  refine (walk A0 n0 c0 l0 A1 n1 c1 l1 hn0 hl0 hw0 h0' hn1 hl1 hw1 h1').mono fun e W' ⟨he, hg⟩ => ?_
  subst he
  exact ⟨_, rfl, Mem.post_args Slots.laid (by kernel_rfl) rfl rfl rfl hW' hA1 hg (fun _ _ _ => (trodAll_cons_mk (shut_bool Try.underlying4 _) trodAll_mk0)) (ok_one (by kernel_rfl) rfl (okWide_bool_mk Try.underlying4 _))⟩

theorem over : Rows.fnExactSameTableRow.holds Try.pinned (OpenSpec.ofChange Rows.fnExactSameTableSpec) :=
  OpenClaim.holds_of_wide 14 Try.f14 rfl rfl rfl rfl rfl rfl rfl ⟨rfl, rfl, rfl, rfl, rfl⟩ rfl rfl rfl rfl rfl (by kernel_rfl) Try.func14 (by kernel_rfl)
    (of_decide_eq_true (by kernel_rfl)) (by unfold Func.isWrapper; first | (rw [if_pos (by decide +kernel)]; kernel_rfl) | (rw [if_neg (by decide +kernel)]; exact ⟨rfl, rfl⟩))
    (fun os started H enc _ => lifted os started H enc)

/-- The given statement. -/
theorem proved : Rows.FnExactSameTableSaid :=
  over
#print axioms proved
end Go.Proofs.Ytocclalchakibaa.fnExactSameTable
