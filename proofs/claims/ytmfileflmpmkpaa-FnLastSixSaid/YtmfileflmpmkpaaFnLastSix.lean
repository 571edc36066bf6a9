/-
  For every slice of bytes the law FnLastSix returns true: of seven to eleven entries the last six are found and the earlier ones are not. No condition.
-/
import Derived.Test.YtmfileflmpmkpaaEntImpl
import Derived.Test.YtmfileflmpmkpaaEntLaw
import Derived.Test.YtmfileflmpmkpaaPlaces
import Derived.Test.YtmfileflmpmkpaaCode
import Derived.Test.YtmfileflmpmkpaaBig
namespace Go.Proofs.Ytmfileflmpmkpaa.fnLastSix
set_option maxRecDepth 100000
open Go.ChangeShapes Go.WideShapes Go.ChangeAt Go.RowKit
open Go.Proofs.Ytmfileflmpmkpaa.Base Go.Proofs.Ytmfileflmpmkpaa.Mem Go.Proofs.Ytmfileflmpmkpaa.Slots Go.Proofs.Ytmfileflmpmkpaa.Ints Go.Proofs.Ytmfileflmpmkpaa.Draw Go.Proofs.Ytmfileflmpmkpaa.Data Go.Proofs.Ytmfileflmpmkpaa.Ents
set_option linter.unusedVariables false

/-- The first two of the drawn numbers lie in memory. -/
def P2 (W : World) (g : Nat) (a b : Int) : Prop :=
  W.cell? ⟨g, 0, none⟩ = some (.int .i64 a) ∧ W.cell? ⟨g, 1, none⟩ = some (.int .i64 b) ∧ g < W.heap.size
theorem P2.below {W W' : World} {g : Nat} {a b : Int} (h : P2 W g a b) (hb : Below W.heap.size W W') : P2 W' g a b :=
  ⟨(hb.cell (p := ⟨g, 0, none⟩) h.2.2).trans h.1, (hb.cell (p := ⟨g, 1, none⟩) h.2.2).trans h.2.1, Nat.lt_of_lt_of_le h.2.2 hb.size⟩
theorem pcell {w : World} {base g n c : Nat} {e : TypeId} {l : List Int} (h : w.ownsRow base e 1 (.slice (some ⟨g, 0, none⟩) n c) n (icells l)) (k : Nat) (hk : k < l.length) : w.cell? ⟨g, k, none⟩ = some (.int .i64 l[k]) := by
  have hl := h.1
  simp only [icells, List.length_map] at hl
  rw [h.cellAt k (by omega)]
  simp [icells, hk]
theorem below_part (q m : Int) (h0 : 0 ≤ q) (hm : 0 < m) : ∃ r : Nat, (r : Int) < m ∧ q.tmod m = r :=
  ⟨(q.tmod m).toNat, by rw [Int.tmod_eq_emod_of_nonneg h0]; have := Int.emod_lt_of_pos q hm; have := Int.emod_nonneg q (by omega : m ≠ 0); omega, by rw [Int.tmod_eq_emod_of_nonneg h0]; have := Int.emod_nonneg q (by omega : m ≠ 0); omega⟩
theorem wf_nat {m : Nat} (h : m ≤ 1048576) : (Lit.int .i64 (m : Int)).wf = true := by
  simp [Lit.wf]
  have e1 : IntKind.i64.min = -9223372036854775808 := by decide
  have e2 : IntKind.i64.max = 9223372036854775807 := by decide
  omega
theorem lies_none {w : World} (A : Option Addr) (h : Int) : Lies w 0 w.heap.size A (ecells (bufK 0 h)) := fun j u hu => by
  simp [bufK, lastS, ecells] at hu

set_option maxRecDepth 100000 in
set_option maxHeartbeats 8000000 in
theorem walk (A : Option Addr) (n c : Nat) (hn : n ≤ maxLen) {w : World} (hcode : CodeAt w A n) :
    Calls Try.prog 5 #[.slice A n c] w fun e w' => e = .returned (.bool true) ∧ Below w.heap.size w w' := by
  have hn' : n ≤ 9223372036854775807 := hn
  have HC := Lib.hid (show ∀ W, Below w.heap.size w W → CodeAt W A n from fun W hb => hcode.below hb)
  clear hcode hn
  by_cases h1 : 1048576 < n
  · go_enter Try.func5, Try.ntmps5
    go_wp2_with (go_at_call 13; refine (big_yes A n c _ hn' h1).mono ?_; rintro e w' ⟨rfl, rfl⟩)
    go_ret
    exact ⟨rfl, Below.refl _ _⟩
  · have hn2 : n ≤ 1048576 := by omega
    clear h1 hn'
    go_enter Try.func5, Try.ntmps5
    go_wp2_with (go_at_call 13; refine (big_no A n c _ hn2).mono ?_; rintro e w' ⟨rfl, rfl⟩)
    refine (places_any A n c _ hn2 (HC.out _ (Below.refl _ _))).mono ?_
    rintro e w1 ⟨gp, capp, l, rfl, hl, hall, hown, hb1⟩
    obtain ⟨q0, q1, q2, q3, q4, q5, q6, q7, q8, q9, q10, q11, rfl⟩ := list12 hl
    have hR0 := (hall q0 (by simp)).1
    have hR1 := (hall q1 (by simp)).1
    have hp : P2 w1 gp q0 q1 := ⟨pcell hown 0 (by simp), pcell hown 1 (by simp), (hown.lt gp rfl).2⟩
    obtain ⟨r, hr, hq0⟩ := below_part q0 5 hR0 (by omega)
    obtain ⟨h, hh, hq1⟩ := below_part q1 12 hR1 (by omega)
    clear hall hown hl HC hR0 hR1
    have HP := Lib.hid hp
    have HB1 := Lib.hid hb1
    obtain ⟨x0, x1, x2⟩ := hp
    have x3 : gp ≠ w1.heap.size := by omega
    clear hb1
    go_wp2_with fail
    obtain ⟨N, hN⟩ : ∃ N : Nat, (N : Int) = 7 + (r : Int) := ⟨7 + r, by omega⟩
    have hN7 : 7 ≤ N := by omega
    have hN12 : N ≤ 12 := by omega
    rw [← hN]
    have hb2 : Below w1.heap.size w1 (w1.alloc (.cells #[] 26)) := (Below.refl _ _).alloc (Nat.le_refl _) _
    have HB2 := Lib.hid (btr HB1.out hb2)
    have HP2 := Lib.hid (HP.out.below hb2)
    clear x0 x1 x2 x3 HP HB1 hq0 hN
    generalize w1.alloc (.cells #[] 26) = W at HB2 HP2 ⊢
    have hwh : (Lit.int .i64 (h : Int)).wf = true := wf_nat (by omega)
    have HWH := Lib.hid hwh
    clear hb2 hwh
    go_loopw [4, 6] (fun b i wr => ∃ (k n : Nat) (A : Option Addr) (c : Nat), k ≤ N ∧ i = .int .i64 k ∧ b = .slice A n c ∧ (bufK k h).length = n ∧ Lies wr 0 wr.heap.size A (ecells (bufK k h)) ∧ Below W.heap.size W wr) (fun _ i _ => N - (intOf i).toNat)
    case atStart => exact ⟨0, 0, _, 0, Nat.zero_le _, rfl, rfl, rfl, lies_none _ _, Below.refl _ _⟩
    case round =>
      obtain ⟨k, n, A, c, hk, rfl, rfl, hl, hLL, hbr⟩ := hrel
      by_cases hlt : k < N
      · obtain ⟨x0, x1, x2⟩ := HP2.out.below hbr
        have hi1 : (k : Int) < (N : Int) := by omega
        have hn6 : n ≤ 6 := by rw [← hl, bufK_len]; omega
        obtain ⟨s, hs, hks⟩ := below_part (k : Int) 2 (by omega) (by omega)
        have hcall := impl_put A n c (bufK k h) wr (1 + (k : Int).tmod 2) (k : Int) h 3 (by omega) hl hLL (wf_bufK HWH.out (by omega)) (wf_ent HWH.out (by omega))
        rw [show ((1 + (k : Int).tmod 2, (k : Int), (h : Int), (3 : Int)) : ET) = ent h k from rfl, bufK_put, hks] at hcall
        have HCALL := Lib.hid hcall
        have HBR := Lib.hid hbr
        clear hcall hLL hl hbr
        go_wp2_with fail
        refine HCALL.out.mono ?_
        rintro e w5 ⟨A5, n5, c5, rfl, hl5, ho5, hb5⟩
        have HL5 := Lib.hid (show Lies w5 0 w5.heap.size A5 (ecells (bufK (k + 1) h)) from ho5.1.wide (Nat.zero_le _) (Nat.le_refl _))
        have HB5 := Lib.hid (btr HBR.out hb5)
        have HN5 := Lib.hid hl5
        clear ho5 hb5 hl5 x0 x1 x2 HBR HCALL
        go_wp2_with fail
        go_roundw
        case rel => exact ⟨k + 1, n5, A5, c5, by omega, by go_num, rfl, HN5.out, HL5.out, HB5.out⟩
        case measure => simp [intOf]; omega
      · obtain rfl : k = N := by omega
        obtain rfl : n = 6 := by rw [← hl, bufK_len]; omega
        have hZ := HP2.out.below hbr
        have HB3 := Lib.hid (btr HB2.out hbr)
        have HPZ := Lib.hid hZ
        have HL := Lib.hid hl
        have HLL := Lib.hid hLL
        clear hZ hbr hl hLL HB2 HP2
        go_wp2_with fail
        generalize wr = W3 at HPZ HB3 HLL ⊢
        go_loopw [7] (fun i wr => ∃ (j : Nat), j ≤ k ∧ i = .int .i64 j ∧ Below W3.heap.size W3 wr) (fun i _ => k - (intOf i).toNat)
        case atStart => exact ⟨0, Nat.zero_le _, rfl, Below.refl _ _⟩
        case round =>
          obtain ⟨j, hj, rfl, hbq⟩ := hrel
          by_cases hlt2 : j < k
          · have hj1 : (j : Int) < (k : Int) := by omega
            obtain ⟨s, hs, hks⟩ := below_part (j : Int) 2 (by omega) (by omega)
            have hcall := impl_find A 6 c (bufK k h) wr (1 + (j : Int).tmod 2) (j : Int) (by omega) HL.out ((HLL.out.below hbq (Nat.le_refl _)).wide (Nat.le_refl _) hbq.size) (wf_bufK HWH.out (by omega)) (wf_ent (i := j) HWH.out (by omega)).1 (wf_nat (by omega))
            have hf := bufK_find k j h hlt2
            unfold EntP at hcall
            generalize findE (bufK k h) (1 + (j : Int).tmod 2) (j : Int) = z at hcall hf
            obtain ⟨⟨z0, z1, z2, z3⟩, zo⟩ := z
            dsimp only at hf
            rw [hks] at hcall
            have HCALL := Lib.hid hcall
            have HBQ := Lib.hid hbq
            have hkj : (decide ((k : Int) - 6 ≤ (j : Int))) = zo := by rw [hf]; by_cases hx : k - 6 ≤ j <;> simp [hx] <;> omega
            clear hcall hbq hf
            go_wp2_with fail
            refine HCALL.out.mono ?_
            rintro e w5 ⟨rfl, hb5⟩
            have hB5 := btr HBQ.out hb5
            have hB6 : Below W3.heap.size W3 (w5.alloc (.cells #[.int .i64 z0, .int .i64 z1, .int .i64 z2, .int .i64 z3] 26)) := hB5.alloc hB5.size _
            have HB6 := Lib.hid hB6
            clear hB6 hB5 hb5 HCALL HBQ
            cases zo
            · go_wp2_with fail
              go_roundw
              case rel => exact ⟨j + 1, by omega, by go_num, HB6.out⟩
              case measure => simp [intOf]; omega
            · go_wp2_with fail
              go_roundw
              case rel => exact ⟨j + 1, by omega, by go_num, HB6.out⟩
              case measure => simp [intOf]; omega
          · obtain rfl : j = k := by omega
            obtain ⟨x0, x1, x2⟩ := HPZ.out.below hbq
            have hcall := impl_flushH A 6 c (bufK j h) wr h (by omega) HL.out ((HLL.out.below hbq (Nat.le_refl _)).wide (Nat.le_refl _) hbq.size) (wf_bufK HWH.out (by omega)) HWH.out
            rw [bufK_host] at hcall
            have HCALL := Lib.hid hcall
            have HB7 := Lib.hid (btr HB3.out hbq)
            clear hcall hbq
            go_wp2_with fail
            refine HCALL.out.mono ?_
            rintro e w5 ⟨A5, n5, c5, rfl, hl5, _, hb5⟩
            obtain rfl : 0 = n5 := hl5
            have HB8 := Lib.hid (btr HB7.out hb5)
            clear hb5 HCALL x0 x1 x2
            go_wp2_with fail
            go_ret
            exact ⟨rfl, HB8.out⟩

/-! ### The row's step -/
set_option maxRecDepth 100000 in
theorem lifted (os : Os) (started : os.Started) (H : Type) (enc : TypeId × Value → H) :
    ReturnsInHanded {} Try.checked os 5 .any (Rows.fnLastSixSpec.pre6 enc Try.prog Try.f5 Rows.fnLastSixRow.domain false) (Rows.fnLastSixSpec.post enc Try.prog Try.f5 false true false false) := by
  refine returnsInHanded_of_change (C := Try.checked) Base.own started (by kernel_rfl) Try.func5
    (ChangeSpec.witness6 (enc := enc) (C := Try.checked) false ⟨#[], #[.slice none 0 0], []⟩ 8 (by kernel_rfl) (by kernel_rfl) (by kernel_rfl) (by kernel_rfl)) ?_
  intro W base args ds gs before hval0 hW hcnd _
  have hval : ∀ (j : Nat) t v, Try.f5.params[j]? = some t → args[j]? = some v → Value.okWide Try.prog W .any base t v := hval0
  have hW' := hW
  obtain ⟨p, q, hA0, hV, rfl, hfz, hnd⟩ := hW
  have hA : DataW.TrodAll enc Try.prog W 0 (fun _ => true) true Try.f5.params.toList args.toList ds p := hA0
  have hA1 := hA
  rw [Try.params5] at hA hval
  obtain ⟨v0, vs0, d0, ds0, p0, q0, hargs, rfl, rfl, h0, r0⟩ := trodAll_cons hA
  obtain ⟨rfl, rfl, rfl⟩ := trodAll_nil r0
  obtain rfl : args = #[v0] := by cases args; simp_all
  obtain ⟨rfl, rfl⟩ := trodVars_none hV
  obtain ⟨A0, n0, c0, rfl, hn0, hcode0, _⟩ := Draw.open_code (hval 0 22 v0 rfl rfl) h0
  clear hA0 hval0
  rw [List.append_nil] at hW'
  refine (walk A0 n0 c0 hn0 hcode0).mono fun e W' ⟨he, hg⟩ => ?_
  subst he
  exact ⟨_, rfl, Mem.post_args Slots.laid (by kernel_rfl) rfl rfl rfl hW' hA1 hg (fun _ _ _ => (trodAll_cons_mk (shut_bool Try.underlying4 _) trodAll_mk0)) (ok_one (by kernel_rfl) rfl (okWide_bool_mk Try.underlying4 _))⟩

theorem over : Rows.fnLastSixRow.holds Try.pinned (OpenSpec.ofChange Rows.fnLastSixSpec) :=
  OpenClaim.holds_of_wide 5 Try.f5 rfl rfl rfl rfl rfl rfl rfl ⟨rfl, rfl, rfl, rfl, rfl⟩ rfl rfl rfl rfl rfl (by kernel_rfl) Try.func5 (by kernel_rfl)
    (of_decide_eq_true (by kernel_rfl)) (by unfold Func.isWrapper; first | (rw [if_pos (by decide +kernel)]; kernel_rfl) | (rw [if_neg (by decide +kernel)]; exact ⟨rfl, rfl⟩))
    (fun os started H enc _ => lifted os started H enc)

/-- The given statement. -/
theorem proved : Rows.FnLastSixSaid :=
  over
#print axioms proved
end Go.Proofs.Ytmfileflmpmkpaa.fnLastSix
