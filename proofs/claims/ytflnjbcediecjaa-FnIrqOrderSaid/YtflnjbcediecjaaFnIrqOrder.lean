/-
  For every slice of bytes the law FnIrqOrder returns true: the interrupts are taken in descending order until none is left, and splitting keeps them all. No condition.
-/
import Derived.Test.YtflnjbcediecjaaIrqImpl
import Derived.Test.YtflnjbcediecjaaIrqDraws
import Derived.Test.YtflnjbcediecjaaIrqLaw
import Derived.Test.YtflnjbcediecjaaSlotArgs
import Derived.Test.YtflnjbcediecjaaCode
import Derived.Test.YtflnjbcediecjaaBig
import Derived.Test.YtflnjbcediecjaaPlaces
import Derived.Test.YtflnjbcediecjaaOrd
namespace Go.Proofs.Ytflnjbcediecjaa.fnIrqOrder
set_option maxRecDepth 100000
open Go.ChangeShapes Go.WideShapes Go.ChangeAt Go.RowKit
open Go.Proofs.Ytflnjbcediecjaa.Base Go.Proofs.Ytflnjbcediecjaa.Mem Go.Proofs.Ytflnjbcediecjaa.Slots Go.Proofs.Ytflnjbcediecjaa.Ints Go.Proofs.Ytflnjbcediecjaa.Draw Go.Proofs.Ytflnjbcediecjaa.SDraw Go.Proofs.Ytflnjbcediecjaa.Irqs
set_option linter.unusedVariables false
set_option linter.unusedSimpArgs false

theorem pcell {w : World} {base g n c : Nat} {e : TypeId} {l : List Int} (h : w.ownsRow base e 1 (.slice (some ⟨g, 0, none⟩) n c) n (icells l)) (k : Nat) (hk : k < l.length) : w.cell? ⟨g, k, none⟩ = some (.int .i64 l[k]) ∧ g < w.heap.size := by
  have hl := h.1
  simp only [icells, List.length_map] at hl
  have h1 : w.cell? ⟨g, k, none⟩ = some (.int .i64 l[k]) := by rw [h.cellAt k (by omega)]; simp [icells, hk]
  have h2 := World.block_lt_of_cell? w (a := ⟨g, k, none⟩) h1
  exact ⟨h1, h2⟩

set_option maxRecDepth 100000 in
set_option maxHeartbeats 8000000 in
theorem walk (A : Option Addr) (n c : Nat) (hn : n ≤ maxLen) {w : World} (hcode : CodeAt w A n) :
    Calls Try.prog 4 #[.slice A n c] w fun e w' => e = .returned (.bool true) ∧ Below w.heap.size w w' := by
  have hn' : n ≤ 9223372036854775807 := hn
  have HC := Lib.hid (show ∀ W, Below w.heap.size w W → CodeAt W A n from fun W hb => hcode.below hb)
  clear hcode hn
  by_cases h1 : 1048576 < n
  · go_enter Try.func4, Try.ntmps4
    go_wp2_with (go_at_call 11; refine (big_yes A n c _ hn' h1).mono ?_; rintro e w' ⟨rfl, rfl⟩)
    go_ret
    exact ⟨rfl, Below.refl _ _⟩
  · have hn2 : n ≤ 1048576 := by omega
    clear h1 hn'
    go_enter Try.func4, Try.ntmps4
    go_wp2_with (go_at_call 11; refine (big_no A n c _ hn2).mono ?_; rintro e w' ⟨rfl, rfl⟩)
    refine (places_any A n c _ hn2 (HC.out _ (Below.refl _ _))).mono ?_
    rintro e w1 ⟨gp, capp, l, rfl, hl, hall, hown, hb1⟩
    obtain ⟨q0, q1, q2, q3, q4, q5, q6, q7, q8, q9, q10, q11, rfl⟩ := list12 hl
    have hp0 := rem256 q0 (hall q0 (by simp)).1
    have hp1 := rem256 q1 (hall q1 (by simp)).1
    have hp2 := rem256 q2 (hall q2 (by simp)).1
    obtain ⟨x0, hgp⟩ := pcell hown 0 (by simp)
    have x1 := (pcell hown 1 (by simp)).1
    have x2 := (pcell hown 2 (by simp)).1
    simp only [List.getElem_cons_zero, List.getElem_cons_succ] at x0 x1 x2
    have HB0 := Lib.hid hb1
    obtain ⟨a, hqa⟩ : ∃ a, q1.tmod 256 = a := ⟨_, rfl⟩
    obtain ⟨b, hqb⟩ : ∃ a, q2.tmod 256 = a := ⟨_, rfl⟩
    obtain ⟨q, hqq⟩ : ∃ a, q0.tmod 256 = a := ⟨_, rfl⟩
    rw [hqa] at hp1
    rw [hqb] at hp2
    rw [hqq] at hp0
    obtain ⟨hsum, hcnt, wc, wd⟩ := split_facts hp1 hp2
    have wf := fun (p : Int) (h : pend p = true) => byte_wf (pend_iff.1 h).1 (pend_iff.1 h).2
    have h1 := fun V : World => impl_split a b V (wf a hp1) (wf b hp2)
    have h2 := fun V : World => impl_cnt (splitI a b).1 V wc
    have h3 := fun V : World => impl_cnt (splitI a b).2 V wd
    have h4 := fun V : World => impl_cnt a V (wf a hp1)
    have r1 := cnt_range (splitI a b).1
    have r2 := cnt_range (splitI a b).2
    have ra := pend_iff.1 hp1
    have hwa : IntKind.i64.wrap a = a := by rw [IntKind.wrap_i64]; omega
    have r3 := cnt_range a
    generalize splitI a b = z at h1 h2 h3 hsum hcnt wc wd r1 r2
    obtain ⟨d1, d2⟩ := z
    dsimp only at h1 h2 h3 hsum hcnt r1 r2
    generalize cntI d1 = c1 at h2 hcnt r1
    generalize cntI d2 = c2 at h3 hcnt r2
    generalize cntI a = ca at h4 hcnt r3
    have hwc : IntKind.i64.wrap ca = ca := by rw [IntKind.wrap_i64]; omega
    have H1 := Lib.hid h1
    have H2 := Lib.hid h2
    have H3 := Lib.hid h3
    have H4 := Lib.hid h4
    have H5 := Lib.hid (fun V : World => impl_cnt q V (wf q hp0))
    have H6 := Lib.hid (fun (p : Int) (h : pend p = true) (V : World) => impl_take p V (wf p h))
    have HP := Lib.hid hp0
    have hr0 := cnt_range q
    have ht0 := topI_range q
    have X1 := Lib.hid x1
    have X2 := Lib.hid x2
    obtain ⟨N, hN⟩ := Int.eq_ofNat_of_zero_le hr0.1
    have HN := Lib.hid hN
    clear h1 h2 h3 h4 hp0 hp1 hp2 hall hl wc wd hN
    rw [HN.out] at hr0
    go_wp2_with fail
    refine (H5.out _).mono ?_
    rintro e v1 ⟨rfl, hx⟩
    have HB1 := Lib.hid hx
    rw [HN.out]
    clear hx x1 x2 x0 hown hb1
    go_wp2_with fail
    go_loopw [4, 6, 7] (fun vq vl vi wr => ∃ (p last : Int) (i : Nat), i ≤ N ∧ vq = .int .i64 p ∧ vl = .int .i64 last ∧ vi = .int .i64 i ∧ pend p = true ∧ cntI p = (N : Int) - i ∧ topI p < last ∧ Below w1.heap.size w1 wr) (fun _ _ vi _ => N - (intOf vi).toNat)
    case atStart => exact ⟨q, 8, 0, Nat.zero_le _, rfl, rfl, rfl, HP.out, by rw [HN.out]; simp, by omega, HB1.out⟩
    case round =>
      obtain ⟨p, last, i, hi, rfl, rfl, rfl, hp, hc, htop, hb⟩ := hrel
      have HBr := Lib.hid hb
      have K := Lib.hid (H6.out p hp)
      clear hb
      by_cases hlt : i < N
      · have hlt' : (i : Int) < (N : Int) := by omega
        have hi0 : (0 : Int) ≤ (i : Int) := by omega
        have hn0 := top_yes hp (by omega)
        obtain ⟨f1, f2, f3, f4⟩ := take_facts hn0
        have K' := K.out
        generalize takeI p = z at K' f1 f2 f3 f4
        obtain ⟨r, k, took⟩ := z
        dsimp only at K' f1 f2 f3 f4
        injection f4 with f4 f5
        subst f4
        subst f5
        have HF := Lib.hid (And.intro f1 (And.intro (f2.trans (by rw [hc])) f3))
        have hnl : ¬ (topI p ≥ last) := by omega
        have KK := Lib.hid K'
        generalize topI p = k at KK HF hnl htop
        clear K' f1 f2 f3 hc hn0 K htop hp
        go_wp2_with fail
        refine (KK.out _).mono ?_
        rintro e v2 ⟨rfl, hx⟩
        have HB2 := Lib.hid (HBr.out.trans (hx.mono HBr.out.size))
        clear hx
        go_wp2_with fail
        go_roundw
        case rel => exact ⟨r, k, i + 1, by omega, rfl, rfl, by go_num, HF.out.1, by rw [HF.out.2.1]; omega, HF.out.2.2, HB2.out⟩
        case measure => simp [intOf]; omega
      · obtain rfl : i = N := by omega
        have hz : p = 0 := cnt_zero hp (by omega)
        subst hz
        have K' := K.out
        rw [take_none (show topI 0 < 0 by decide +kernel)] at K'
        have KK := Lib.hid K'
        have y1 := (Below.cell (p := ⟨gp, 1, none⟩) HBr.out hgp).trans X1.out
        have y2 := (Below.cell (p := ⟨gp, 2, none⟩) HBr.out hgp).trans X2.out
        clear K K' hp hc htop
        go_wp2_with fail
        have HBd := Lib.hid (Below.drew HBr.out)
        refine Ord.wp_region_ord (fun w' => w'.cell? ⟨gp, 1, none⟩ = some (.int .i64 q1) ∧ w'.cell? ⟨gp, 2, none⟩ = some (.int .i64 q2)) [(0, true), (1, true), (2, true), (3, true), (4, true), (5, true), (6, true), (7, true), (8, false), (9, true), (10, true), (11, true), (12, true), (13, true)] (by kernel_rfl) (by kernel_rfl) rfl (by kernel_rfl) (⟨y1, y2⟩) ?_
        simp only [Ord.ordOps, List.getElem?_toArray, List.getElem?_cons_zero, List.getElem?_cons_succ]
        repeat (first
          | (refine Ord.ord_plain (v := ?_) rfl (fun w' hS => ?_) ?_; rotate_left; (focus ((try dsimp only at hS); go_simp; first | done | with_reducible rfl)); simp only [Act.put, List.setIfInBounds_toArray, List.set_cons_zero, List.set_cons_succ])
          | (refine Ord.ord_skip (by rfl) ?_; simp only [Act.put, List.setIfInBounds_toArray, List.set_cons_zero, List.set_cons_succ])
          | (refine Ord.ord_take (v := ?_) (by rfl) (fun w' hS => ?_) ?_; rotate_left; (focus ((try dsimp only at hS); go_simp; first | done | with_reducible rfl)); simp only [Act.put, List.setIfInBounds_toArray, List.set_cons_zero, List.set_cons_succ]))
        refine Ord.ord_call (fun K hK => ?_)
        go_simp
        refine (H1.out _).mono ?_
        rintro e v3 ⟨rfl, hx⟩
        have hb3 := HBd.out.trans (hx.mono HBd.out.size)
        clear hx
        refine hK.out _ _ (⟨(Below.cell (p := ⟨gp, 1, none⟩) hb3 hgp).trans X1.out, (Below.cell (p := ⟨gp, 2, none⟩) hb3 hgp).trans X2.out⟩) ?_
        clear hK K
        repeat (first
          | (refine Ord.ord_plain (v := ?_) rfl (fun w' hS => ?_) ?_; rotate_left; (focus ((try dsimp only at hS); go_simp; first | done | with_reducible rfl)); simp only [Act.put, List.setIfInBounds_toArray, List.set_cons_zero, List.set_cons_succ])
          | (refine Ord.ord_skip (by rfl) ?_; simp only [Act.put, List.setIfInBounds_toArray, List.set_cons_zero, List.set_cons_succ])
          | (refine Ord.ord_take (v := ?_) (by rfl) (fun w' hS => ?_) ?_; rotate_left; (focus ((try dsimp only at hS); go_simp; first | done | with_reducible rfl)); simp only [Act.put, List.setIfInBounds_toArray, List.set_cons_zero, List.set_cons_succ]))
        refine Ord.ord_nil ?_
        have HB3 := Lib.hid hb3
        clear hb3 y1 y2
        go_wp2_with fail
        refine (KK.out _).mono ?_
        rintro e v4 ⟨rfl, hx⟩
        have HB4 := Lib.hid (HB3.out.trans (hx.mono HB3.out.size))
        clear hx
        have y1 := (Below.cell (p := ⟨gp, 1, none⟩) HB4.out hgp).trans X1.out
        have y2 := (Below.cell (p := ⟨gp, 2, none⟩) HB4.out hgp).trans X2.out
        go_wp2_with fail
        have HB5 := Lib.hid (Below.drew HB4.out)
        refine Ord.wp_region_ord (fun w' => w'.cell? ⟨gp, 1, none⟩ = some (.int .i64 q1) ∧ w'.cell? ⟨gp, 2, none⟩ = some (.int .i64 q2)) [(0, true), (1, true), (2, true), (3, true), (4, true), (5, true), (6, true), (7, true), (8, true), (9, true), (10, true), (11, true), (12, true), (13, true), (14, true), (15, true), (16, true), (17, true), (18, true), (19, true), (20, true), (21, true), (23, true), (26, true), (27, true), (28, true), (29, true), (22, false), (24, false), (25, true), (30, false), (31, true), (32, true), (33, true)] (by kernel_rfl) (by kernel_rfl) rfl (by kernel_rfl) (⟨y1, y2⟩) ?_
        simp only [Ord.ordOps, List.getElem?_toArray, List.getElem?_cons_zero, List.getElem?_cons_succ]
        repeat (first
          | (refine Ord.ord_plain (v := ?_) rfl (fun w' hS => ?_) ?_; rotate_left; (focus ((try dsimp only at hS); go_simp; first | done | with_reducible rfl)); simp only [Act.put, List.setIfInBounds_toArray, List.set_cons_zero, List.set_cons_succ])
          | (refine Ord.ord_skip (by rfl) ?_; simp only [Act.put, List.setIfInBounds_toArray, List.set_cons_zero, List.set_cons_succ])
          | (refine Ord.ord_take (v := ?_) (by rfl) (fun w' hS => ?_) ?_; rotate_left; (focus ((try dsimp only at hS); go_simp; first | done | with_reducible rfl)); simp only [Act.put, List.setIfInBounds_toArray, List.set_cons_zero, List.set_cons_succ]))
        refine Ord.ord_call (fun K hK => ?_)
        go_simp
        refine (H2.out _).mono ?_
        rintro e v6 ⟨rfl, hx⟩
        have hb6 := HB5.out.trans (hx.mono HB5.out.size)
        clear hx
        refine hK.out _ _ (⟨(Below.cell (p := ⟨gp, 1, none⟩) hb6 hgp).trans X1.out, (Below.cell (p := ⟨gp, 2, none⟩) hb6 hgp).trans X2.out⟩) ?_
        clear hK K
        repeat (first
          | (refine Ord.ord_plain (v := ?_) rfl (fun w' hS => ?_) ?_; rotate_left; (focus ((try dsimp only at hS); go_simp; first | done | with_reducible rfl)); simp only [Act.put, List.setIfInBounds_toArray, List.set_cons_zero, List.set_cons_succ])
          | (refine Ord.ord_skip (by rfl) ?_; simp only [Act.put, List.setIfInBounds_toArray, List.set_cons_zero, List.set_cons_succ])
          | (refine Ord.ord_take (v := ?_) (by rfl) (fun w' hS => ?_) ?_; rotate_left; (focus ((try dsimp only at hS); go_simp; first | done | with_reducible rfl)); simp only [Act.put, List.setIfInBounds_toArray, List.set_cons_zero, List.set_cons_succ]))
        refine Ord.ord_call (fun K hK => ?_)
        go_simp
        refine (H3.out _).mono ?_
        rintro e v7 ⟨rfl, hx⟩
        have hb7 := hb6.trans (hx.mono hb6.size)
        clear hx
        refine hK.out _ _ (⟨(Below.cell (p := ⟨gp, 1, none⟩) hb7 hgp).trans X1.out, (Below.cell (p := ⟨gp, 2, none⟩) hb7 hgp).trans X2.out⟩) ?_
        clear hK K
        repeat (first
          | (refine Ord.ord_plain (v := ?_) rfl (fun w' hS => ?_) ?_; rotate_left; (focus ((try dsimp only at hS); go_simp; first | done | with_reducible rfl)); simp only [Act.put, List.setIfInBounds_toArray, List.set_cons_zero, List.set_cons_succ])
          | (refine Ord.ord_skip (by rfl) ?_; simp only [Act.put, List.setIfInBounds_toArray, List.set_cons_zero, List.set_cons_succ])
          | (refine Ord.ord_take (v := ?_) (by rfl) (fun w' hS => ?_) ?_; rotate_left; (focus ((try dsimp only at hS); go_simp; first | done | with_reducible rfl)); simp only [Act.put, List.setIfInBounds_toArray, List.set_cons_zero, List.set_cons_succ]))
        refine Ord.ord_call (fun K hK => ?_)
        go_simp
        refine (H4.out _).mono ?_
        rintro e v8 ⟨rfl, hx⟩
        have hb8 := hb7.trans (hx.mono hb7.size)
        clear hx
        refine hK.out _ _ (⟨(Below.cell (p := ⟨gp, 1, none⟩) hb8 hgp).trans X1.out, (Below.cell (p := ⟨gp, 2, none⟩) hb8 hgp).trans X2.out⟩) ?_
        clear hK K
        repeat (first
          | (refine Ord.ord_plain (v := ?_) rfl (fun w' hS => ?_) ?_; rotate_left; (focus ((try dsimp only at hS); go_simp; first | done | with_reducible rfl)); simp only [Act.put, List.setIfInBounds_toArray, List.set_cons_zero, List.set_cons_succ])
          | (refine Ord.ord_skip (by rfl) ?_; simp only [Act.put, List.setIfInBounds_toArray, List.set_cons_zero, List.set_cons_succ])
          | (refine Ord.ord_take (v := ?_) (by rfl) (fun w' hS => ?_) ?_; rotate_left; (focus ((try dsimp only at hS); go_simp; first | done | with_reducible rfl)); simp only [Act.put, List.setIfInBounds_toArray, List.set_cons_zero, List.set_cons_succ]))
        refine Ord.ord_nil ?_
        have HZ := Lib.hid (btr HB0.out hb8)
        clear hb6 hb7 hb8 y1 y2
        go_wp2_with fail
        go_ret
        exact ⟨rfl, HZ.out⟩

/-! ### The row's step -/
set_option maxRecDepth 100000 in
theorem lifted (os : Os) (started : os.Started) (H : Type) (enc : TypeId × Value → H) :
    ReturnsInHanded {} Try.checked os 4 .any (Rows.fnIrqOrderSpec.pre6 enc Try.prog Try.f4 Rows.fnIrqOrderRow.domain false) (Rows.fnIrqOrderSpec.post enc Try.prog Try.f4 false true false false) := by
  refine returnsInHanded_of_change (C := Try.checked) Base.own started (by kernel_rfl) Try.func4
    (ChangeSpec.witness6 (enc := enc) (C := Try.checked) false ⟨#[], #[.slice none 0 0], []⟩ 8 (by kernel_rfl) (by kernel_rfl) (by kernel_rfl) (by kernel_rfl)) ?_
  intro W base args ds gs before hval0 hW hcnd _
  have hval : ∀ (j : Nat) t v, Try.f4.params[j]? = some t → args[j]? = some v → Value.okWide Try.prog W .any base t v := hval0
  have hW' := hW
  obtain ⟨p, q, hA0, hV, rfl, hfz, hnd⟩ := hW
  have hA : DataW.TrodAll enc Try.prog W 0 (fun _ => true) true Try.f4.params.toList args.toList ds p := hA0
  have hA1 := hA
  rw [Try.params4] at hA hval
  obtain ⟨v0, vs0, d0, ds0, p0, q0, hargs, rfl, rfl, h0, r0⟩ := trodAll_cons hA
  obtain ⟨rfl, rfl, rfl⟩ := trodAll_nil r0
  obtain rfl : args = #[v0] := by cases args; simp_all
  obtain ⟨rfl, rfl⟩ := trodVars_none hV
  obtain ⟨A0, n0, c0, rfl, hn0, hcode0, _⟩ := Draw.open_code (hval 0 22 v0 rfl rfl) h0
  clear hA0 hval0
  rw [List.append_nil] at hW'
  refine (walk A0 n0 c0 hn0 hcode0).mono fun e W' ⟨he, hg⟩ => ?_
  subst he
  exact ⟨_, rfl, Mem.post_args Slots.laid (by kernel_rfl) rfl rfl rfl hW' hA1 hg (fun _ _ _ => (trodAll_cons_mk (shut_bool Try.underlying4 _) trodAll_mk0)) (ok_one (by kernel_rfl) rfl (okWide_bool_mk Try.underlying4 _))⟩

theorem over : Rows.fnIrqOrderRow.holds Try.pinned (OpenSpec.ofChange Rows.fnIrqOrderSpec) :=
  OpenClaim.holds_of_wide 4 Try.f4 rfl rfl rfl rfl rfl rfl rfl ⟨rfl, rfl, rfl, rfl, rfl⟩ rfl rfl rfl rfl rfl (by kernel_rfl) Try.func4 (by kernel_rfl)
    (of_decide_eq_true (by kernel_rfl)) (by unfold Func.isWrapper; first | (rw [if_pos (by decide +kernel)]; kernel_rfl) | (rw [if_neg (by decide +kernel)]; exact ⟨rfl, rfl⟩))
    (fun os started H enc _ => lifted os started H enc)

/-- The given statement. -/
theorem proved : Rows.FnIrqOrderSaid :=
  over
#print axioms proved
end Go.Proofs.Ytflnjbcediecjaa.fnIrqOrder
