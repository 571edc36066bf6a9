/-
  For every slice of bytes the law FnComposed returns true: the composition grants no more than either table, and restricting one table restricts the composition. No condition.
-/
import Derived.Test.YtecnkcmhgnbdmaaTwoLaws
import Derived.Test.YtecnkcmhgnbdmaaTwoDraws
import Derived.Test.YtecnkcmhgnbdmaaSlotArgs
import Derived.Test.YtecnkcmhgnbdmaaBig
namespace Go.Proofs.Ytecnkcmhgnbdmaa.fnComposed
open Go.ChangeShapes Go.WideShapes Go.ChangeAt Go.RowKit
open Go.Proofs.Ytecnkcmhgnbdmaa.Base Go.Proofs.Ytecnkcmhgnbdmaa.Mem Go.Proofs.Ytecnkcmhgnbdmaa.Slots Go.Proofs.Ytecnkcmhgnbdmaa.Ints Go.Proofs.Ytecnkcmhgnbdmaa.Draw Go.Proofs.Ytecnkcmhgnbdmaa.SDraw
set_option linter.unusedVariables false

theorem compS_good (s : Sl) (o : List Sl) : compS s o = (-1, 0) ∨ ((compS s o).1 ≠ -1 ∧ belowS (compS s o) (atS o s.1) = true ∧ Rights.enough s.2 (compS s o).2 = true) := by
  by_cases h : compS s o = (-1, 0)
  · exact .inl h
  · refine .inr ⟨fun e => h ?_, compS_below h⟩
    unfold compS at e h ⊢
    by_cases h1 : (atS o s.1).1 = -1
    · rw [if_pos h1]
    · rw [if_neg h1] at e h
      unfold grantS at e h
      split at e
      · rename_i h2; rw [if_pos h2] at h; exact absurd rfl h
      · exact absurd e h1
theorem one_eq : compS (1, 3) [(5, 3), (7, 1)] = (7, 1) := by decide +kernel
theorem wfL_lit : wfL [(5, 3), (7, 1)] := fun s hs => by
  simp only [List.mem_cons, List.not_mem_nil, or_false] at hs
  rcases hs with rfl | rfl <;> exact ⟨by decide, by decide⟩
theorem lies_lit (V : World) : Lies (V.alloc (.cells #[.int .i64 5, .int .i64 3, .int .i64 7, .int .i64 1] 30)) 0 (V.alloc (.cells #[.int .i64 5, .int .i64 3, .int .i64 7, .int .i64 1] 30)).heap.size (some ⟨V.heap.size, 0, none⟩) (scells [(5, 3), (7, 1)]) := fun j u hu => by
  have hj := (List.getElem?_eq_some_iff.1 hu).1
  rw [scells_len] at hj
  refine ⟨V.heap.size, 0, rfl, Nat.zero_le _, by simp, ?_⟩
  rw [Nat.zero_add]
  rw [← hu]
  simp at hj
  have hj' : j = 0 ∨ j = 1 ∨ j = 2 ∨ j = 3 := by omega
  rcases hj' with rfl | rfl | rfl | rfl <;> exact cell_of_row _ _ _ _ _ _ (heap_alloc_new V _)
theorem lit_two (w : World) (x y : Int) : Two ((w.alloc (.cells #[.int .i64 x, .int .i64 y] 30)).alloc (.cells #[.int .i64 5, .int .i64 3, .int .i64 7, .int .i64 1] 30)) w.heap.size (.int .i64 x) (.int .i64 y) ∧
    Lies ((w.alloc (.cells #[.int .i64 x, .int .i64 y] 30)).alloc (.cells #[.int .i64 5, .int .i64 3, .int .i64 7, .int .i64 1] 30)) 0 ((w.alloc (.cells #[.int .i64 x, .int .i64 y] 30)).alloc (.cells #[.int .i64 5, .int .i64 3, .int .i64 7, .int .i64 1] 30)).heap.size (some ⟨w.heap.size + 1, 0, none⟩) (scells [(5, 3), (7, 1)]) ∧
    Below w.heap.size w ((w.alloc (.cells #[.int .i64 x, .int .i64 y] 30)).alloc (.cells #[.int .i64 5, .int .i64 3, .int .i64 7, .int .i64 1] 30)) := by
  refine ⟨(Two.new w _ _ 30).alloc _, ?_, ((Below.refl _ _).alloc (Nat.le_refl _) _).alloc (by simp) _⟩
  have := lies_lit (w.alloc (.cells #[.int .i64 x, .int .i64 y] 30))
  rwa [show (w.alloc (.cells #[.int .i64 x, .int .i64 y] 30)).heap.size = w.heap.size + 1 by simp] at this

set_option maxRecDepth 100000 in
set_option maxHeartbeats 8000000 in
theorem walk (A : Option Addr) (n c : Nat) (hn : n ≤ maxLen) {w : World} (hcode : CodeAt w A n) :
    Calls Try.prog 3 #[.slice A n c] w fun e w' => e = .returned (.bool true) ∧ Below w.heap.size w w' := by
  have hn' : n ≤ 9223372036854775807 := hn
  have HC := Lib.hid (show ∀ W, Below w.heap.size w W → CodeAt W A n from fun W hb => hcode.below hb)
  clear hcode hn
  by_cases h1 : 1048576 < n
  · go_enter Try.func3, Try.ntmps3
    go_wp2_with (go_at_call 11; refine (big_yes A n c _ hn' h1).mono ?_; rintro e w' ⟨rfl, rfl⟩)
    go_ret
    exact ⟨rfl, Below.refl _ _⟩
  · have hn2 : n ≤ 1048576 := by omega
    clear h1 hn'
    go_enter Try.func3, Try.ntmps3
    go_wp2_with (go_at_call 11; refine (big_no A n c _ hn2).mono ?_; rintro e w' ⟨rfl, rfl⟩)
    go_wp2_with fail
    refine (drawCompose_any A n c _ hn2 (HC.out _ (Below.refl _ _))).mono ?_
    rintro e w1 ⟨adl, nl, cl, l, ado, no, co, o, rfl, hTl, hTo, hb1⟩
    have HLl := Lib.hid hTl.2.1
    have HWl := Lib.hid hTl.2.2.1
    have hml : nl ≤ 1048576 := by have := hTl.1; omega
    have HLo := Lib.hid hTo.2.1
    have HWo := Lib.hid hTo.2.2.1
    have hmo : no ≤ 1048576 := by have := hTo.1; omega
    have fl := hTl.2.2.2
    have fo := hTo.2.2.2
    have hB1 := btr (Below.refl _ _) hb1
    have hS1 := hb1.size
    clear hTl hTo hb1
    have hOl_1 := Lib.hid fl
    have hOo_1 := Lib.hid fo
    clear fl fo
    have hC := (compL_len l o).trans HLl.out
    have kC := fun (A B : Option Addr) (c d : Nat) (V : World) (h1 : Lies V 0 V.heap.size A (scells l)) (h2 : Lies V 0 V.heap.size B (scells o)) => impl_compose A B nl no c d l o V hml hmo HLl.out HLo.out HWl.out HWo.out h1 h2
    have kS := fun (A B : Option Addr) (c d : Nat) (V : World) (h1 : Lies V 0 V.heap.size A (scells l)) (h2 : Lies V 0 V.heap.size B (scells o)) => spec_compose A B nl no c d l o V hml hmo HLl.out HLo.out h1 h2
    have hQ : ∀ (k : Nat) (h : k < l.length) (h' : k < (compL l o).length), (compL l o)[k] = (-1, 0) ∨ ((compL l o)[k].1 ≠ -1 ∧ belowS (compL l o)[k] (atS o l[k].1) = true ∧ Rights.enough l[k].2 (compL l o)[k].2 = true) := fun k h h' => by
      rw [show (compL l o)[k] = compS l[k] o by simp [compL]]
      exact compS_good _ _
    have wC := wf_compL (l := l) HWo.out
    generalize compL l o = C at hC kC kS hQ wC
    have HLC := Lib.hid hC
    have KC := Lib.hid kC
    have KS := Lib.hid kS
    have HQ := Lib.hid hQ
    have HWC := Lib.hid wC
    clear hC kC kS hQ wC
    go_wp2_with fail
    refine (KC.out _ _ _ _ _ (hOl_1.out.wide (Nat.zero_le _) (by omega)) (hOo_1.out.wide (Nat.zero_le _) (by omega))).mono ?_
    rintro e w2 ⟨ad2, d2, rfl, hc2, ho2, hb2⟩
    have hB2 := btr hB1 hb2
    have hS2 := hb2.size
    have hOl_2 := Lib.hid (hOl_1.out.below hb2 (by omega))
    have hOo_2 := Lib.hid (hOo_1.out.below hb2 (by omega))
    have hOc_2 := Lib.hid ho2
    clear hOl_1 hOo_1 hc2 ho2 hb2
    go_wp2_with fail
    refine (KS.out _ _ _ _ _ (hOl_2.out.wide (Nat.zero_le _) (by omega)) (hOo_2.out.wide (Nat.zero_le _) (by omega))).mono ?_
    rintro e w3 ⟨ad3, d3, rfl, hc3, ho3, hb3⟩
    have hB3 := btr hB2 hb3
    have hS3 := hb3.size
    have hOl_3 := Lib.hid (hOl_2.out.below hb3 (by omega))
    have hOo_3 := Lib.hid (hOo_2.out.below hb3 (by omega))
    have hOc_3 := Lib.hid (hOc_2.out.below hb3 (by omega))
    have hOu_3 := Lib.hid ho3
    clear hOl_2 hOo_2 hOc_2 hc3 ho3 hb3
    go_wp2_with fail
    refine (same_true (some ad2) (some ad3) nl d2 d3 _ _ _ _ C _ hml HLC.out hOc_3.out.1 hOu_3.out.1).mono ?_
    rintro e w4 ⟨rfl, hb4⟩
    have hB4 := btr hB3 hb4
    have hS4 := hb4.size
    have hOl_4 := Lib.hid (hOl_3.out.below hb4 (by omega))
    have hOo_4 := Lib.hid (hOo_3.out.below hb4 (by omega))
    have hOc_4 := Lib.hid (hOc_3.out.below hb4 (by omega))
    have hOu_4 := Lib.hid (hOu_3.out.below hb4 (by omega))
    clear hOl_3 hOo_3 hOc_3 hOu_3 hb4
    clear hOu_4
    have HKl := Lib.hid (show ∀ W, Below w4.heap.size w4 W → Lies W 0 W.heap.size (some adl) (scells l) from fun W hb => (hOl_4.out.below hb (by omega)).wide (Nat.zero_le _) (Nat.le_trans (by omega) hb.size))
    have HKo := Lib.hid (show ∀ W, Below w4.heap.size w4 W → Lies W 0 W.heap.size (some ado) (scells o) from fun W hb => (hOo_4.out.below hb (by omega)).wide (Nat.zero_le _) (Nat.le_trans (by omega) hb.size))
    have HKc := Lib.hid (show ∀ W, Below w4.heap.size w4 W → Lies W 0 W.heap.size (some ad2) (scells C) from fun W hb => (hOc_4.out.1.below hb (by omega)).wide (Nat.zero_le _) (Nat.le_trans (by omega) hb.size))
    have HB0 := Lib.hid hB4
    clear hOl_4 hOo_4 hOc_4 hB4
    go_wp2_with fail
    go_loopw [6, 7] (fun i _ wr => ∃ (k : Nat), k ≤ nl ∧ i = .int .i64 k ∧ Below w4.heap.size w4 wr) (fun i _ _ => nl - (intOf i).toNat)
    case atStart => exact ⟨0, Nat.zero_le _, rfl, Below.refl _ _⟩
    case round =>
      obtain ⟨k, hk, rfl, hb⟩ := hrel
      have hbs := hb.size
      by_cases hlt : k < nl
      · have hkl : k < l.length := by have := HLl.out; omega
        have hkC : k < C.length := by have := HLC.out; omega
        obtain ⟨bl, ol, hel, _, hbl, l1, l2⟩ := slot_at (HKl.out wr hb) k hkl
        obtain ⟨bc, oc, hec, _, hbc, c1, c2⟩ := slot_at (HKc.out wr hb) k hkC
        have fo := HKo.out
        obtain rfl : adl = ⟨bl, ol, none⟩ := Option.some.inj hel
        obtain rfl : ad2 = ⟨bc, oc, none⟩ := Option.some.inj hec
        have hj0 : (0 : Int) ≤ (k : Int) := Int.natCast_nonneg _
        have hj1 : (k : Int) < (nl : Int) := by omega
        have hq := HQ.out k hkl hkC
        have w1' := (HWC.out _ (List.getElem_mem hkC)).2
        have w2' := (wf_atS HWo.out l[k].1).2
        have hA := fun (V : World) (hV : Below wr.heap.size wr V) => spec_at (some ado) no co 0 l[k].1 o V hmo HLo.out (HKo.out V (hb.trans (hV.mono hb.size)))
        rw [show C[k] = (C[k].1, C[k].2) from rfl] at hq
        generalize atS o l[k].1 = s at hq w2' hA
        generalize l[k].1 = lx at l1 hA
        generalize l[k].2 = ly at l2 hq
        generalize C[k].1 = cx at c1 hq
        generalize C[k].2 = cy at c2 hq w1'
        obtain ⟨sx, sy⟩ := s
        dsimp only at hq w2'
        have HA := Lib.hid hA
        clear hA fo hel hec
        rcases hq with hq | ⟨q1, q2, q3⟩
        · obtain ⟨rfl, rfl⟩ : cx = -1 ∧ cy = 0 := ⟨congrArg Prod.fst hq, congrArg Prod.snd hq⟩
          clear hq
          go_wp2_with fail
          refine Ord.wp_region_ord (fun w' => w'.cell? ⟨bc, oc + k * 2, none⟩ = some (.int .i64 (-1)) ∧ w'.cell? ⟨bc, oc + k * 2 + 1, none⟩ = some (.int .i64 0)) [(0, true), (1, true), (2, true), (3, true), (4, false), (5, true)] (by kernel_rfl) (by kernel_rfl) rfl (by kernel_rfl) (⟨c1, c2⟩) ?_
          simp only [Ord.ordOps, List.getElem?_toArray, List.getElem?_cons_zero, List.getElem?_cons_succ]
          repeat (first
            | (refine Ord.ord_plain (v := ?_) rfl (fun w' hS => ?_) ?_; rotate_left; (focus ((try dsimp only at hS); go_simp; first | done | with_reducible rfl)); simp only [Act.put, List.setIfInBounds_toArray, List.set_cons_zero, List.set_cons_succ])
            | (refine Ord.ord_skip (by rfl) ?_; simp only [Act.put, List.setIfInBounds_toArray, List.set_cons_zero, List.set_cons_succ])
            | (refine Ord.ord_take (v := ?_) (by rfl) (fun w' hS => ?_) ?_; rotate_left; (focus ((try dsimp only at hS); go_simp; first | done | with_reducible rfl)); simp only [Act.put, List.setIfInBounds_toArray, List.set_cons_zero, List.set_cons_succ]))
          refine Ord.ord_call (fun K hK => ?_)
          go_simp
          go_wp2_with fail
          refine (spec_no _).mono ?_
          rintro e W1 ⟨rfl, hb1⟩
          have e1 := (hb1.cell (p := ⟨bc, oc + k * 2, none⟩) hbc).trans c1
          have e2 := (hb1.cell (p := ⟨bc, oc + k * 2 + 1, none⟩) hbc).trans c2
          have HR1 := Lib.hid (show Below wr.heap.size wr W1 from btr ((Below.refl wr.heap.size wr).drew) hb1)
          clear hb1
          refine hK.out _ _ (⟨e1, e2⟩) ?_
          clear hK K
          repeat (first
            | (refine Ord.ord_plain (v := ?_) rfl (fun w' hS => ?_) ?_; rotate_left; (focus ((try dsimp only at hS); go_simp; first | done | with_reducible rfl)); simp only [Act.put, List.setIfInBounds_toArray, List.set_cons_zero, List.set_cons_succ])
            | (refine Ord.ord_skip (by rfl) ?_; simp only [Act.put, List.setIfInBounds_toArray, List.set_cons_zero, List.set_cons_succ])
            | (refine Ord.ord_take (v := ?_) (by rfl) (fun w' hS => ?_) ?_; rotate_left; (focus ((try dsimp only at hS); go_simp; first | done | with_reducible rfl)); simp only [Act.put, List.setIfInBounds_toArray, List.set_cons_zero, List.set_cons_succ]))
          refine Ord.ord_nil ?_
          have HF := Lib.hid (hb.trans (HR1.out.mono hb.size))
          clear e1 e2
          go_wp2_with fail
          go_roundw
          case rel => exact ⟨k + 1, by omega, by go_num, HF.out⟩
          case measure => simp [intOf]; omega
        · have q1' : (cx == -1) = false := by simpa using q1
          have hE := fun V : World => impl_below cx cy sx sy V w1' w2'
          rw [q2] at hE
          have hG := fun V : World => Rights.spec_enough ly cy V
          rw [q3] at hG
          have HE := Lib.hid hE
          have HG := Lib.hid hG
          clear hE hG q1 q2 q3 w1' w2'
          go_wp2_with fail
          refine Ord.wp_region_ord (fun w' => w'.cell? ⟨bc, oc + k * 2, none⟩ = some (.int .i64 cx) ∧ w'.cell? ⟨bc, oc + k * 2 + 1, none⟩ = some (.int .i64 cy)) [(0, true), (1, true), (2, true), (3, true), (4, false), (5, true)] (by kernel_rfl) (by kernel_rfl) rfl (by kernel_rfl) (⟨c1, c2⟩) ?_
          simp only [Ord.ordOps, List.getElem?_toArray, List.getElem?_cons_zero, List.getElem?_cons_succ]
          repeat (first
            | (refine Ord.ord_plain (v := ?_) rfl (fun w' hS => ?_) ?_; rotate_left; (focus ((try dsimp only at hS); go_simp; first | done | with_reducible rfl)); simp only [Act.put, List.setIfInBounds_toArray, List.set_cons_zero, List.set_cons_succ])
            | (refine Ord.ord_skip (by rfl) ?_; simp only [Act.put, List.setIfInBounds_toArray, List.set_cons_zero, List.set_cons_succ])
            | (refine Ord.ord_take (v := ?_) (by rfl) (fun w' hS => ?_) ?_; rotate_left; (focus ((try dsimp only at hS); go_simp; first | done | with_reducible rfl)); simp only [Act.put, List.setIfInBounds_toArray, List.set_cons_zero, List.set_cons_succ]))
          refine Ord.ord_call (fun K hK => ?_)
          go_simp
          go_wp2_with fail
          refine (spec_no _).mono ?_
          rintro e W1 ⟨rfl, hb1⟩
          have e1 := (hb1.cell (p := ⟨bc, oc + k * 2, none⟩) hbc).trans c1
          have e2 := (hb1.cell (p := ⟨bc, oc + k * 2 + 1, none⟩) hbc).trans c2
          have HR1 := Lib.hid (show Below wr.heap.size wr W1 from btr ((Below.refl wr.heap.size wr).drew) hb1)
          clear hb1
          refine hK.out _ _ (⟨e1, e2⟩) ?_
          clear hK K
          repeat (first
            | (refine Ord.ord_plain (v := ?_) rfl (fun w' hS => ?_) ?_; rotate_left; (focus ((try dsimp only at hS); go_simp; first | done | with_reducible rfl)); simp only [Act.put, List.setIfInBounds_toArray, List.set_cons_zero, List.set_cons_succ])
            | (refine Ord.ord_skip (by rfl) ?_; simp only [Act.put, List.setIfInBounds_toArray, List.set_cons_zero, List.set_cons_succ])
            | (refine Ord.ord_take (v := ?_) (by rfl) (fun w' hS => ?_) ?_; rotate_left; (focus ((try dsimp only at hS); go_simp; first | done | with_reducible rfl)); simp only [Act.put, List.setIfInBounds_toArray, List.set_cons_zero, List.set_cons_succ]))
          refine Ord.ord_nil ?_
          have m1 := (HR1.out.cell (p := ⟨bl, ol + k * 2, none⟩) hbl).trans l1
          have m2 := (HR1.out.cell (p := ⟨bl, ol + k * 2 + 1, none⟩) hbl).trans l2
          go_wp2_with fail
          refine (HA.out _ HR1.out).mono ?_
          rintro e W2 ⟨rfl, hb2⟩
          have HR2 := Lib.hid (btr (btr HR1.out hb2) ((Below.refl _ _).alloc (Nat.le_refl _) (.cells #[.int .i64 sx, .int .i64 sy] 30)))
          have t7 := Two.new W2 (.int .i64 sx) (.int .i64 sy) 30
          clear hb2 e1 e2 m1 m2 HR1
          go_wp2_with fail
          generalize W2.alloc (.cells #[.int .i64 sx, .int .i64 sy] 30) = W3 at HR2 t7 ⊢
          have hs3 : (fun w' => (w'.cell? ⟨bc, oc + k * 2, none⟩ = some (.int .i64 cx) ∧ w'.cell? ⟨bc, oc + k * 2 + 1, none⟩ = some (.int .i64 cy)) ∧ (w'.cell? ⟨bl, ol + k * 2, none⟩ = some (.int .i64 lx) ∧ w'.cell? ⟨bl, ol + k * 2 + 1, none⟩ = some (.int .i64 ly)) ∧ w'.cell? ⟨W2.heap.size, 0, none⟩ = some (.int .i64 sx) ∧ w'.cell? ⟨W2.heap.size, 1, none⟩ = some (.int .i64 sy)) W3 := ⟨⟨(HR2.out.cell (p := ⟨bc, oc + k * 2, none⟩) hbc).trans c1, (HR2.out.cell (p := ⟨bc, oc + k * 2 + 1, none⟩) hbc).trans c2⟩, ⟨(HR2.out.cell (p := ⟨bl, ol + k * 2, none⟩) hbl).trans l1, (HR2.out.cell (p := ⟨bl, ol + k * 2 + 1, none⟩) hbl).trans l2⟩, t7.1, t7.2.1⟩
          refine Ord.wp_region_ord (fun w' => (w'.cell? ⟨bc, oc + k * 2, none⟩ = some (.int .i64 cx) ∧ w'.cell? ⟨bc, oc + k * 2 + 1, none⟩ = some (.int .i64 cy)) ∧ (w'.cell? ⟨bl, ol + k * 2, none⟩ = some (.int .i64 lx) ∧ w'.cell? ⟨bl, ol + k * 2 + 1, none⟩ = some (.int .i64 ly)) ∧ w'.cell? ⟨W2.heap.size, 0, none⟩ = some (.int .i64 sx) ∧ w'.cell? ⟨W2.heap.size, 1, none⟩ = some (.int .i64 sy)) [(0, true), (1, true), (2, true), (3, true), (4, true), (5, false), (6, true), (7, true), (8, true), (9, true), (10, true), (11, true), (12, true), (13, true), (14, true), (15, true), (16, true), (17, true), (18, false), (19, true), (20, true)] (by kernel_rfl) (by kernel_rfl) rfl (by kernel_rfl) (hs3) ?_
          simp only [Ord.ordOps, List.getElem?_toArray, List.getElem?_cons_zero, List.getElem?_cons_succ]
          repeat (first
            | (refine Ord.ord_plain (v := ?_) rfl (fun w' hS => ?_) ?_; rotate_left; (focus ((try dsimp only at hS); go_simp; first | done | with_reducible rfl)); simp only [Act.put, List.setIfInBounds_toArray, List.set_cons_zero, List.set_cons_succ])
            | (refine Ord.ord_skip (by rfl) ?_; simp only [Act.put, List.setIfInBounds_toArray, List.set_cons_zero, List.set_cons_succ])
            | (refine Ord.ord_take (v := ?_) (by rfl) (fun w' hS => ?_) ?_; rotate_left; (focus ((try dsimp only at hS); go_simp; first | done | with_reducible rfl)); simp only [Act.put, List.setIfInBounds_toArray, List.set_cons_zero, List.set_cons_succ]))
          refine Ord.ord_call (fun K hK => ?_)
          go_simp
          go_wp2_with fail
          refine (HE.out _).mono ?_
          rintro e W4 ⟨rfl, hb4⟩
          have HR4 := Lib.hid (show Below wr.heap.size wr W4 from btr HR2.out.drew hb4)
          have t8 := t7.drew.below hb4
          have hs4 : (fun w' => (w'.cell? ⟨bc, oc + k * 2, none⟩ = some (.int .i64 cx) ∧ w'.cell? ⟨bc, oc + k * 2 + 1, none⟩ = some (.int .i64 cy)) ∧ (w'.cell? ⟨bl, ol + k * 2, none⟩ = some (.int .i64 lx) ∧ w'.cell? ⟨bl, ol + k * 2 + 1, none⟩ = some (.int .i64 ly)) ∧ w'.cell? ⟨W2.heap.size, 0, none⟩ = some (.int .i64 sx) ∧ w'.cell? ⟨W2.heap.size, 1, none⟩ = some (.int .i64 sy)) W4 := ⟨⟨(HR4.out.cell (p := ⟨bc, oc + k * 2, none⟩) hbc).trans c1, (HR4.out.cell (p := ⟨bc, oc + k * 2 + 1, none⟩) hbc).trans c2⟩, ⟨(HR4.out.cell (p := ⟨bl, ol + k * 2, none⟩) hbl).trans l1, (HR4.out.cell (p := ⟨bl, ol + k * 2 + 1, none⟩) hbl).trans l2⟩, t8.1, t8.2.1⟩
          clear hb4 t8
          refine hK.out _ _ (hs4) ?_
          clear hK K
          repeat (first
            | (refine Ord.ord_plain (v := ?_) rfl (fun w' hS => ?_) ?_; rotate_left; (focus ((try dsimp only at hS); go_simp; first | done | with_reducible rfl)); simp only [Act.put, List.setIfInBounds_toArray, List.set_cons_zero, List.set_cons_succ])
            | (refine Ord.ord_skip (by rfl) ?_; simp only [Act.put, List.setIfInBounds_toArray, List.set_cons_zero, List.set_cons_succ])
            | (refine Ord.ord_take (v := ?_) (by rfl) (fun w' hS => ?_) ?_; rotate_left; (focus ((try dsimp only at hS); go_simp; first | done | with_reducible rfl)); simp only [Act.put, List.setIfInBounds_toArray, List.set_cons_zero, List.set_cons_succ]))
          refine Ord.ord_call (fun K hK => ?_)
          go_simp
          go_wp2_with fail
          refine (HG.out _).mono ?_
          rintro e w' ⟨rfl, rfl⟩
          refine hK.out _ _ (hs4) ?_
          clear hK K
          repeat (first
            | (refine Ord.ord_plain (v := ?_) rfl (fun w' hS => ?_) ?_; rotate_left; (focus ((try dsimp only at hS); go_simp; first | done | with_reducible rfl)); simp only [Act.put, List.setIfInBounds_toArray, List.set_cons_zero, List.set_cons_succ])
            | (refine Ord.ord_skip (by rfl) ?_; simp only [Act.put, List.setIfInBounds_toArray, List.set_cons_zero, List.set_cons_succ])
            | (refine Ord.ord_take (v := ?_) (by rfl) (fun w' hS => ?_) ?_; rotate_left; (focus ((try dsimp only at hS); go_simp; first | done | with_reducible rfl)); simp only [Act.put, List.setIfInBounds_toArray, List.set_cons_zero, List.set_cons_succ]))
          refine Ord.ord_nil ?_
          have HF := Lib.hid (hb.trans (HR4.out.mono hb.size))
          clear hs3 hs4 t7
          go_wp2_with fail
          go_roundw
          case rel => exact ⟨k + 1, by omega, by go_num, HF.out⟩
          case measure => simp [intOf]; omega
      · obtain rfl : k = nl := by omega
        have HBr := Lib.hid (btr HB0.out hb)
        have hOl := Lib.hid (HKl.out wr hb)
        have hOo := Lib.hid (HKo.out wr hb)
        have hOc := Lib.hid (HKc.out wr hb)
        clear HKl HKo HKc HB0 hb hlt hk KC KS HQ HWC hOl hOo hOc
        have hS20 := HBr.out.size
        go_wp2_with fail
        refine (drawBelow_any A n c _ hn2 (HC.out _ HBr.out)).mono ?_
        rintro e w21 ⟨a1, a2, b1, b2, rfl, hwa, hwb, hb21⟩
        have HWa := Lib.hid hwa
        have HWb := Lib.hid hwb
        have hB21 := btr HBr.out hb21
        have hS21 := hb21.size
        clear hwa hwb hb21
        obtain ⟨ht22, hu22, hb22⟩ := two_two w21 (.int .i64 a1) (.int .i64 a2) (.int .i64 b1) (.int .i64 b2) 30 30
        have hB22 := btr hB21 hb22
        have hS22 := hb22.size
        have hOa_22 := Lib.hid ht22
        have hOb_22 := Lib.hid hu22
        clear hb22 ht22 hu22
        go_wp2_with fail
        generalize ((w21.alloc (.cells #[.int .i64 a1, .int .i64 a2] 30)).alloc (.cells #[.int .i64 b1, .int .i64 b2] 30)) = Wa at hOa_22 hOb_22 hS22 hB22 ⊢
        refine (drawTableBelow_any A n c _ hn2 (HC.out _ hB22)).mono ?_
        rintro e w23 ⟨adt, nt, ct, t, adu, nu, cu, u, rfl, hTt, hTu, hb23⟩
        have HLt := Lib.hid hTt.2.1
        have HWt := Lib.hid hTt.2.2.1
        have hmt : nt ≤ 1048576 := by have := hTt.1; omega
        have HLu := Lib.hid hTu.2.1
        have HWu := Lib.hid hTu.2.2.1
        have hmu : nu ≤ 1048576 := by have := hTu.1; omega
        have hB23 := btr hB22 hb23
        have hS23 := hb23.size
        have hOa_23 := Lib.hid (hOa_22.out.below hb23 )
        have hOb_23 := Lib.hid (hOb_22.out.below hb23 )
        have hOt_23 := Lib.hid (hTt.2.2.2)
        have hOu_23 := Lib.hid (hTu.2.2.2)
        clear hOa_22 hOb_22 hTt hTu hb23
        go_wp2_with fail
        refine (drawRestrict_any A n c _ hn2 (HC.out _ hB23)).mono ?_
        rintro e w24 ⟨adv, nv, cv, v, r, rfl, hr, hTv, hb24⟩
        have HR := Lib.hid hr
        have HLv := Lib.hid hTv.2.1
        have HWv := Lib.hid hTv.2.2.1
        have hmv : nv ≤ 1048576 := by have := hTv.1; omega
        have hB24 := btr hB23 hb24
        have hS24 := hb24.size
        have hOa_24 := Lib.hid (hOa_23.out.below hb24 )
        have hOb_24 := Lib.hid (hOb_23.out.below hb24 )
        have hOt_24 := Lib.hid (hOt_23.out.below hb24 (by omega))
        have hOu_24 := Lib.hid (hOu_23.out.below hb24 (by omega))
        have hOv_24 := Lib.hid (hTv.2.2.2)
        clear hOa_23 hOb_23 hOt_23 hOu_23 hTv hr hb24
        have hP := (restL_len v r).trans HLv.out
        have wP := wf_restL HWv.out r
        have kP := fun (A : Option Addr) (c : Nat) (V : World) (h : Lies V 0 V.heap.size A (scells v)) => impl_restrict A nv c r v V hmv HLv.out HWv.out HR.out h
        have kQ := fun (A : Option Addr) (c : Nat) (V : World) (h : Lies V 0 V.heap.size A (scells v)) => spec_restrict A nv c r v V hmv HLv.out h
        have b1' := restL_below v r
        generalize restL v r = P at hP wP kP kQ b1'
        have tP := fun (A B : Option Addr) (c d lo lo' hi hi' : Nat) (V : World) (hh : hi ≤ V.heap.size) (hh' : hi' ≤ V.heap.size) (h1 : Lies V lo hi A (scells P)) (h2 : Lies V lo' hi' B (scells v)) => impl_tableBelow A B nv nv c d lo lo' hi hi' P v V hmv hmv hP HLv.out hh hh' wP HWv.out h1 h2
        rw [b1'] at tP
        have tT := fun (A B : Option Addr) (c d lo lo' hi hi' : Nat) (V : World) (hh : hi ≤ V.heap.size) (hh' : hi' ≤ V.heap.size) (h1 : Lies V lo hi A (scells t)) (h2 : Lies V lo' hi' B (scells u)) => impl_tableBelow A B nt nu c d lo lo' hi hi' t u V hmt hmu HLt.out HLu.out hh hh' HWt.out HWu.out h1 h2
        have tS := fun (A B : Option Addr) (c d lo lo' hi hi' : Nat) (V : World) (hh : hi ≤ V.heap.size) (hh' : hi' ≤ V.heap.size) (h1 : Lies V lo hi A (scells t)) (h2 : Lies V lo' hi' B (scells u)) => spec_tableBelow A B nt nu c d lo lo' hi hi' t u V hmt hmu HLt.out HLu.out hh hh' h1 h2
        generalize belowL t u = bt at tT tS
        have sI := fun V : World => impl_below a1 a2 b1 b2 V HWa.out.2 HWb.out.2
        have sS := fun V : World => spec_below a1 a2 b1 b2 V
        generalize belowS (a1, a2) (b1, b2) = bs at sI sS
        have HLP := Lib.hid hP
        have KP := Lib.hid kP
        have KQ := Lib.hid kQ
        have TP := Lib.hid tP
        have TT := Lib.hid tT
        have TS := Lib.hid tS
        have SI := Lib.hid sI
        have SS := Lib.hid sS
        clear hP wP kP kQ b1' tP tT tS sI sS
        go_wp2_with fail
        refine (KP.out _ _ _ (hOv_24.out.wide (Nat.zero_le _) (by omega))).mono ?_
        rintro e w25 ⟨ad25, d25, rfl, hc25, ho25, hb25⟩
        have hB25 := btr hB24 hb25
        have hS25 := hb25.size
        have hOa_25 := Lib.hid (hOa_24.out.below hb25 )
        have hOb_25 := Lib.hid (hOb_24.out.below hb25 )
        have hOt_25 := Lib.hid (hOt_24.out.below hb25 (by omega))
        have hOu_25 := Lib.hid (hOu_24.out.below hb25 (by omega))
        have hOv_25 := Lib.hid (hOv_24.out.below hb25 (by omega))
        have hOw_25 := Lib.hid ho25
        clear hOa_24 hOb_24 hOt_24 hOu_24 hOv_24 hc25 ho25 hb25
        go_wp2_with fail
        refine (drawComposeSlot_any A n c _ hn2 (HC.out _ hB25)).mono ?_
        rintro e w26 ⟨x1, x2, ady, ny, cy, y, rfl, hwx, hTy, hb26⟩
        have HWx := Lib.hid hwx
        have HLy := Lib.hid hTy.2.1
        have HWy := Lib.hid hTy.2.2.1
        have hmy : ny ≤ 1048576 := by have := hTy.1; omega
        have hB26 := btr hB25 hb26
        have hS26 := hb26.size
        have hOa_26 := Lib.hid (hOa_25.out.below hb26 )
        have hOb_26 := Lib.hid (hOb_25.out.below hb26 )
        have hOt_26 := Lib.hid (hOt_25.out.below hb26 (by omega))
        have hOu_26 := Lib.hid (hOu_25.out.below hb26 (by omega))
        have hOv_26 := Lib.hid (hOv_25.out.below hb26 (by omega))
        have hOw_26 := Lib.hid (hOw_25.out.below hb26 (by omega))
        have hOy_26 := Lib.hid (hTy.2.2.2)
        clear hOa_25 hOb_25 hOt_25 hOu_25 hOv_25 hOw_25 hTy hwx hb26
        have cI := fun (A : Option Addr) (c : Nat) (V : World) (h : Lies V 0 V.heap.size A (scells y)) => impl_compSlot A ny c x1 x2 y V hmy HLy.out HWx.out.2 HWy.out h
        have cS := fun (A : Option Addr) (c : Nat) (V : World) (h : Lies V 0 V.heap.size A (scells y)) => spec_compSlot A ny c x1 x2 y V hmy HLy.out h
        generalize compS (x1, x2) y = z at cI cS
        obtain ⟨z1, z2⟩ := z
        have CI := Lib.hid cI
        have CS := Lib.hid cS
        clear cI cS
        have kO := fun (A : Option Addr) (c : Nat) (V : World) (h : Lies V 0 V.heap.size A (scells [(5, 3), (7, 1)])) => impl_compSlot A 2 c 1 3 [(5, 3), (7, 1)] V (by omega) rfl (by decide) wfL_lit h
        rw [one_eq] at kO
        have KO := Lib.hid kO
        clear kO
        obtain ⟨ht27, hLit, hb27⟩ := lit_two w26 x1 x2
        have hB27 := btr hB26 hb27
        have hS27 := hb27.size
        have hOa_27 := Lib.hid (hOa_26.out.below hb27 )
        have hOb_27 := Lib.hid (hOb_26.out.below hb27 )
        have hOt_27 := Lib.hid (hOt_26.out.below hb27 (by omega))
        have hOu_27 := Lib.hid (hOu_26.out.below hb27 (by omega))
        have hOv_27 := Lib.hid (hOv_26.out.below hb27 (by omega))
        have hOw_27 := Lib.hid (hOw_26.out.below hb27 (by omega))
        have hOy_27 := Lib.hid (hOy_26.out.below hb27 (by omega))
        have hOx_27 := Lib.hid ht27
        clear hOa_26 hOb_26 hOt_26 hOu_26 hOv_26 hOw_26 hOy_26 hb27 ht27
        go_wp2_with fail
        generalize ((w26.alloc (.cells #[.int .i64 x1, .int .i64 x2] 30)).alloc (.cells #[.int .i64 5, .int .i64 3, .int .i64 7, .int .i64 1] 30)) = Wx at hOa_27 hOb_27 hOt_27 hOu_27 hOv_27 hOw_27 hOy_27 hOx_27 hS27 hB27 hLit ⊢
        refine (KO.out _ _ _ hLit).mono ?_
        rintro e w28 ⟨rfl, hb28⟩
        clear hLit
        have hB28 := btr hB27 hb28
        have hS28 := hb28.size
        have hOa_28 := Lib.hid (hOa_27.out.below hb28 )
        have hOb_28 := Lib.hid (hOb_27.out.below hb28 )
        have hOt_28 := Lib.hid (hOt_27.out.below hb28 (by omega))
        have hOu_28 := Lib.hid (hOu_27.out.below hb28 (by omega))
        have hOv_28 := Lib.hid (hOv_27.out.below hb28 (by omega))
        have hOw_28 := Lib.hid (hOw_27.out.below hb28 (by omega))
        have hOy_28 := Lib.hid (hOy_27.out.below hb28 (by omega))
        have hOx_28 := Lib.hid (hOx_27.out.below hb28 )
        clear hOa_27 hOb_27 hOt_27 hOu_27 hOv_27 hOw_27 hOy_27 hOx_27 hb28
        have hb29 : Below w28.heap.size w28 (w28.alloc (.cells #[.int .i64 7, .int .i64 1] 30)) := (Below.refl _ _).alloc (Nat.le_refl _) _
        have hB29 := btr hB28 hb29
        have hS29 := hb29.size
        have hOa_29 := Lib.hid (hOa_28.out.below hb29 )
        have hOb_29 := Lib.hid (hOb_28.out.below hb29 )
        have hOt_29 := Lib.hid (hOt_28.out.below hb29 (by omega))
        have hOu_29 := Lib.hid (hOu_28.out.below hb29 (by omega))
        have hOv_29 := Lib.hid (hOv_28.out.below hb29 (by omega))
        have hOw_29 := Lib.hid (hOw_28.out.below hb29 (by omega))
        have hOy_29 := Lib.hid (hOy_28.out.below hb29 (by omega))
        have hOx_29 := Lib.hid (hOx_28.out.below hb29 )
        have hOone_29 := Lib.hid (Two.new w28 (.int .i64 7) (.int .i64 1) 30)
        clear hOa_28 hOb_28 hOt_28 hOu_28 hOv_28 hOw_28 hOy_28 hOx_28 hb29
        go_wp2_with fail
        generalize (w28.alloc (.cells #[.int .i64 7, .int .i64 1] 30)) = W9 at hOa_29 hOb_29 hOt_29 hOu_29 hOv_29 hOw_29 hOy_29 hOx_29 hOone_29 hS29 hB29 ⊢
        refine Ord.wp_region_ord (fun w' => (w'.cell? ⟨w21.heap.size, 0, none⟩ = some (.int .i64 a1) ∧ w'.cell? ⟨w21.heap.size, 1, none⟩ = some (.int .i64 a2)) ∧ (w'.cell? ⟨w21.heap.size + 1, 0, none⟩ = some (.int .i64 b1) ∧ w'.cell? ⟨w21.heap.size + 1, 1, none⟩ = some (.int .i64 b2)) ∧ (w'.cell? ⟨w26.heap.size, 0, none⟩ = some (.int .i64 x1) ∧ w'.cell? ⟨w26.heap.size, 1, none⟩ = some (.int .i64 x2)) ∧ w'.cell? ⟨w28.heap.size, 0, none⟩ = some (.int .i64 7) ∧ w'.cell? ⟨w28.heap.size, 1, none⟩ = some (.int .i64 1)) [(0, true), (1, true), (2, true), (3, true), (4, true), (5, true), (6, true), (7, true), (9, true), (10, true), (8, false), (11, false), (12, true), (13, true), (14, true), (15, true), (16, true), (18, true), (19, true), (17, false), (20, false), (21, true), (22, true), (23, true), (24, true), (25, true), (26, true), (27, false), (28, false), (29, true), (30, true), (31, true), (32, true), (33, false), (34, true), (35, true), (36, true), (37, true), (39, true), (40, true), (38, false), (41, false), (42, true), (43, true), (44, true), (45, true), (46, true), (47, true), (48, true), (49, true)] (by kernel_rfl) (by kernel_rfl) rfl (by kernel_rfl) (⟨⟨hOa_29.out.1, hOa_29.out.2.1⟩, ⟨hOb_29.out.1, hOb_29.out.2.1⟩, ⟨hOx_29.out.1, hOx_29.out.2.1⟩, hOone_29.out.1, hOone_29.out.2.1⟩) ?_
        simp only [Ord.ordOps, List.getElem?_toArray, List.getElem?_cons_zero, List.getElem?_cons_succ]
        repeat (first
          | (refine Ord.ord_plain (v := ?_) rfl (fun w' hS => ?_) ?_; rotate_left; (focus ((try dsimp only at hS); go_simp; first | done | with_reducible rfl)); simp only [Act.put, List.setIfInBounds_toArray, List.set_cons_zero, List.set_cons_succ])
          | (refine Ord.ord_skip (by rfl) ?_; simp only [Act.put, List.setIfInBounds_toArray, List.set_cons_zero, List.set_cons_succ])
          | (refine Ord.ord_take (v := ?_) (by rfl) (fun w' hS => ?_) ?_; rotate_left; (focus ((try dsimp only at hS); go_simp; first | done | with_reducible rfl)); simp only [Act.put, List.setIfInBounds_toArray, List.set_cons_zero, List.set_cons_succ]))
        have hb30 : Below W9.heap.size W9 W9.drew := (Below.refl _ _).drew
        have hB30 := btr hB29 hb30
        have hS30 : W9.heap.size ≤ W9.drew.heap.size := hb30.size
        have hOa_30 := Lib.hid (hOa_29.out.below hb30 )
        have hOb_30 := Lib.hid (hOb_29.out.below hb30 )
        have hOt_30 := Lib.hid (hOt_29.out.below hb30 (by omega))
        have hOu_30 := Lib.hid (hOu_29.out.below hb30 (by omega))
        have hOv_30 := Lib.hid (hOv_29.out.below hb30 (by omega))
        have hOw_30 := Lib.hid (hOw_29.out.below hb30 (by omega))
        have hOy_30 := Lib.hid (hOy_29.out.below hb30 (by omega))
        have hOx_30 := Lib.hid (hOx_29.out.below hb30 )
        have hOone_30 := Lib.hid (hOone_29.out.below hb30 )
        clear hOa_29 hOb_29 hOt_29 hOu_29 hOv_29 hOw_29 hOy_29 hOx_29 hOone_29 hb30
        generalize W9.drew = Wd at hOa_30 hOb_30 hOt_30 hOu_30 hOv_30 hOw_30 hOy_30 hOx_30 hOone_30 hS30 hB30 ⊢
        refine Ord.ord_call (fun K hK => ?_)
        go_simp
        go_wp2_with fail
        refine (SI.out _).mono ?_
        rintro e w31 ⟨rfl, hb31⟩
        have hB31 := btr hB30 hb31
        have hS31 := hb31.size
        have hOa_31 := Lib.hid (hOa_30.out.below hb31 )
        have hOb_31 := Lib.hid (hOb_30.out.below hb31 )
        have hOt_31 := Lib.hid (hOt_30.out.below hb31 (by omega))
        have hOu_31 := Lib.hid (hOu_30.out.below hb31 (by omega))
        have hOv_31 := Lib.hid (hOv_30.out.below hb31 (by omega))
        have hOw_31 := Lib.hid (hOw_30.out.below hb31 (by omega))
        have hOy_31 := Lib.hid (hOy_30.out.below hb31 (by omega))
        have hOx_31 := Lib.hid (hOx_30.out.below hb31 )
        have hOone_31 := Lib.hid (hOone_30.out.below hb31 )
        clear hOa_30 hOb_30 hOt_30 hOu_30 hOv_30 hOw_30 hOy_30 hOx_30 hOone_30 hb31
        refine hK.out _ _ (⟨⟨hOa_31.out.1, hOa_31.out.2.1⟩, ⟨hOb_31.out.1, hOb_31.out.2.1⟩, ⟨hOx_31.out.1, hOx_31.out.2.1⟩, hOone_31.out.1, hOone_31.out.2.1⟩) ?_
        clear hK K
        repeat (first
          | (refine Ord.ord_plain (v := ?_) rfl (fun w' hS => ?_) ?_; rotate_left; (focus ((try dsimp only at hS); go_simp; first | done | with_reducible rfl)); simp only [Act.put, List.setIfInBounds_toArray, List.set_cons_zero, List.set_cons_succ])
          | (refine Ord.ord_skip (by rfl) ?_; simp only [Act.put, List.setIfInBounds_toArray, List.set_cons_zero, List.set_cons_succ])
          | (refine Ord.ord_take (v := ?_) (by rfl) (fun w' hS => ?_) ?_; rotate_left; (focus ((try dsimp only at hS); go_simp; first | done | with_reducible rfl)); simp only [Act.put, List.setIfInBounds_toArray, List.set_cons_zero, List.set_cons_succ]))
        refine Ord.ord_call (fun K hK => ?_)
        go_simp
        go_wp2_with fail
        refine (SS.out _).mono ?_
        rintro e w32 ⟨rfl, hb32⟩
        have hB32 := btr hB31 hb32
        have hS32 := hb32.size
        have hOa_32 := Lib.hid (hOa_31.out.below hb32 )
        have hOb_32 := Lib.hid (hOb_31.out.below hb32 )
        have hOt_32 := Lib.hid (hOt_31.out.below hb32 (by omega))
        have hOu_32 := Lib.hid (hOu_31.out.below hb32 (by omega))
        have hOv_32 := Lib.hid (hOv_31.out.below hb32 (by omega))
        have hOw_32 := Lib.hid (hOw_31.out.below hb32 (by omega))
        have hOy_32 := Lib.hid (hOy_31.out.below hb32 (by omega))
        have hOx_32 := Lib.hid (hOx_31.out.below hb32 )
        have hOone_32 := Lib.hid (hOone_31.out.below hb32 )
        clear hOa_31 hOb_31 hOt_31 hOu_31 hOv_31 hOw_31 hOy_31 hOx_31 hOone_31 hb32
        refine hK.out _ _ (⟨⟨hOa_32.out.1, hOa_32.out.2.1⟩, ⟨hOb_32.out.1, hOb_32.out.2.1⟩, ⟨hOx_32.out.1, hOx_32.out.2.1⟩, hOone_32.out.1, hOone_32.out.2.1⟩) ?_
        clear hK K
        repeat (first
          | (refine Ord.ord_plain (v := ?_) rfl (fun w' hS => ?_) ?_; rotate_left; (focus ((try dsimp only at hS); go_simp; first | done | with_reducible rfl)); simp only [Act.put, List.setIfInBounds_toArray, List.set_cons_zero, List.set_cons_succ])
          | (refine Ord.ord_skip (by rfl) ?_; simp only [Act.put, List.setIfInBounds_toArray, List.set_cons_zero, List.set_cons_succ])
          | (refine Ord.ord_take (v := ?_) (by rfl) (fun w' hS => ?_) ?_; rotate_left; (focus ((try dsimp only at hS); go_simp; first | done | with_reducible rfl)); simp only [Act.put, List.setIfInBounds_toArray, List.set_cons_zero, List.set_cons_succ]))
        refine Ord.ord_call (fun K hK => ?_)
        go_simp
        go_wp2_with fail
        refine (TT.out _ _ _ _ _ _ _ _ _ (by omega) (by omega) hOt_32.out hOu_32.out).mono ?_
        rintro e w33 ⟨rfl, hb33⟩
        have hB33 := btr hB32 hb33
        have hS33 := hb33.size
        have hOa_33 := Lib.hid (hOa_32.out.below hb33 )
        have hOb_33 := Lib.hid (hOb_32.out.below hb33 )
        have hOt_33 := Lib.hid (hOt_32.out.below hb33 (by omega))
        have hOu_33 := Lib.hid (hOu_32.out.below hb33 (by omega))
        have hOv_33 := Lib.hid (hOv_32.out.below hb33 (by omega))
        have hOw_33 := Lib.hid (hOw_32.out.below hb33 (by omega))
        have hOy_33 := Lib.hid (hOy_32.out.below hb33 (by omega))
        have hOx_33 := Lib.hid (hOx_32.out.below hb33 )
        have hOone_33 := Lib.hid (hOone_32.out.below hb33 )
        clear hOa_32 hOb_32 hOt_32 hOu_32 hOv_32 hOw_32 hOy_32 hOx_32 hOone_32 hb33
        refine hK.out _ _ (⟨⟨hOa_33.out.1, hOa_33.out.2.1⟩, ⟨hOb_33.out.1, hOb_33.out.2.1⟩, ⟨hOx_33.out.1, hOx_33.out.2.1⟩, hOone_33.out.1, hOone_33.out.2.1⟩) ?_
        clear hK K
        repeat (first
          | (refine Ord.ord_plain (v := ?_) rfl (fun w' hS => ?_) ?_; rotate_left; (focus ((try dsimp only at hS); go_simp; first | done | with_reducible rfl)); simp only [Act.put, List.setIfInBounds_toArray, List.set_cons_zero, List.set_cons_succ])
          | (refine Ord.ord_skip (by rfl) ?_; simp only [Act.put, List.setIfInBounds_toArray, List.set_cons_zero, List.set_cons_succ])
          | (refine Ord.ord_take (v := ?_) (by rfl) (fun w' hS => ?_) ?_; rotate_left; (focus ((try dsimp only at hS); go_simp; first | done | with_reducible rfl)); simp only [Act.put, List.setIfInBounds_toArray, List.set_cons_zero, List.set_cons_succ]))
        refine Ord.ord_call (fun K hK => ?_)
        go_simp
        go_wp2_with fail
        refine (TS.out _ _ _ _ _ _ _ _ _ (by omega) (by omega) hOt_33.out hOu_33.out).mono ?_
        rintro e w34 ⟨rfl, hb34⟩
        have hB34 := btr hB33 hb34
        have hS34 := hb34.size
        have hOa_34 := Lib.hid (hOa_33.out.below hb34 )
        have hOb_34 := Lib.hid (hOb_33.out.below hb34 )
        have hOt_34 := Lib.hid (hOt_33.out.below hb34 (by omega))
        have hOu_34 := Lib.hid (hOu_33.out.below hb34 (by omega))
        have hOv_34 := Lib.hid (hOv_33.out.below hb34 (by omega))
        have hOw_34 := Lib.hid (hOw_33.out.below hb34 (by omega))
        have hOy_34 := Lib.hid (hOy_33.out.below hb34 (by omega))
        have hOx_34 := Lib.hid (hOx_33.out.below hb34 )
        have hOone_34 := Lib.hid (hOone_33.out.below hb34 )
        clear hOa_33 hOb_33 hOt_33 hOu_33 hOv_33 hOw_33 hOy_33 hOx_33 hOone_33 hb34
        clear hOt_34
        clear hOu_34
        refine hK.out _ _ (⟨⟨hOa_34.out.1, hOa_34.out.2.1⟩, ⟨hOb_34.out.1, hOb_34.out.2.1⟩, ⟨hOx_34.out.1, hOx_34.out.2.1⟩, hOone_34.out.1, hOone_34.out.2.1⟩) ?_
        clear hK K
        repeat (first
          | (refine Ord.ord_plain (v := ?_) rfl (fun w' hS => ?_) ?_; rotate_left; (focus ((try dsimp only at hS); go_simp; first | done | with_reducible rfl)); simp only [Act.put, List.setIfInBounds_toArray, List.set_cons_zero, List.set_cons_succ])
          | (refine Ord.ord_skip (by rfl) ?_; simp only [Act.put, List.setIfInBounds_toArray, List.set_cons_zero, List.set_cons_succ])
          | (refine Ord.ord_take (v := ?_) (by rfl) (fun w' hS => ?_) ?_; rotate_left; (focus ((try dsimp only at hS); go_simp; first | done | with_reducible rfl)); simp only [Act.put, List.setIfInBounds_toArray, List.set_cons_zero, List.set_cons_succ]))
        refine Ord.ord_call (fun K hK => ?_)
        go_simp
        go_wp2_with fail
        refine (KQ.out _ _ _ (hOv_34.out.wide (Nat.zero_le _) (by omega))).mono ?_
        rintro e w35 ⟨ad35, d35, rfl, hc35, ho35, hb35⟩
        have hB35 := btr hB34 hb35
        have hS35 := hb35.size
        have hOa_35 := Lib.hid (hOa_34.out.below hb35 )
        have hOb_35 := Lib.hid (hOb_34.out.below hb35 )
        have hOv_35 := Lib.hid (hOv_34.out.below hb35 (by omega))
        have hOw_35 := Lib.hid (hOw_34.out.below hb35 (by omega))
        have hOy_35 := Lib.hid (hOy_34.out.below hb35 (by omega))
        have hOx_35 := Lib.hid (hOx_34.out.below hb35 )
        have hOone_35 := Lib.hid (hOone_34.out.below hb35 )
        have hOq_35 := Lib.hid ho35
        clear hOa_34 hOb_34 hOv_34 hOw_34 hOy_34 hOx_34 hOone_34 hc35 ho35 hb35
        refine hK.out _ _ (⟨⟨hOa_35.out.1, hOa_35.out.2.1⟩, ⟨hOb_35.out.1, hOb_35.out.2.1⟩, ⟨hOx_35.out.1, hOx_35.out.2.1⟩, hOone_35.out.1, hOone_35.out.2.1⟩) ?_
        clear hK K
        repeat (first
          | (refine Ord.ord_plain (v := ?_) rfl (fun w' hS => ?_) ?_; rotate_left; (focus ((try dsimp only at hS); go_simp; first | done | with_reducible rfl)); simp only [Act.put, List.setIfInBounds_toArray, List.set_cons_zero, List.set_cons_succ])
          | (refine Ord.ord_skip (by rfl) ?_; simp only [Act.put, List.setIfInBounds_toArray, List.set_cons_zero, List.set_cons_succ])
          | (refine Ord.ord_take (v := ?_) (by rfl) (fun w' hS => ?_) ?_; rotate_left; (focus ((try dsimp only at hS); go_simp; first | done | with_reducible rfl)); simp only [Act.put, List.setIfInBounds_toArray, List.set_cons_zero, List.set_cons_succ]))
        refine Ord.ord_call (fun K hK => ?_)
        go_simp
        go_wp2_with fail
        refine (same_true (some ad25) (some ad35) nv d25 d35 _ _ _ _ P _ hmv HLP.out hOw_35.out.1 hOq_35.out.1).mono ?_
        rintro e w36 ⟨rfl, hb36⟩
        have hB36 := btr hB35 hb36
        have hS36 := hb36.size
        have hOa_36 := Lib.hid (hOa_35.out.below hb36 )
        have hOb_36 := Lib.hid (hOb_35.out.below hb36 )
        have hOv_36 := Lib.hid (hOv_35.out.below hb36 (by omega))
        have hOw_36 := Lib.hid (hOw_35.out.below hb36 (by omega))
        have hOy_36 := Lib.hid (hOy_35.out.below hb36 (by omega))
        have hOx_36 := Lib.hid (hOx_35.out.below hb36 )
        have hOone_36 := Lib.hid (hOone_35.out.below hb36 )
        have hOq_36 := Lib.hid (hOq_35.out.below hb36 (by omega))
        clear hOa_35 hOb_35 hOv_35 hOw_35 hOy_35 hOx_35 hOone_35 hOq_35 hb36
        clear hOq_36
        refine hK.out _ _ (⟨⟨hOa_36.out.1, hOa_36.out.2.1⟩, ⟨hOb_36.out.1, hOb_36.out.2.1⟩, ⟨hOx_36.out.1, hOx_36.out.2.1⟩, hOone_36.out.1, hOone_36.out.2.1⟩) ?_
        clear hK K
        repeat (first
          | (refine Ord.ord_plain (v := ?_) rfl (fun w' hS => ?_) ?_; rotate_left; (focus ((try dsimp only at hS); go_simp; first | done | with_reducible rfl)); simp only [Act.put, List.setIfInBounds_toArray, List.set_cons_zero, List.set_cons_succ])
          | (refine Ord.ord_skip (by rfl) ?_; simp only [Act.put, List.setIfInBounds_toArray, List.set_cons_zero, List.set_cons_succ])
          | (refine Ord.ord_take (v := ?_) (by rfl) (fun w' hS => ?_) ?_; rotate_left; (focus ((try dsimp only at hS); go_simp; first | done | with_reducible rfl)); simp only [Act.put, List.setIfInBounds_toArray, List.set_cons_zero, List.set_cons_succ]))
        refine Ord.ord_call (fun K hK => ?_)
        go_simp
        go_wp2_with fail
        refine (TP.out _ _ _ _ _ _ _ _ _ (by omega) (by omega) hOw_36.out.1 hOv_36.out).mono ?_
        rintro e w37 ⟨rfl, hb37⟩
        have hB37 := btr hB36 hb37
        have hS37 := hb37.size
        have hOa_37 := Lib.hid (hOa_36.out.below hb37 )
        have hOb_37 := Lib.hid (hOb_36.out.below hb37 )
        have hOv_37 := Lib.hid (hOv_36.out.below hb37 (by omega))
        have hOw_37 := Lib.hid (hOw_36.out.below hb37 (by omega))
        have hOy_37 := Lib.hid (hOy_36.out.below hb37 (by omega))
        have hOx_37 := Lib.hid (hOx_36.out.below hb37 )
        have hOone_37 := Lib.hid (hOone_36.out.below hb37 )
        clear hOa_36 hOb_36 hOv_36 hOw_36 hOy_36 hOx_36 hOone_36 hb37
        clear hOw_37
        clear hOv_37
        refine hK.out _ _ (⟨⟨hOa_37.out.1, hOa_37.out.2.1⟩, ⟨hOb_37.out.1, hOb_37.out.2.1⟩, ⟨hOx_37.out.1, hOx_37.out.2.1⟩, hOone_37.out.1, hOone_37.out.2.1⟩) ?_
        clear hK K
        repeat (first
          | (refine Ord.ord_plain (v := ?_) rfl (fun w' hS => ?_) ?_; rotate_left; (focus ((try dsimp only at hS); go_simp; first | done | with_reducible rfl)); simp only [Act.put, List.setIfInBounds_toArray, List.set_cons_zero, List.set_cons_succ])
          | (refine Ord.ord_skip (by rfl) ?_; simp only [Act.put, List.setIfInBounds_toArray, List.set_cons_zero, List.set_cons_succ])
          | (refine Ord.ord_take (v := ?_) (by rfl) (fun w' hS => ?_) ?_; rotate_left; (focus ((try dsimp only at hS); go_simp; first | done | with_reducible rfl)); simp only [Act.put, List.setIfInBounds_toArray, List.set_cons_zero, List.set_cons_succ]))
        refine Ord.ord_call (fun K hK => ?_)
        go_simp
        go_wp2_with fail
        refine (CI.out _ _ _ (hOy_37.out.wide (Nat.zero_le _) (by omega))).mono ?_
        rintro e w38 ⟨rfl, hb38⟩
        have hB38 := btr hB37 hb38
        have hS38 := hb38.size
        have hOa_38 := Lib.hid (hOa_37.out.below hb38 )
        have hOb_38 := Lib.hid (hOb_37.out.below hb38 )
        have hOy_38 := Lib.hid (hOy_37.out.below hb38 (by omega))
        have hOx_38 := Lib.hid (hOx_37.out.below hb38 )
        have hOone_38 := Lib.hid (hOone_37.out.below hb38 )
        clear hOa_37 hOb_37 hOy_37 hOx_37 hOone_37 hb38
        refine hK.out _ _ (⟨⟨hOa_38.out.1, hOa_38.out.2.1⟩, ⟨hOb_38.out.1, hOb_38.out.2.1⟩, ⟨hOx_38.out.1, hOx_38.out.2.1⟩, hOone_38.out.1, hOone_38.out.2.1⟩) ?_
        clear hK K
        repeat (first
          | (refine Ord.ord_plain (v := ?_) rfl (fun w' hS => ?_) ?_; rotate_left; (focus ((try dsimp only at hS); go_simp; first | done | with_reducible rfl)); simp only [Act.put, List.setIfInBounds_toArray, List.set_cons_zero, List.set_cons_succ])
          | (refine Ord.ord_skip (by rfl) ?_; simp only [Act.put, List.setIfInBounds_toArray, List.set_cons_zero, List.set_cons_succ])
          | (refine Ord.ord_take (v := ?_) (by rfl) (fun w' hS => ?_) ?_; rotate_left; (focus ((try dsimp only at hS); go_simp; first | done | with_reducible rfl)); simp only [Act.put, List.setIfInBounds_toArray, List.set_cons_zero, List.set_cons_succ]))
        refine Ord.ord_call (fun K hK => ?_)
        go_simp
        go_wp2_with fail
        refine (CS.out _ _ _ (hOy_38.out.wide (Nat.zero_le _) (by omega))).mono ?_
        rintro e w39 ⟨rfl, hb39⟩
        have hB39 := btr hB38 hb39
        have hS39 := hb39.size
        have hOa_39 := Lib.hid (hOa_38.out.below hb39 )
        have hOb_39 := Lib.hid (hOb_38.out.below hb39 )
        have hOy_39 := Lib.hid (hOy_38.out.below hb39 (by omega))
        have hOx_39 := Lib.hid (hOx_38.out.below hb39 )
        have hOone_39 := Lib.hid (hOone_38.out.below hb39 )
        clear hOa_38 hOb_38 hOy_38 hOx_38 hOone_38 hb39
        clear hOy_39
        refine hK.out _ _ (⟨⟨hOa_39.out.1, hOa_39.out.2.1⟩, ⟨hOb_39.out.1, hOb_39.out.2.1⟩, ⟨hOx_39.out.1, hOx_39.out.2.1⟩, hOone_39.out.1, hOone_39.out.2.1⟩) ?_
        clear hK K
        repeat (first
          | (refine Ord.ord_plain (v := ?_) rfl (fun w' hS => ?_) ?_; rotate_left; (focus ((try dsimp only at hS); go_simp; first | done | with_reducible rfl)); simp only [Act.put, List.setIfInBounds_toArray, List.set_cons_zero, List.set_cons_succ])
          | (refine Ord.ord_skip (by rfl) ?_; simp only [Act.put, List.setIfInBounds_toArray, List.set_cons_zero, List.set_cons_succ])
          | (refine Ord.ord_take (v := ?_) (by rfl) (fun w' hS => ?_) ?_; rotate_left; (focus ((try dsimp only at hS); go_simp; first | done | with_reducible rfl)); simp only [Act.put, List.setIfInBounds_toArray, List.set_cons_zero, List.set_cons_succ]))
        refine Ord.ord_nil ?_
        go_wp2_with fail
        go_ret
        exact ⟨rfl, hB39⟩

/-! ### The row's step -/
set_option maxRecDepth 100000 in
theorem lifted (os : Os) (started : os.Started) (H : Type) (enc : TypeId × Value → H) :
    ReturnsInHanded {} Try.checked os 3 .any (Rows.fnComposedSpec.pre6 enc Try.prog Try.f3 Rows.fnComposedRow.domain false) (Rows.fnComposedSpec.post enc Try.prog Try.f3 false true false false) := by
  refine returnsInHanded_of_change (C := Try.checked) Base.own started (by kernel_rfl) Try.func3
    (ChangeSpec.witness6 (enc := enc) (C := Try.checked) false ⟨#[], #[.slice none 0 0], []⟩ 8 (by kernel_rfl) (by kernel_rfl) (by kernel_rfl) (by kernel_rfl)) ?_
  intro W base args ds gs before hval0 hW hcnd _
  have hval : ∀ (j : Nat) t v, Try.f3.params[j]? = some t → args[j]? = some v → Value.okWide Try.prog W .any base t v := hval0
  have hW' := hW
  obtain ⟨p, q, hA0, hV, rfl, hfz, hnd⟩ := hW
  have hA : DataW.TrodAll enc Try.prog W 0 (fun _ => true) true Try.f3.params.toList args.toList ds p := hA0
  have hA1 := hA
  rw [Try.params3] at hA hval
  obtain ⟨v0, vs0, d0, ds0, p0, q0, hargs, rfl, rfl, h0, r0⟩ := trodAll_cons hA
  obtain ⟨rfl, rfl, rfl⟩ := trodAll_nil r0
  obtain rfl : args = #[v0] := by cases args; simp_all
  obtain ⟨rfl, rfl⟩ := trodVars_none hV
  obtain ⟨A0, n0, c0, rfl, hn0, hcode0, _⟩ := Draw.open_code (hval 0 22 v0 rfl rfl) h0
  clear hA0 hval0
  rw [List.append_nil] at hW'
  refine (walk A0 n0 c0 hn0 hcode0).mono fun e W' ⟨he, hg⟩ => ?_
  subst he
  exact ⟨_, rfl, Mem.post_args Slots.laid (by kernel_rfl) rfl rfl rfl hW' hA1 hg (fun _ _ _ => (trodAll_cons_mk (shut_bool Try.underlying4 _) trodAll_mk0)) (ok_one (by kernel_rfl) rfl (okWide_bool_mk Try.underlying4 _))⟩

theorem over : Rows.fnComposedRow.holds Try.pinned (OpenSpec.ofChange Rows.fnComposedSpec) :=
  OpenClaim.holds_of_wide 3 Try.f3 rfl rfl rfl rfl rfl rfl rfl ⟨rfl, rfl, rfl, rfl, rfl⟩ rfl rfl rfl rfl rfl (by kernel_rfl) Try.func3 (by kernel_rfl)
    (of_decide_eq_true (by kernel_rfl)) (by unfold Func.isWrapper; first | (rw [if_pos (by decide +kernel)]; kernel_rfl) | (rw [if_neg (by decide +kernel)]; exact ⟨rfl, rfl⟩))
    (fun os started H enc _ => lifted os started H enc)

/-- The given statement. -/
theorem proved : Rows.FnComposedSaid :=
  over
#print axioms proved
end Go.Proofs.Ytecnkcmhgnbdmaa.fnComposed
