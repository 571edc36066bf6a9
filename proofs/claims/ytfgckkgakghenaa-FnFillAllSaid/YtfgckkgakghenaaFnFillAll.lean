/-
  For every slice of bytes the law FnFillAll returns true: a shadow table that is filled at every page is the composition, all of it is known, and nothing is once all is forgotten. No condition.
-/
import Derived.Test.YtfgckkgakghenaaKeptImpl
import Derived.Test.YtfgckkgakghenaaKeptLaw
import Derived.Test.YtfgckkgakghenaaKeptDraw2
import Derived.Test.YtfgckkgakghenaaTwoLaws
import Derived.Test.YtfgckkgakghenaaTwoDraws
import Derived.Test.YtfgckkgakghenaaSlotArgs
import Derived.Test.YtfgckkgakghenaaOrdT
import Derived.Test.YtfgckkgakghenaaBig
namespace Go.Proofs.Ytfgckkgakghenaa.fnFillAll
set_option maxRecDepth 100000
open Go.ChangeShapes Go.WideShapes Go.ChangeAt Go.RowKit
open Go.Proofs.Ytfgckkgakghenaa.Base Go.Proofs.Ytfgckkgakghenaa.Mem Go.Proofs.Ytfgckkgakghenaa.Slots Go.Proofs.Ytfgckkgakghenaa.Ints Go.Proofs.Ytfgckkgakghenaa.Bools Go.Proofs.Ytfgckkgakghenaa.Draw Go.Proofs.Ytfgckkgakghenaa.SDraw Go.Proofs.Ytfgckkgakghenaa.Kepts Go.Proofs.Ytfgckkgakghenaa.KDraw
set_option linter.unusedVariables false
set_option linter.unusedSimpArgs false

theorem new_small {n : Nat} (h : n ≤ 4) : newN (n : Int) = n := by
  have : n = 0 ∨ n = 1 ∨ n = 2 ∨ n = 3 ∨ n = 4 := by omega
  rcases this with rfl | rfl | rfl | rfl | rfl <;> decide
theorem wf_upK {l o : List Sl} {j : Nat} (wo : wfL o) : wfL (upK l o j).2 := fun s hs => by
  rcases List.mem_append.1 hs with h | h
  · exact wf_compL (l := l) wo s (List.mem_of_mem_take h)
  · rw [List.eq_of_mem_replicate h]; exact wfS_no
theorem keptRes {V : World} {z lo hi : Nat} {k : KD} {A B : Option Addr} {n m : Nat} (u v : Value) (hz : z < lo) (h : KR V lo hi k A B n m) : KR ((V.setCell ⟨z, 0, none⟩ u).setCell ⟨z, 1, none⟩ v) lo hi k A B n m :=
  h.kept fun q h1 _ => (Below.heap_setCell _ ⟨z, 1, none⟩ v q (by show q ≠ z; omega)).trans (Below.heap_setCell V ⟨z, 0, none⟩ u q (by show q ≠ z; omega))

set_option maxRecDepth 100000 in
set_option maxHeartbeats 8000000 in
theorem walk (A : Option Addr) (n c : Nat) (hn : n ≤ maxLen) {w : World} (hcode : CodeAt w A n) :
    Calls Try.prog 5 #[.slice A n c] w fun e w' => e = .returned (.bool true) ∧ Below w.heap.size w w' := by
  have hn' : n ≤ 9223372036854775807 := hn
  have HC := Lib.hid (show ∀ W, Below w.heap.size w W → CodeAt W A n from fun W hb => hcode.below hb)
  clear hcode hn
  by_cases h1 : 1048576 < n
  · go_enter Try.func5, Try.ntmps5
    go_wp2_with (go_at_call 14; refine (big_yes A n c _ hn' h1).mono ?_; rintro e w' ⟨rfl, rfl⟩)
    go_ret
    exact ⟨rfl, Below.refl _ _⟩
  · have hn2 : n ≤ 1048576 := by omega
    clear h1 hn'
    go_enter Try.func5, Try.ntmps5
    go_wp2_with (go_at_call 14; refine (big_no A n c _ hn2).mono ?_; rintro e w' ⟨rfl, rfl⟩)
    go_wp2_with fail
    refine (drawCompose_any A n c _ hn2 (HC.out _ (Below.refl _ _))).mono ?_
    rintro e w1 ⟨adl, nl, cl, l, ado, no, co, o, rfl, hTl, hTo, hb1⟩
    have HLl := Lib.hid hTl.2.1
    have HWl := Lib.hid hTl.2.2.1
    have hml : nl ≤ 1048576 := by have := hTl.1; omega
    have HLo := Lib.hid hTo.2.1
    have HWo := Lib.hid hTo.2.2.1
    have hmo : no ≤ 1048576 := by have := hTo.1; omega
    have hn4 : nl ≤ 4 := hTl.1
    have hB1 := btr (Below.refl _ _) hb1
    have hS1 := hb1.size
    have hOl_1 := Lib.hid (hTl.2.2.2)
    have hOo_1 := Lib.hid (hTo.2.2.2)
    clear hTl hTo HC hb1
    have hK0 := fun V : World => impl_newK V (nl : Int) (wf_small (m := 5) (by omega) (by omega) (by omega))
    rw [new_small hn4] at hK0
    rw [show newK nl = upK l o 0 by rw [upK_0, HLl.out]] at hK0
    have HK0 := Lib.hid hK0
    clear hK0
    go_wp2_with fail
    refine (HK0.out _).mono ?_
    rintro e w2 ⟨A2', c2', B2', d2', rfl, ho2, hb2⟩
    have hB2 := btr hB1 hb2
    have hS2 := hb2.size
    have hOl_2 := Lib.hid (hOl_1.out.below hb2 (by omega))
    have hOo_2 := Lib.hid (hOo_1.out.below hb2 (by omega))
    have hOk_2 := Lib.hid ho2
    clear hOl_1 hOo_1 ho2 hb2
    have hlo : w1.heap.size ≤ w2.heap.size := hS2
    have HKl := Lib.hid (show ∀ W, Below w2.heap.size w2 W → Lies W 0 W.heap.size (some adl) (scells l) from fun W hb => (hOl_2.out.below hb (by omega)).wide (Nat.zero_le _) (Nat.le_trans (by omega) hb.size))
    have HKo := Lib.hid (show ∀ W, Below w2.heap.size w2 W → Lies W 0 W.heap.size (some ado) (scells o) from fun W hb => (hOo_2.out.below hb (by omega)).wide (Nat.zero_le _) (Nat.le_trans (by omega) hb.size))
    have hb3 : Below w2.heap.size w2 (w2.alloc (.cells #[.slice A2' nl c2', .slice B2' nl d2'] 27)) := (Below.refl _ _).alloc (Nat.le_refl _) _
    have hB3 := btr hB2 hb3
    have hS3 : w2.heap.size < (w2.alloc (.cells #[.slice A2' nl c2', .slice B2' nl d2'] 27)).heap.size := by simp
    have hOl_3 := Lib.hid (hOl_2.out.below hb3 (by omega))
    have hOo_3 := Lib.hid (hOo_2.out.below hb3 (by omega))
    have hOk_3 := Lib.hid (hOk_2.out.below hb3 (by omega))
    have hOvk_3 := Lib.hid (Two.new w2 (.slice A2' nl c2') (.slice B2' nl d2') 27)
    clear hOl_2 hOo_2 hOk_2 hb3
    have hb0 : Below w2.heap.size w2 (w2.alloc (.cells #[.slice A2' nl c2', .slice B2' nl d2'] 27)) := (Below.refl _ _).alloc (Nat.le_refl _) _
    have HF := Lib.hid (fun (j : Nat) (A B : Option Addr) (c d : Nat) (V : World) (h : KR V 0 V.heap.size (upK l o j) A B nl nl) (h1 : Lies V 0 V.heap.size (some adl) (scells l)) (h2 : Lies V 0 V.heap.size (some ado) (scells o)) => impl_fill A B nl nl c d (upK l o j) V (some adl) (some ado) nl no cl co (j : Int) l o hml hml hml hmo HLl.out HLo.out h h1 h2 (wf_upK HWo.out) HWl.out HWo.out)
    obtain ⟨z0, z1, zf0, zf1, zl⟩ := hOvk_3.out
    have h0k := hOk_3.out.reads
    have h0s : w2.heap.size ≤ (w2.alloc (.cells #[.slice A2' nl c2', .slice B2' nl d2'] 27)).heap.size := hb0.size
    have t0v := hOvk_3.out
    have HB0 := Lib.hid hB2
    go_wp2_with fail
    go_loopw [6] (fun i wr => ∃ (j lo hi : Nat) (A' B' : Option Addr) (c' d' : Nat), j ≤ nl ∧ i = .int .i64 j ∧ Two wr w2.heap.size (.slice A' nl c') (.slice B' nl d') ∧ KR wr lo hi (upK l o j) A' B' nl nl ∧ hi ≤ wr.heap.size ∧ Below w2.heap.size w2 wr) (fun i _ => nl - (intOf i).toNat)
    case atStart => exact ⟨0, _, _, _, _, _, _, Nat.zero_le _, rfl, t0v, h0k, h0s, hb0⟩
    case round =>
      obtain ⟨j, lo, hi, A', B', c', d', hj, rfl, ht, hk, hhi, hb⟩ := hrel
      clear z0 z1 zf0 zf1 zl h0k h0s t0v hb0 hOvk_3 hOk_3 hOl_3 hOo_3
      have HT := Lib.hid ht
      obtain ⟨z0, z1, zf0, zf1, zl⟩ := ht
      have hbs := hb.size
      by_cases hlt : j < nl
      · have hjl : (j : Int) < (nl : Int) := by omega
        have hF := HF.out j A' B' c' d' wr (hk.wide (Nat.zero_le _) hhi) (HKl.out wr hb) (HKo.out wr hb)
        rw [upK_step (show j < l.length by rw [HLl.out]; exact hlt)] at hF
        have HB := Lib.hid hb
        clear hk hb
        go_wp2_with fail
        refine hF.mono ?_
        rintro e V ⟨A2, c2, B2, d2, rfl, ho, hb2⟩
        have hs2 := hb2.size
        obtain ⟨y0, y1, yf0, yf1, yl⟩ := HT.out.below hb2
        have HG := Lib.hid (And.intro (keptRes (z := w2.heap.size) (.slice A2 nl c2) (.slice B2 nl d2) zl ho.reads) (And.intro (World.cell?_setCell_same (V.setCell ⟨w2.heap.size, 0, none⟩ (.slice A2 nl c2)) ⟨w2.heap.size, 1, none⟩ (.slice B2 nl d2) ((World.cell?_setCell_other _ _ _ _ (by simp)).trans y1)) (And.intro ((World.cell?_setCell_other (V.setCell ⟨w2.heap.size, 0, none⟩ (.slice A2 nl c2)) ⟨w2.heap.size, 1, none⟩ ⟨w2.heap.size, 0, none⟩ (.slice B2 nl d2) (by simp)).trans (World.cell?_setCell_same V ⟨w2.heap.size, 0, none⟩ (.slice A2 nl c2) y0)) (set_two (HB.out.trans (hb2.mono HB.out.size)) (Nat.le_refl _) (.slice A2 nl c2) (.slice B2 nl d2)))))
        have hsz : ((V.setCell ⟨w2.heap.size, 0, none⟩ (.slice A2 nl c2)).setCell ⟨w2.heap.size, 1, none⟩ (.slice B2 nl d2)).heap.size = V.heap.size := by simp
        clear ho hb2 hF HT
        go_wp2_with fail
        go_roundw
        case rel => exact ⟨j + 1, _, _, A2, B2, c2, d2, by omega, by go_num, ⟨HG.out.2.2.1, HG.out.2.1, by go_simp, by go_simp, by omega⟩, HG.out.1, by omega, HG.out.2.2.2⟩
        case measure => simp [intOf]; omega
      · obtain rfl : j = nl := by omega
        have hku := upK_end l o
        rw [HLl.out] at hku
        rw [hku] at hk
        have hOK := ok_up l o
        have hKN := known_up l o
        rw [HLl.out] at hOK hKN
        have hLc := (compL_len l o).trans HLl.out
        have hA0 := known_all (k := (List.replicate j true, compL l o)) (by simp [hLc])
        have wC := wf_compL (l := l) HWo.out
        have hC := fun (V : World) (h1 : Lies V 0 V.heap.size (some adl) (scells l)) (h2 : Lies V 0 V.heap.size (some ado) (scells o)) => impl_compose (some adl) (some ado) j no cl co l o V hml hmo HLl.out HLo.out HWl.out HWo.out h1 h2
        have hN := fun (V : World) (lo : Nat) (h : KR V lo V.heap.size (List.replicate j true, compL l o) A' B' j j) => impl_known A' B' j j c' d' lo _ V hml h
        rw [hKN] at hN
        have hO := fun (V : World) (h : KR V 0 V.heap.size (List.replicate j true, compL l o) A' B' j j) (h1 : Lies V 0 V.heap.size (some adl) (scells l)) (h2 : Lies V 0 V.heap.size (some ado) (scells o)) => impl_okK A' B' j j c' d' _ V (some adl) (some ado) j no cl co l o hml hml hml hmo HLl.out HLo.out h h1 h2 wC HWl.out HWo.out
        rw [hOK] at hO
        have hA := fun (V : World) (h : KR V 0 V.heap.size (List.replicate j true, compL l o) A' B' j j) => impl_all A' B' j j c' d' _ V hml hml h wC
        have hZ := fun (A B : Option Addr) (c d lo : Nat) (V : World) (h : KR V lo V.heap.size (allK (List.replicate j true, compL l o)) A B j j) => impl_known A B j j c d lo _ V hml h
        rw [hA0] at hZ
        have hS := fun (B : Option Addr) (d lo' hi' : Nat) (V : World) (h1 : Lies V lo hi B' (scells (compL l o))) (h2 : Lies V lo' hi' B (scells (compL l o))) => same_true B' B j d' d lo lo' hi hi' (compL l o) V hml hLc h1 h2
        have hOk_20 := Lib.hid hk
        have hOl_20 := Lib.hid (HKl.out wr hb)
        have hOo_20 := Lib.hid (HKo.out wr hb)
        have hOvk_20 := HT
        have hS20 := hb.size
        have HB20 := Lib.hid (btr HB0.out hb)
        have KC := Lib.hid hC
        have KN := Lib.hid hN
        have KO' := Lib.hid hO
        have KA := Lib.hid hA
        have KZ := Lib.hid hZ
        have KS := Lib.hid hS
        generalize allK (List.replicate j true, compL l o) = ka at KA KZ
        clear hku hk hOK hKN hA0 wC hLc hC hN hO hA hZ hS hb HF
        go_wp2_with fail
        refine Ord.wp_region_ord (fun w' => w'.cell? ⟨w2.heap.size, 0, none⟩ = some (.slice A' j c') ∧ w'.cell? ⟨w2.heap.size, 1, none⟩ = some (.slice B' j d')) [(0, true), (1, true), (2, true), (3, true), (4, false), (5, false), (6, true), (7, true), (9, true), (10, true), (8, false), (11, true), (12, true), (13, true), (14, true), (15, true), (16, true), (17, false), (18, true), (19, true), (20, true), (21, false), (22, false), (23, true), (24, true), (25, true)] (by kernel_rfl) (by kernel_rfl) rfl (by kernel_rfl) (⟨hOvk_20.out.1, hOvk_20.out.2.1⟩) ?_
        simp only [Ord.ordOps, List.getElem?_toArray, List.getElem?_cons_zero, List.getElem?_cons_succ]
        repeat (first
          | (refine Ord.ord_plain (v := ?_) rfl (fun w' hS => ?_) ?_; rotate_left; (focus ((try dsimp only at hS); go_simp; first | done | with_reducible rfl)); simp only [Act.put, List.setIfInBounds_toArray, List.set_cons_zero, List.set_cons_succ])
          | (refine Ord.ord_skip (by rfl) ?_; simp only [Act.put, List.setIfInBounds_toArray, List.set_cons_zero, List.set_cons_succ])
          | (refine Ord.ord_take (v := ?_) (by rfl) (fun w' hS => ?_) ?_; rotate_left; (focus ((try dsimp only at hS); go_simp; first | done | with_reducible rfl)); simp only [Act.put, List.setIfInBounds_toArray, List.set_cons_zero, List.set_cons_succ]))
        have hb21 : Below wr.heap.size wr wr.drew := (Below.refl _ _).drew
        have hB21 := btr HB20.out hb21
        have hS21 : wr.heap.size ≤ wr.drew.heap.size := hb21.size
        have hOk_21 := Lib.hid (hOk_20.out.below hb21 (by omega))
        have hOl_21 := Lib.hid (hOl_20.out.below hb21 (by omega))
        have hOo_21 := Lib.hid (hOo_20.out.below hb21 (by omega))
        have hOvk_21 := Lib.hid (hOvk_20.out.below hb21 )
        clear hOk_20 hOl_20 hOo_20 hOvk_20 hb21
        refine Ord.ord_call (fun K hK => ?_)
        go_simp
        refine (KC.out _ (hOl_21.out.wide (Nat.zero_le _) (by omega)) (hOo_21.out.wide (Nat.zero_le _) (by omega))).mono ?_
        rintro e w22 ⟨ad22, d22, rfl, hc22, ho22, hb22⟩
        have hB22 := btr hB21 hb22
        have hS22 := hb22.size
        have hOk_22 := Lib.hid (hOk_21.out.below hb22 (by omega))
        have hOl_22 := Lib.hid (hOl_21.out.below hb22 (by omega))
        have hOo_22 := Lib.hid (hOo_21.out.below hb22 (by omega))
        have hOvk_22 := Lib.hid (hOvk_21.out.below hb22 )
        have hOc_22 := Lib.hid ho22
        clear hOk_21 hOl_21 hOo_21 hOvk_21 hc22 ho22 hb22
        refine hK.out _ _ (⟨hOvk_22.out.1, hOvk_22.out.2.1⟩) ?_
        clear hK K
        repeat (first
          | (refine Ord.ord_plain (v := ?_) rfl (fun w' hS => ?_) ?_; rotate_left; (focus ((try dsimp only at hS); go_simp; first | done | with_reducible rfl)); simp only [Act.put, List.setIfInBounds_toArray, List.set_cons_zero, List.set_cons_succ])
          | (refine Ord.ord_skip (by rfl) ?_; simp only [Act.put, List.setIfInBounds_toArray, List.set_cons_zero, List.set_cons_succ])
          | (refine Ord.ord_take (v := ?_) (by rfl) (fun w' hS => ?_) ?_; rotate_left; (focus ((try dsimp only at hS); go_simp; first | done | with_reducible rfl)); simp only [Act.put, List.setIfInBounds_toArray, List.set_cons_zero, List.set_cons_succ]))
        refine Ord.ord_call (fun K hK => ?_)
        go_simp
        refine (KS.out _ _ _ _ _ hOk_22.out.r2 hOc_22.out.1).mono ?_
        rintro e w23 ⟨rfl, hb23⟩
        have hB23 := btr hB22 hb23
        have hS23 := hb23.size
        have hOk_23 := Lib.hid (hOk_22.out.below hb23 (by omega))
        have hOl_23 := Lib.hid (hOl_22.out.below hb23 (by omega))
        have hOo_23 := Lib.hid (hOo_22.out.below hb23 (by omega))
        have hOvk_23 := Lib.hid (hOvk_22.out.below hb23 )
        have hOc_23 := Lib.hid (hOc_22.out.below hb23 (by omega))
        clear hOk_22 hOl_22 hOo_22 hOvk_22 hOc_22 hb23
        refine hK.out _ _ (⟨hOvk_23.out.1, hOvk_23.out.2.1⟩) ?_
        clear hK K
        repeat (first
          | (refine Ord.ord_plain (v := ?_) rfl (fun w' hS => ?_) ?_; rotate_left; (focus ((try dsimp only at hS); go_simp; first | done | with_reducible rfl)); simp only [Act.put, List.setIfInBounds_toArray, List.set_cons_zero, List.set_cons_succ])
          | (refine Ord.ord_skip (by rfl) ?_; simp only [Act.put, List.setIfInBounds_toArray, List.set_cons_zero, List.set_cons_succ])
          | (refine Ord.ord_take (v := ?_) (by rfl) (fun w' hS => ?_) ?_; rotate_left; (focus ((try dsimp only at hS); go_simp; first | done | with_reducible rfl)); simp only [Act.put, List.setIfInBounds_toArray, List.set_cons_zero, List.set_cons_succ]))
        clear hOc_23
        refine Ord.ord_call (fun K hK => ?_)
        go_simp
        refine (KN.out _ 0 (hOk_23.out.wide (Nat.zero_le _) (by omega))).mono ?_
        rintro e w24 ⟨rfl, hb24⟩
        have hB24 := btr hB23 hb24
        have hS24 := hb24.size
        have hOk_24 := Lib.hid (hOk_23.out.below hb24 (by omega))
        have hOl_24 := Lib.hid (hOl_23.out.below hb24 (by omega))
        have hOo_24 := Lib.hid (hOo_23.out.below hb24 (by omega))
        have hOvk_24 := Lib.hid (hOvk_23.out.below hb24 )
        clear hOk_23 hOl_23 hOo_23 hOvk_23 hb24
        refine hK.out _ _ (⟨hOvk_24.out.1, hOvk_24.out.2.1⟩) ?_
        clear hK K
        repeat (first
          | (refine Ord.ord_plain (v := ?_) rfl (fun w' hS => ?_) ?_; rotate_left; (focus ((try dsimp only at hS); go_simp; first | done | with_reducible rfl)); simp only [Act.put, List.setIfInBounds_toArray, List.set_cons_zero, List.set_cons_succ])
          | (refine Ord.ord_skip (by rfl) ?_; simp only [Act.put, List.setIfInBounds_toArray, List.set_cons_zero, List.set_cons_succ])
          | (refine Ord.ord_take (v := ?_) (by rfl) (fun w' hS => ?_) ?_; rotate_left; (focus ((try dsimp only at hS); go_simp; first | done | with_reducible rfl)); simp only [Act.put, List.setIfInBounds_toArray, List.set_cons_zero, List.set_cons_succ]))
        refine Ord.ord_call (fun K hK => ?_)
        go_simp
        refine (KO'.out _ (hOk_24.out.wide (Nat.zero_le _) (by omega)) (hOl_24.out.wide (Nat.zero_le _) (by omega)) (hOo_24.out.wide (Nat.zero_le _) (by omega))).mono ?_
        rintro e w25 ⟨rfl, hb25⟩
        have hB25 := btr hB24 hb25
        have hS25 := hb25.size
        have hOk_25 := Lib.hid (hOk_24.out.below hb25 (by omega))
        have hOl_25 := Lib.hid (hOl_24.out.below hb25 (by omega))
        have hOo_25 := Lib.hid (hOo_24.out.below hb25 (by omega))
        have hOvk_25 := Lib.hid (hOvk_24.out.below hb25 )
        clear hOk_24 hOl_24 hOo_24 hOvk_24 hb25
        refine hK.out _ _ (⟨hOvk_25.out.1, hOvk_25.out.2.1⟩) ?_
        clear hK K
        repeat (first
          | (refine Ord.ord_plain (v := ?_) rfl (fun w' hS => ?_) ?_; rotate_left; (focus ((try dsimp only at hS); go_simp; first | done | with_reducible rfl)); simp only [Act.put, List.setIfInBounds_toArray, List.set_cons_zero, List.set_cons_succ])
          | (refine Ord.ord_skip (by rfl) ?_; simp only [Act.put, List.setIfInBounds_toArray, List.set_cons_zero, List.set_cons_succ])
          | (refine Ord.ord_take (v := ?_) (by rfl) (fun w' hS => ?_) ?_; rotate_left; (focus ((try dsimp only at hS); go_simp; first | done | with_reducible rfl)); simp only [Act.put, List.setIfInBounds_toArray, List.set_cons_zero, List.set_cons_succ]))
        refine Ord.ord_call (fun K hK => ?_)
        go_simp
        refine (KA.out _ (hOk_25.out.wide (Nat.zero_le _) (by omega))).mono ?_
        rintro e w26 ⟨A26', c26', B26', d26', rfl, ho26, hb26⟩
        have hB26 := btr hB25 hb26
        have hS26 := hb26.size
        have hOk_26 := Lib.hid (hOk_25.out.below hb26 (by omega))
        have hOl_26 := Lib.hid (hOl_25.out.below hb26 (by omega))
        have hOo_26 := Lib.hid (hOo_25.out.below hb26 (by omega))
        have hOvk_26 := Lib.hid (hOvk_25.out.below hb26 )
        have hOka_26 := Lib.hid ho26
        clear hOk_25 hOl_25 hOo_25 hOvk_25 ho26 hb26
        refine hK.out _ _ (⟨hOvk_26.out.1, hOvk_26.out.2.1⟩) ?_
        clear hK K
        repeat (first
          | (refine Ord.ord_plain (v := ?_) rfl (fun w' hS => ?_) ?_; rotate_left; (focus ((try dsimp only at hS); go_simp; first | done | with_reducible rfl)); simp only [Act.put, List.setIfInBounds_toArray, List.set_cons_zero, List.set_cons_succ])
          | (refine Ord.ord_skip (by rfl) ?_; simp only [Act.put, List.setIfInBounds_toArray, List.set_cons_zero, List.set_cons_succ])
          | (refine Ord.ord_take (v := ?_) (by rfl) (fun w' hS => ?_) ?_; rotate_left; (focus ((try dsimp only at hS); go_simp; first | done | with_reducible rfl)); simp only [Act.put, List.setIfInBounds_toArray, List.set_cons_zero, List.set_cons_succ]))
        refine Ord.ord_call (fun K hK => ?_)
        go_simp
        refine (KZ.out _ _ _ _ 0 _ (hOka_26.out.reads.wide (Nat.zero_le _) (by omega))).mono ?_
        rintro e w27 ⟨rfl, hb27⟩
        have hB27 := btr hB26 hb27
        have hS27 := hb27.size
        have hOk_27 := Lib.hid (hOk_26.out.below hb27 (by omega))
        have hOl_27 := Lib.hid (hOl_26.out.below hb27 (by omega))
        have hOo_27 := Lib.hid (hOo_26.out.below hb27 (by omega))
        have hOvk_27 := Lib.hid (hOvk_26.out.below hb27 )
        have hOka_27 := Lib.hid (hOka_26.out.below hb27 (by omega))
        clear hOk_26 hOl_26 hOo_26 hOvk_26 hOka_26 hb27
        refine hK.out _ _ (⟨hOvk_27.out.1, hOvk_27.out.2.1⟩) ?_
        clear hK K
        repeat (first
          | (refine Ord.ord_plain (v := ?_) rfl (fun w' hS => ?_) ?_; rotate_left; (focus ((try dsimp only at hS); go_simp; first | done | with_reducible rfl)); simp only [Act.put, List.setIfInBounds_toArray, List.set_cons_zero, List.set_cons_succ])
          | (refine Ord.ord_skip (by rfl) ?_; simp only [Act.put, List.setIfInBounds_toArray, List.set_cons_zero, List.set_cons_succ])
          | (refine Ord.ord_take (v := ?_) (by rfl) (fun w' hS => ?_) ?_; rotate_left; (focus ((try dsimp only at hS); go_simp; first | done | with_reducible rfl)); simp only [Act.put, List.setIfInBounds_toArray, List.set_cons_zero, List.set_cons_succ]))
        refine Ord.ord_nil ?_
        go_wp2_with fail
        go_ret
        exact ⟨rfl, hB27⟩

/-! ### The row's step -/
set_option maxRecDepth 100000 in
theorem lifted (os : Os) (started : os.Started) (H : Type) (enc : TypeId × Value → H) :
    ReturnsInHanded {} Try.checked os 5 .any (Rows.fnFillAllSpec.pre6 enc Try.prog Try.f5 Rows.fnFillAllRow.domain false) (Rows.fnFillAllSpec.post enc Try.prog Try.f5 false true false false) := by
  refine returnsInHanded_of_change (C := Try.checked) Base.own started (by kernel_rfl) Try.func5
    (ChangeSpec.witness6 (enc := enc) (C := Try.checked) false ⟨#[], #[.slice none 0 0], []⟩ 8 (by kernel_rfl) (by kernel_rfl) (by kernel_rfl) (by kernel_rfl)) ?_
  intro W base args ds gs before hval0 hW hcnd _
  have hval : ∀ (j : Nat) t v, Try.f5.params[j]? = some t → args[j]? = some v → Value.okWide Try.prog W .any base t v := hval0
  have hW' := hW
  obtain ⟨p, q, hA0, hV, rfl, hfz, hnd⟩ := hW
  have hA : DataW.TrodAll enc Try.prog W 0 (fun _ => true) true Try.f5.params.toList args.toList ds p := hA0
  have hA1 := hA
  rw [Try.params5] at hA hval
  obtain ⟨v0, vs0, d0, ds0, p0, q0, hargs, rfl, rfl, h0, r0⟩ := trodAll_cons hA
  obtain ⟨rfl, rfl, rfl⟩ := trodAll_nil r0
  obtain rfl : args = #[v0] := by cases args; simp_all
  obtain ⟨rfl, rfl⟩ := trodVars_none hV
  obtain ⟨A0, n0, c0, rfl, hn0, hcode0, _⟩ := Draw.open_code (hval 0 22 v0 rfl rfl) h0
  clear hA0 hval0
  rw [List.append_nil] at hW'
  refine (walk A0 n0 c0 hn0 hcode0).mono fun e W' ⟨he, hg⟩ => ?_
  subst he
  exact ⟨_, rfl, Mem.post_args Slots.laid (by kernel_rfl) rfl rfl rfl hW' hA1 hg (fun _ _ _ => (trodAll_cons_mk (shut_bool Try.underlying4 _) trodAll_mk0)) (ok_one (by kernel_rfl) rfl (okWide_bool_mk Try.underlying4 _))⟩

theorem over : Rows.fnFillAllRow.holds Try.pinned (OpenSpec.ofChange Rows.fnFillAllSpec) :=
  OpenClaim.holds_of_wide 5 Try.f5 rfl rfl rfl rfl rfl rfl rfl ⟨rfl, rfl, rfl, rfl, rfl⟩ rfl rfl rfl rfl rfl (by kernel_rfl) Try.func5 (by kernel_rfl)
    (of_decide_eq_true (by kernel_rfl)) (by unfold Func.isWrapper; first | (rw [if_pos (by decide +kernel)]; kernel_rfl) | (rw [if_neg (by decide +kernel)]; exact ⟨rfl, rfl⟩))
    (fun os started H enc _ => lifted os started H enc)

/-- The given statement. -/
theorem proved : Rows.FnFillAllSaid :=
  over
#print axioms proved
end Go.Proofs.Ytfgckkgakghenaa.fnFillAll
