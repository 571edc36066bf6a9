/-
  For every slice of bytes the law FnFlushed returns true: what was flushed is not found, and everything else is. No condition.
-/
import Derived.Test.YtmfileflmpmkpaaEntImpl
import Derived.Test.YtmfileflmpmkpaaEntOk
import Derived.Test.YtmfileflmpmkpaaEntTags
import Derived.Test.YtmfileflmpmkpaaEntDraws
import Derived.Test.YtmfileflmpmkpaaEntSame
import Derived.Test.YtmfileflmpmkpaaEntLaw
import Derived.Test.YtmfileflmpmkpaaSameInts
import Derived.Test.YtmfileflmpmkpaaOrdT
import Derived.Test.YtmfileflmpmkpaaCode
import Derived.Test.YtmfileflmpmkpaaBig
namespace Go.Proofs.Ytmfileflmpmkpaa.fnFlushed
set_option maxRecDepth 100000
open Go.ChangeShapes Go.WideShapes Go.ChangeAt Go.RowKit
open Go.Proofs.Ytmfileflmpmkpaa.Base Go.Proofs.Ytmfileflmpmkpaa.Mem Go.Proofs.Ytmfileflmpmkpaa.Slots Go.Proofs.Ytmfileflmpmkpaa.Ints Go.Proofs.Ytmfileflmpmkpaa.Draw Go.Proofs.Ytmfileflmpmkpaa.SDraw Go.Proofs.Ytmfileflmpmkpaa.Data Go.Proofs.Ytmfileflmpmkpaa.Ents
set_option linter.unusedVariables false
set_option linter.unusedSimpArgs false

theorem lies_block {w : World} {B : Nat} {cs : Array Value} {t : TypeId} {fr : Nat × Nat} (hb : w.heap[B]? = some (.cells cs t fr)) (hB : B < w.heap.size) : Lies w 0 w.heap.size (some ⟨B, 0, none⟩) cs.toList := fun j u hu =>
  ⟨B, 0, rfl, Nat.zero_le _, hB, by have h := World.news_of_block hb j u hu; rwa [Addr.add_lit] at h⟩
def oneL : List ET := [(1, 2, 3, 0), (2, 2, 4, 0)]
theorem wf_one : wfEL oneL := fun s hs => by
  rcases List.mem_cons.1 hs with rfl | hs
  · exact ⟨by decide, by decide, by decide, by decide⟩
  · rw [List.mem_singleton.1 hs]; exact ⟨by decide, by decide, by decide, by decide⟩

set_option maxRecDepth 100000 in
set_option maxHeartbeats 8000000 in
theorem walk (A : Option Addr) (n c : Nat) (hn : n ≤ maxLen) {w : World} (hcode : CodeAt w A n) :
    Calls Try.prog 4 #[.slice A n c] w fun e w' => e = .returned (.bool true) ∧ Below w.heap.size w w' := by
  have hn' : n ≤ 9223372036854775807 := hn
  have HC := Lib.hid (show ∀ W, Below w.heap.size w W → CodeAt W A n from fun W hb => hcode.below hb)
  clear hcode hn
  by_cases h1 : 1048576 < n
  · go_enter Try.func4, Try.ntmps4
    go_wp2_with (go_at_call 13; refine (big_yes A n c _ hn' h1).mono ?_; rintro e w' ⟨rfl, rfl⟩)
    go_ret
    exact ⟨rfl, Below.refl _ _⟩
  · have hn2 : n ≤ 1048576 := by omega
    clear h1 hn'
    go_enter Try.func4, Try.ntmps4
    go_wp2_with (go_at_call 13; refine (big_no A n c _ hn2).mono ?_; rintro e w' ⟨rfl, rfl⟩)
    go_wp2_with fail
    refine (drawFlushP_any A n c _ hn2 (HC.out _ (Below.refl _ _))).mono ?_
    rintro e w1 ⟨ad1, m1, p1, l1, t, p, rfl, hwt, hwp, hE, hb1⟩
    have HL1 := Lib.hid hE.2.1
    have HW1 := Lib.hid hE.2.2.1
    have hm1 : m1 ≤ 1048576 := by have := hE.1; omega
    have hle1 := hE.1
    have HWt := Lib.hid hwt
    have HWp := Lib.hid hwp
    have hB1 := btr (Below.refl _ _) hb1
    have hS1 := hb1.size
    have hOb1_1 := Lib.hid (hE.2.2.2)
    clear hE hb1
    clear hwt hwp
    have hK1 := fun (A : Option Addr) (c : Nat) (V : World) (h : Lies V 0 V.heap.size A (ecells l1)) => spec_flushP A m1 c 0 t p l1 V hm1 HL1.out h
    have hK2 := fun (A : Option Addr) (c : Nat) (V : World) (h : Lies V 0 V.heap.size A (ecells l1)) => impl_flushP A m1 c l1 V t p hm1 HL1.out h HW1.out HWt.out HWp.out
    have hff := fun (e : ET) (he : e ∈ l1) => flush_find t p he
    have hfg := flush_gone l1 t p
    have hle := flushP_le l1 t p
    have hwu := wf_flushP (t := t) (p := p) HW1.out
    rw [HL1.out] at hle
    generalize flushP l1 t p = u at hK1 hK2 hff hfg hle hwu
    obtain ⟨N, hN⟩ : ∃ N, u.length = N := ⟨_, rfl⟩
    have HU := Lib.hid hN
    have hmN : N ≤ 1048576 := by omega
    have hG := fun (A : Option Addr) (c : Nat) (V : World) (h : Lies V 0 V.heap.size A (ecells u)) => impl_find A N c u V t p hmN HU.out h hwu HWt.out HWp.out
    unfold EntP at hG
    generalize findE u t p = z at hG hfg
    obtain ⟨⟨z0, z1, z2, z3⟩, zo⟩ := z
    dsimp only at hfg
    subst hfg
    have HG := Lib.hid hG
    have hG2 := fun (t' p' : Int) (wt : (Lit.int .i64 t').wf = true) (wp : (Lit.int .i64 p').wf = true) (A : Option Addr) (c : Nat) (V : World) (h : Lies V 0 V.heap.size A (ecells u)) => impl_find A N c u V t' p' hmN HU.out h hwu wt wp
    have HG2 := Lib.hid hG2
    have HFF := Lib.hid hff
    have HK1 := Lib.hid hK1
    have HK2 := Lib.hid hK2
    have hT1 := fun (A : Option Addr) (c : Nat) (V : World) (h : Lies V 0 V.heap.size A (ecells l1)) => spec_flushT A m1 c 0 t l1 V hm1 HL1.out h
    have hT2 := fun (A : Option Addr) (c : Nat) (V : World) (h : Lies V 0 V.heap.size A (ecells l1)) => impl_flushT A m1 c l1 V t hm1 HL1.out h HW1.out HWt.out
    have hlt2 := flushT_le l1 t
    rw [HL1.out] at hlt2
    generalize flushT l1 t = uT at hT1 hT2 hlt2
    obtain ⟨NT, hNT⟩ : ∃ N, uT.length = N := ⟨_, rfl⟩
    have HUT := Lib.hid hNT
    have hmNT : NT ≤ 1048576 := by omega
    have HT1 := Lib.hid hT1
    have HT2 := Lib.hid hT2
    clear hK1 hK2 hff hle hwu hN hG hG2 hT1 hT2 hlt2 hNT
    go_wp2_with fail
    refine (HK2.out _ _ _ (hOb1_1.out.wide (Nat.zero_le _) (by omega))).mono ?_
    rintro e w2 ⟨A2', n2', c2', rfl, hl2, ho2, hb2⟩
    have he2 := HU.out.symm.trans hl2
    subst he2
    have hB2 := btr hB1 hb2
    have hS2 := hb2.size
    have hOb1_2 := Lib.hid (hOb1_1.out.below hb2 (by omega))
    have hOx_2 := Lib.hid ho2
    clear hOb1_1 hl2 ho2 hb2
    go_wp2_with fail
    refine (HT2.out _ _ _ (hOb1_2.out.wide (Nat.zero_le _) (by omega))).mono ?_
    rintro e w3 ⟨A3', n3', c3', rfl, hl3, ho3, hb3⟩
    have he3 := HUT.out.symm.trans hl3
    subst he3
    have hB3 := btr hB2 hb3
    have hS3 := hb3.size
    have hOb1_3 := Lib.hid (hOb1_2.out.below hb3 (by omega))
    have hOx_3 := Lib.hid (hOx_2.out.below hb3 (by omega))
    have hOy_3 := Lib.hid ho3
    clear hOb1_2 hOx_2 hl3 ho3 hb3
    go_wp2_with fail
    refine (drawFlushH_any A n c _ hn2 (HC.out _ hB3)).mono ?_
    rintro e w4 ⟨ad2, m2, p2, l2, s, rfl, hws, hE, hb4⟩
    have HL2 := Lib.hid hE.2.1
    have HW2 := Lib.hid hE.2.2.1
    have hm2 : m2 ≤ 1048576 := by have := hE.1; omega
    have hle2 := hE.1
    have HWs := Lib.hid hws
    have hB4 := btr hB3 hb4
    have hS4 := hb4.size
    have hOb1_4 := Lib.hid (hOb1_3.out.below hb4 (by omega))
    have hOx_4 := Lib.hid (hOx_3.out.below hb4 (by omega))
    have hOy_4 := Lib.hid (hOy_3.out.below hb4 (by omega))
    have hOb2_4 := Lib.hid (hE.2.2.2)
    clear hOb1_3 hOx_3 hOy_3 hE hb4
    clear hws
    have hH1 := fun (A : Option Addr) (c : Nat) (V : World) (h : Lies V 0 V.heap.size A (ecells l2)) => spec_flushH A m2 c 0 s l2 V hm2 HL2.out h
    have hH2 := fun (A : Option Addr) (c : Nat) (V : World) (h : Lies V 0 V.heap.size A (ecells l2)) => impl_flushH A m2 c l2 V s hm2 HL2.out h HW2.out HWs.out
    have hlt2 := flushH_le l2 s
    rw [HL2.out] at hlt2
    generalize flushH l2 s = uH at hH1 hH2 hlt2
    obtain ⟨NH, hNH⟩ : ∃ N, uH.length = N := ⟨_, rfl⟩
    have HUH := Lib.hid hNH
    have hmNH : NH ≤ 1048576 := by omega
    have HH1 := Lib.hid hH1
    have HH2 := Lib.hid hH2
    clear hH1 hH2 hlt2 hNH
    go_wp2_with fail
    refine (HH2.out _ _ _ (hOb2_4.out.wide (Nat.zero_le _) (by omega))).mono ?_
    rintro e w5 ⟨A5', n5', c5', rfl, hl5, ho5, hb5⟩
    have he5 := HUH.out.symm.trans hl5
    subst he5
    have hB5 := btr hB4 hb5
    have hS5 := hb5.size
    have hOb1_5 := Lib.hid (hOb1_4.out.below hb5 (by omega))
    have hOx_5 := Lib.hid (hOx_4.out.below hb5 (by omega))
    have hOy_5 := Lib.hid (hOy_4.out.below hb5 (by omega))
    have hOb2_5 := Lib.hid (hOb2_4.out.below hb5 (by omega))
    have hOz_5 := Lib.hid ho5
    clear hOb1_4 hOx_4 hOy_4 hOb2_4 hl5 ho5 hb5
    go_wp2_with fail
    refine (HK1.out _ _ _ (hOb1_5.out.wide (Nat.zero_le _) (by omega))).mono ?_
    rintro e w6 ⟨A6', n6', c6', rfl, hl6, ho6, hb6⟩
    have he6 := HU.out.symm.trans hl6
    subst he6
    have hB6 := btr hB5 hb6
    have hS6 := hb6.size
    have hOb1_6 := Lib.hid (hOb1_5.out.below hb6 (by omega))
    have hOx_6 := Lib.hid (hOx_5.out.below hb6 (by omega))
    have hOy_6 := Lib.hid (hOy_5.out.below hb6 (by omega))
    have hOb2_6 := Lib.hid (hOb2_5.out.below hb6 (by omega))
    have hOz_6 := Lib.hid (hOz_5.out.below hb6 (by omega))
    have hOq_6 := Lib.hid ho6
    clear hOb1_5 hOx_5 hOy_5 hOb2_5 hOz_5 hl6 ho6 hb6
    go_wp2_with fail
    refine (sameE_same A2' A6' N c2' c6' _ _ _ _ u _ hmN HU.out hOx_6.out.1 hOq_6.out.1).mono ?_
    rintro e w7 ⟨rfl, hb7⟩
    have hB7 := btr hB6 hb7
    have hS7 := hb7.size
    have hOb1_7 := Lib.hid (hOb1_6.out.below hb7 (by omega))
    have hOx_7 := Lib.hid (hOx_6.out.below hb7 (by omega))
    have hOy_7 := Lib.hid (hOy_6.out.below hb7 (by omega))
    have hOb2_7 := Lib.hid (hOb2_6.out.below hb7 (by omega))
    have hOz_7 := Lib.hid (hOz_6.out.below hb7 (by omega))
    have hOq_7 := Lib.hid (hOq_6.out.below hb7 (by omega))
    clear hOb1_6 hOx_6 hOy_6 hOb2_6 hOz_6 hOq_6 hb7
    clear hOq_7
    go_wp2_with fail
    refine (HT1.out _ _ _ (hOb1_7.out.wide (Nat.zero_le _) (by omega))).mono ?_
    rintro e w8 ⟨A8', n8', c8', rfl, hl8, ho8, hb8⟩
    have he8 := HUT.out.symm.trans hl8
    subst he8
    have hB8 := btr hB7 hb8
    have hS8 := hb8.size
    have hOb1_8 := Lib.hid (hOb1_7.out.below hb8 (by omega))
    have hOx_8 := Lib.hid (hOx_7.out.below hb8 (by omega))
    have hOy_8 := Lib.hid (hOy_7.out.below hb8 (by omega))
    have hOb2_8 := Lib.hid (hOb2_7.out.below hb8 (by omega))
    have hOz_8 := Lib.hid (hOz_7.out.below hb8 (by omega))
    have hOq_8 := Lib.hid ho8
    clear hOb1_7 hOx_7 hOy_7 hOb2_7 hOz_7 hl8 ho8 hb8
    go_wp2_with fail
    refine (sameE_same A3' A8' NT c3' c8' _ _ _ _ uT _ hmNT HUT.out hOy_8.out.1 hOq_8.out.1).mono ?_
    rintro e w9 ⟨rfl, hb9⟩
    have hB9 := btr hB8 hb9
    have hS9 := hb9.size
    have hOb1_9 := Lib.hid (hOb1_8.out.below hb9 (by omega))
    have hOx_9 := Lib.hid (hOx_8.out.below hb9 (by omega))
    have hOy_9 := Lib.hid (hOy_8.out.below hb9 (by omega))
    have hOb2_9 := Lib.hid (hOb2_8.out.below hb9 (by omega))
    have hOz_9 := Lib.hid (hOz_8.out.below hb9 (by omega))
    have hOq_9 := Lib.hid (hOq_8.out.below hb9 (by omega))
    clear hOb1_8 hOx_8 hOy_8 hOb2_8 hOz_8 hOq_8 hb9
    clear hOq_9
    go_wp2_with fail
    refine (HH1.out _ _ _ (hOb2_9.out.wide (Nat.zero_le _) (by omega))).mono ?_
    rintro e w10 ⟨A10', n10', c10', rfl, hl10, ho10, hb10⟩
    have he10 := HUH.out.symm.trans hl10
    subst he10
    have hB10 := btr hB9 hb10
    have hS10 := hb10.size
    have hOb1_10 := Lib.hid (hOb1_9.out.below hb10 (by omega))
    have hOx_10 := Lib.hid (hOx_9.out.below hb10 (by omega))
    have hOy_10 := Lib.hid (hOy_9.out.below hb10 (by omega))
    have hOb2_10 := Lib.hid (hOb2_9.out.below hb10 (by omega))
    have hOz_10 := Lib.hid (hOz_9.out.below hb10 (by omega))
    have hOq_10 := Lib.hid ho10
    clear hOb1_9 hOx_9 hOy_9 hOb2_9 hOz_9 hl10 ho10 hb10
    go_wp2_with fail
    refine (sameE_same A5' A10' NH c5' c10' _ _ _ _ uH _ hmNH HUH.out hOz_10.out.1 hOq_10.out.1).mono ?_
    rintro e w11 ⟨rfl, hb11⟩
    have hB11 := btr hB10 hb11
    have hS11 := hb11.size
    have hOb1_11 := Lib.hid (hOb1_10.out.below hb11 (by omega))
    have hOx_11 := Lib.hid (hOx_10.out.below hb11 (by omega))
    have hOy_11 := Lib.hid (hOy_10.out.below hb11 (by omega))
    have hOb2_11 := Lib.hid (hOb2_10.out.below hb11 (by omega))
    have hOz_11 := Lib.hid (hOz_10.out.below hb11 (by omega))
    have hOq_11 := Lib.hid (hOq_10.out.below hb11 (by omega))
    clear hOb1_10 hOx_10 hOy_10 hOb2_10 hOz_10 hOq_10 hb11
    clear hOq_11
    clear hOy_11
    clear hOz_11
    clear hOb2_11
    go_wp2_with fail
    refine (HG.out _ _ _ (hOx_11.out.1.wide (Nat.zero_le _) (by omega))).mono ?_
    rintro e w12 ⟨rfl, hb12⟩
    have hB12 := btr hB11 hb12
    have hS12 := hb12.size
    have hOb1_12 := Lib.hid (hOb1_11.out.below hb12 (by omega))
    have hOx_12 := Lib.hid (hOx_11.out.below hb12 (by omega))
    clear hOb1_11 hOx_11 hb12
    have hb13 : Below w12.heap.size w12 (w12.alloc (.cells #[.int .i64 z0, .int .i64 z1, .int .i64 z2, .int .i64 z3] 26)) := (Below.refl _ _).alloc (Nat.le_refl _) _
    have hB13 := btr hB12 hb13
    have hS13 : w12.heap.size < (w12.alloc (.cells #[.int .i64 z0, .int .i64 z1, .int .i64 z2, .int .i64 z3] 26)).heap.size := by simp
    have hOb1_13 := Lib.hid (hOb1_12.out.below hb13 (by omega))
    have hOx_13 := Lib.hid (hOx_12.out.below hb13 (by omega))
    have hOv_13 := Lib.hid (Four.new w12 (z0, z1, z2, z3) 26)
    clear hOb1_12 hOx_12 hb13
    clear hOv_13
    go_wp2_with fail
    have HBW := Lib.hid hB13
    generalize (w12.alloc (.cells #[.int .i64 z0, .int .i64 z1, .int .i64 z2, .int .i64 z3] 26)) = W at hOb1_13 hOx_13 hS13 HBW ⊢
    have HX := Lib.hid (show Lies W 0 W.heap.size A2' (ecells u) from hOx_13.out.1.wide (Nat.zero_le _) (by omega))
    have HBB := Lib.hid (show Lies W 0 W.heap.size (some ad1) (ecells l1) from hOb1_13.out.wide (Nat.zero_le _) (by omega))
    go_loopw [13] (fun i wr => ∃ (k : Nat), k ≤ m1 ∧ i = .int .i64 k ∧ Below W.heap.size W wr) (fun i _ => m1 - (intOf i).toNat)
    case atStart => exact ⟨0, Nat.zero_le _, rfl, Below.refl _ _⟩
    case round =>
      obtain ⟨k, hk, rfl, hbr⟩ := hrel
      by_cases hlt : k < m1
      · have hkl : k < l1.length := by have := HL1.out; omega
        obtain ⟨b, off, e', _, hbW, c0, c1, c2, c3⟩ := e_at HBB.out k hkl
        cases e'
        have hwk := HW1.out _ (List.getElem_mem hkl)
        have hq := HFF.out _ (List.getElem_mem hkl)
        have hj0 : (0 : Int) ≤ (k : Int) := Int.natCast_nonneg _
        have hj1 : (k : Int) < (m1 : Int) := by omega
        obtain ⟨⟨x0, x1, x2, x3⟩, hxy⟩ : ∃ s, s = l1[k] := ⟨_, rfl⟩
        rw [← hxy] at c0 c1 hwk hq
        dsimp only at c0 c1 hq
        have hcall := fun (V : World) (hb : Below W.heap.size W V) => HG2.out x0 x1 hwk.1 hwk.2.1 A2' c2' V ((HX.out.below hb (Nat.le_refl _)).wide (Nat.le_refl _) hb.size)
        unfold EntP at hcall
        clear c2 c3 hxy hwk
        by_cases hx : x0 = t
        · have hx2 := hx.symm
          subst hx2
          by_cases hy : x1 = p
          · have hy2 := hy.symm
            subst hy2
            have hv : ∃ y0 y1 y2 y3, findE u t p = ((y0, y1, y2, y3), false) := ⟨_, _, _, _, Prod.ext rfl (by rw [hq]; simp [isE])⟩
            obtain ⟨y0, y1, y2, y3, hv⟩ := hv
            rw [hv] at hcall
            have HCALL := Lib.hid hcall
            clear hcall hv hq
            go_wp2_with fail
            refine Ord.wp_region_tree (fun w' => w'.cell? ⟨b, off + k * 4, none⟩ = some (.int .i64 t) ∧ w'.cell? ⟨b, off + k * 4 + 1, none⟩ = some (.int .i64 p)) (.take 0 (.take 1 (.take 2 (.take 3 (.take 4 (.take 5 (.take 6 (.take 7 (.take 8 (.take 9 (.take 10 (.two 11 (.take 12 (.take 13 (.take 14 (.alone 15 (.alone 16 (.take 17 .nil)))))) 15 (.alone 11 (.take 12 (.take 13 (.take 14 (.alone 16 (.take 17 .nil)))))))))))))))))) (by kernel_rfl) (by kernel_rfl) (by kernel_rfl) (⟨(Below.cell (p := ⟨b, off + k * 4, none⟩) (hbr) hbW).trans c0, (Below.cell (p := ⟨b, off + k * 4 + 1, none⟩) (hbr) hbW).trans c1⟩) ?_
            have hbd := hbr.drew
            clear hbr
            generalize wr.drew = wd at hbd ⊢
            (refine Ord.ot_take (v := ?_) rfl (by rfl) (fun w' hS => ?_) ?_; rotate_left; (focus ((try dsimp only at hS); go_simp; first | done | with_reducible rfl)); simp only [Act.put, List.setIfInBounds_toArray, List.set_cons_zero, List.set_cons_succ])
            (refine Ord.ot_take (v := ?_) rfl (by rfl) (fun w' hS => ?_) ?_; rotate_left; (focus ((try dsimp only at hS); go_simp; first | done | with_reducible rfl)); simp only [Act.put, List.setIfInBounds_toArray, List.set_cons_zero, List.set_cons_succ])
            (refine Ord.ot_take (v := ?_) rfl (by rfl) (fun w' hS => ?_) ?_; rotate_left; (focus ((try dsimp only at hS); go_simp; first | done | with_reducible rfl)); simp only [Act.put, List.setIfInBounds_toArray, List.set_cons_zero, List.set_cons_succ])
            (refine Ord.ot_take (v := ?_) rfl (by rfl) (fun w' hS => ?_) ?_; rotate_left; (focus ((try dsimp only at hS); go_simp; first | done | with_reducible rfl)); simp only [Act.put, List.setIfInBounds_toArray, List.set_cons_zero, List.set_cons_succ])
            (refine Ord.ot_take (v := ?_) rfl (by rfl) (fun w' hS => ?_) ?_; rotate_left; (focus ((try dsimp only at hS); go_simp; first | done | with_reducible rfl)); simp only [Act.put, List.setIfInBounds_toArray, List.set_cons_zero, List.set_cons_succ])
            (refine Ord.ot_take (v := ?_) rfl (by rfl) (fun w' hS => ?_) ?_; rotate_left; (focus ((try dsimp only at hS); go_simp; first | done | with_reducible rfl)); simp only [Act.put, List.setIfInBounds_toArray, List.set_cons_zero, List.set_cons_succ])
            (refine Ord.ot_take (v := ?_) rfl (by rfl) (fun w' hS => ?_) ?_; rotate_left; (focus ((try dsimp only at hS); go_simp; first | done | with_reducible rfl)); simp only [Act.put, List.setIfInBounds_toArray, List.set_cons_zero, List.set_cons_succ])
            (refine Ord.ot_take (v := ?_) rfl (by rfl) (fun w' hS => ?_) ?_; rotate_left; (focus ((try dsimp only at hS); go_simp; first | done | with_reducible rfl)); simp only [Act.put, List.setIfInBounds_toArray, List.set_cons_zero, List.set_cons_succ])
            (refine Ord.ot_take (v := ?_) rfl (by rfl) (fun w' hS => ?_) ?_; rotate_left; (focus ((try dsimp only at hS); go_simp; first | done | with_reducible rfl)); simp only [Act.put, List.setIfInBounds_toArray, List.set_cons_zero, List.set_cons_succ])
            (refine Ord.ot_take (v := ?_) rfl (by rfl) (fun w' hS => ?_) ?_; rotate_left; (focus ((try dsimp only at hS); go_simp; first | done | with_reducible rfl)); simp only [Act.put, List.setIfInBounds_toArray, List.set_cons_zero, List.set_cons_succ])
            (refine Ord.ot_take (v := ?_) rfl (by rfl) (fun w' hS => ?_) ?_; rotate_left; (focus ((try dsimp only at hS); go_simp; first | done | with_reducible rfl)); simp only [Act.put, List.setIfInBounds_toArray, List.set_cons_zero, List.set_cons_succ])
            refine Ord.ot_two rfl rfl (fun K hK => ?_) (fun K hK => ?_)
            · go_simp
              refine (HCALL.out _ (hbd)).mono ?_
              rintro e w5 ⟨rfl, hb5⟩
              have hbd5 := btr hbd hb5
              refine hK.out _ _ (⟨(Below.cell (p := ⟨b, off + k * 4, none⟩) (hbd5) hbW).trans c0, (Below.cell (p := ⟨b, off + k * 4 + 1, none⟩) (hbd5) hbW).trans c1⟩) ?_
              clear hK K
              (try simp only [Act.put, List.setIfInBounds_toArray, List.set_cons_zero, List.set_cons_succ])
              (refine Ord.ot_take (v := ?_) rfl (by rfl) (fun w' hS => ?_) ?_; rotate_left; (focus ((try dsimp only at hS); go_simp; first | done | with_reducible rfl)); simp only [Act.put, List.setIfInBounds_toArray, List.set_cons_zero, List.set_cons_succ])
              (refine Ord.ot_take (v := ?_) rfl (by rfl) (fun w' hS => ?_) ?_; rotate_left; (focus ((try dsimp only at hS); go_simp; first | done | with_reducible rfl)); simp only [Act.put, List.setIfInBounds_toArray, List.set_cons_zero, List.set_cons_succ])
              (refine Ord.ot_take (v := ?_) rfl (by rfl) (fun w' hS => ?_) ?_; rotate_left; (focus ((try dsimp only at hS); go_simp; first | done | with_reducible rfl)); simp only [Act.put, List.setIfInBounds_toArray, List.set_cons_zero, List.set_cons_succ])
              refine Ord.ot_alone rfl (fun K hK => ?_)
              go_simp
              have t6 := Four.new w5 noE 26
              change Four (w5.alloc (.cells #[.int .i64 0, .int .i64 0, .int .i64 0, .int .i64 0] 26)) w5.heap.size noE at t6
              have hb6 := hbd5.alloc hbd5.size (.cells #[.int .i64 0, .int .i64 0, .int .i64 0, .int .i64 0] 26)
              have hzv := hbd5.size
              refine hK.out _ _ (⟨(Below.cell (p := ⟨b, off + k * 4, none⟩) (hb6) hbW).trans c0, (Below.cell (p := ⟨b, off + k * 4 + 1, none⟩) (hb6) hbW).trans c1⟩) ?_
              clear hK K
              (try simp only [Act.put, List.setIfInBounds_toArray, List.set_cons_zero, List.set_cons_succ])
              generalize w5.alloc (.cells #[.int .i64 0, .int .i64 0, .int .i64 0, .int .i64 0] 26) = V6 at t6 hb6 ⊢
              generalize w5.heap.size = zv at t6 hzv ⊢
              clear hbd5 hb5
              obtain ⟨q0, q1, q2, q3, g0, g1, g2, g3, hq⟩ := t6
              dsimp only [noE] at q0 q1 q2 q3
              refine Ord.ot_alone rfl (fun K hK => ?_)
              go_simp
              have hb7 := set_four hb6 hzv (.int .i64 y0) (.int .i64 y1) (.int .i64 y2) (.int .i64 y3)
              refine hK.out _ _ (⟨(Below.cell (p := ⟨b, off + k * 4, none⟩) (hb7) hbW).trans c0, (Below.cell (p := ⟨b, off + k * 4 + 1, none⟩) (hb7) hbW).trans c1⟩) ?_
              clear hK K
              (try simp only [Act.put, List.setIfInBounds_toArray, List.set_cons_zero, List.set_cons_succ])
              (refine Ord.ot_take (v := ?_) rfl (by rfl) (fun w' hS => ?_) ?_; rotate_left; (focus ((try dsimp only at hS); go_simp; first | done | with_reducible rfl)); simp only [Act.put, List.setIfInBounds_toArray, List.set_cons_zero, List.set_cons_succ])
              refine Ord.ot_nil ?_
              have HB7 := Lib.hid hb7
              have d0 := (Below.cell (p := ⟨b, off + k * 4, none⟩) hb7 hbW).trans c0
              have d1 := (Below.cell (p := ⟨b, off + k * 4 + 1, none⟩) hb7 hbW).trans c1
              clear hb7 hb6
              generalize (((V6.setCell ⟨zv, 0, none⟩ (.int .i64 y0)).setCell ⟨zv, 1, none⟩ (.int .i64 y1)).setCell ⟨zv, 2, none⟩ (.int .i64 y2)).setCell ⟨zv, 3, none⟩ (.int .i64 y3) = V7 at HB7 d0 d1 ⊢
              go_wp2_with fail
              go_roundw
              case rel => exact ⟨k + 1, by omega, by go_num, HB7.out⟩
              case measure => simp [intOf]; omega
            · go_simp
              have t5 := Four.new wd noE 26
              change Four (wd.alloc (.cells #[.int .i64 0, .int .i64 0, .int .i64 0, .int .i64 0] 26)) wd.heap.size noE at t5
              have hb4 := hbd.alloc hbd.size (.cells #[.int .i64 0, .int .i64 0, .int .i64 0, .int .i64 0] 26)
              have hzv := hbd.size
              refine hK.out _ _ (⟨(Below.cell (p := ⟨b, off + k * 4, none⟩) (hb4) hbW).trans c0, (Below.cell (p := ⟨b, off + k * 4 + 1, none⟩) (hb4) hbW).trans c1⟩) ?_
              clear hK K
              (try simp only [Act.put, List.setIfInBounds_toArray, List.set_cons_zero, List.set_cons_succ])
              have hzz : wd.heap.size < (wd.alloc (.cells #[.int .i64 0, .int .i64 0, .int .i64 0, .int .i64 0] 26)).heap.size := by simp
              generalize wd.alloc (.cells #[.int .i64 0, .int .i64 0, .int .i64 0, .int .i64 0] 26) = V4 at t5 hb4 hzz ⊢
              generalize wd.heap.size = zv at t5 hzv hzz ⊢
              refine Ord.ot_alone rfl (fun K hK => ?_)
              go_simp
              refine (HCALL.out _ (hb4)).mono ?_
              rintro e w5 ⟨rfl, hb5⟩
              have hb6 := btr hb4 hb5
              have t6 := t5.below hb5 hzz
              refine hK.out _ _ (⟨(Below.cell (p := ⟨b, off + k * 4, none⟩) (hb6) hbW).trans c0, (Below.cell (p := ⟨b, off + k * 4 + 1, none⟩) (hb6) hbW).trans c1⟩) ?_
              clear hK K
              (try simp only [Act.put, List.setIfInBounds_toArray, List.set_cons_zero, List.set_cons_succ])
              (refine Ord.ot_take (v := ?_) rfl (by rfl) (fun w' hS => ?_) ?_; rotate_left; (focus ((try dsimp only at hS); go_simp; first | done | with_reducible rfl)); simp only [Act.put, List.setIfInBounds_toArray, List.set_cons_zero, List.set_cons_succ])
              (refine Ord.ot_take (v := ?_) rfl (by rfl) (fun w' hS => ?_) ?_; rotate_left; (focus ((try dsimp only at hS); go_simp; first | done | with_reducible rfl)); simp only [Act.put, List.setIfInBounds_toArray, List.set_cons_zero, List.set_cons_succ])
              (refine Ord.ot_take (v := ?_) rfl (by rfl) (fun w' hS => ?_) ?_; rotate_left; (focus ((try dsimp only at hS); go_simp; first | done | with_reducible rfl)); simp only [Act.put, List.setIfInBounds_toArray, List.set_cons_zero, List.set_cons_succ])
              generalize w5 = V6 at t6 hb6 ⊢
              obtain ⟨q0, q1, q2, q3, g0, g1, g2, g3, hq⟩ := t6
              dsimp only [noE] at q0 q1 q2 q3
              refine Ord.ot_alone rfl (fun K hK => ?_)
              go_simp
              have hb7 := set_four hb6 hzv (.int .i64 y0) (.int .i64 y1) (.int .i64 y2) (.int .i64 y3)
              refine hK.out _ _ (⟨(Below.cell (p := ⟨b, off + k * 4, none⟩) (hb7) hbW).trans c0, (Below.cell (p := ⟨b, off + k * 4 + 1, none⟩) (hb7) hbW).trans c1⟩) ?_
              clear hK K
              (try simp only [Act.put, List.setIfInBounds_toArray, List.set_cons_zero, List.set_cons_succ])
              (refine Ord.ot_take (v := ?_) rfl (by rfl) (fun w' hS => ?_) ?_; rotate_left; (focus ((try dsimp only at hS); go_simp; first | done | with_reducible rfl)); simp only [Act.put, List.setIfInBounds_toArray, List.set_cons_zero, List.set_cons_succ])
              refine Ord.ot_nil ?_
              have HB7 := Lib.hid hb7
              have d0 := (Below.cell (p := ⟨b, off + k * 4, none⟩) hb7 hbW).trans c0
              have d1 := (Below.cell (p := ⟨b, off + k * 4 + 1, none⟩) hb7 hbW).trans c1
              clear hb7 hb6
              generalize (((V6.setCell ⟨zv, 0, none⟩ (.int .i64 y0)).setCell ⟨zv, 1, none⟩ (.int .i64 y1)).setCell ⟨zv, 2, none⟩ (.int .i64 y2)).setCell ⟨zv, 3, none⟩ (.int .i64 y3) = V7 at HB7 d0 d1 ⊢
              go_wp2_with fail
              go_roundw
              case rel => exact ⟨k + 1, by omega, by go_num, HB7.out⟩
              case measure => simp [intOf]; omega
          · have hy' : (x1 != p) = true := by simpa using hy
            have hv : ∃ y0 y1 y2 y3, findE u t x1 = ((y0, y1, y2, y3), true) := ⟨_, _, _, _, Prod.ext rfl (by rw [hq]; simpa [isE] using hy)⟩
            obtain ⟨y0, y1, y2, y3, hv⟩ := hv
            rw [hv] at hcall
            have HCALL := Lib.hid hcall
            clear hcall hv hq
            go_wp2_with fail
            refine Ord.wp_region_tree (fun w' => w'.cell? ⟨b, off + k * 4, none⟩ = some (.int .i64 t) ∧ w'.cell? ⟨b, off + k * 4 + 1, none⟩ = some (.int .i64 x1)) (.take 0 (.take 1 (.take 2 (.take 3 (.take 4 (.take 5 (.take 6 (.take 7 (.take 8 (.take 9 (.take 10 (.two 11 (.take 12 (.take 13 (.take 14 (.alone 15 (.alone 16 (.take 17 .nil)))))) 15 (.alone 11 (.take 12 (.take 13 (.take 14 (.alone 16 (.take 17 .nil)))))))))))))))))) (by kernel_rfl) (by kernel_rfl) (by kernel_rfl) (⟨(Below.cell (p := ⟨b, off + k * 4, none⟩) (hbr) hbW).trans c0, (Below.cell (p := ⟨b, off + k * 4 + 1, none⟩) (hbr) hbW).trans c1⟩) ?_
            have hbd := hbr.drew
            clear hbr
            generalize wr.drew = wd at hbd ⊢
            (refine Ord.ot_take (v := ?_) rfl (by rfl) (fun w' hS => ?_) ?_; rotate_left; (focus ((try dsimp only at hS); go_simp; first | done | with_reducible rfl)); simp only [Act.put, List.setIfInBounds_toArray, List.set_cons_zero, List.set_cons_succ])
            (refine Ord.ot_take (v := ?_) rfl (by rfl) (fun w' hS => ?_) ?_; rotate_left; (focus ((try dsimp only at hS); go_simp; first | done | with_reducible rfl)); simp only [Act.put, List.setIfInBounds_toArray, List.set_cons_zero, List.set_cons_succ])
            (refine Ord.ot_take (v := ?_) rfl (by rfl) (fun w' hS => ?_) ?_; rotate_left; (focus ((try dsimp only at hS); go_simp; first | done | with_reducible rfl)); simp only [Act.put, List.setIfInBounds_toArray, List.set_cons_zero, List.set_cons_succ])
            (refine Ord.ot_take (v := ?_) rfl (by rfl) (fun w' hS => ?_) ?_; rotate_left; (focus ((try dsimp only at hS); go_simp; first | done | with_reducible rfl)); simp only [Act.put, List.setIfInBounds_toArray, List.set_cons_zero, List.set_cons_succ])
            (refine Ord.ot_take (v := ?_) rfl (by rfl) (fun w' hS => ?_) ?_; rotate_left; (focus ((try dsimp only at hS); go_simp; first | done | with_reducible rfl)); simp only [Act.put, List.setIfInBounds_toArray, List.set_cons_zero, List.set_cons_succ])
            (refine Ord.ot_take (v := ?_) rfl (by rfl) (fun w' hS => ?_) ?_; rotate_left; (focus ((try dsimp only at hS); go_simp; first | done | with_reducible rfl)); simp only [Act.put, List.setIfInBounds_toArray, List.set_cons_zero, List.set_cons_succ])
            (refine Ord.ot_take (v := ?_) rfl (by rfl) (fun w' hS => ?_) ?_; rotate_left; (focus ((try dsimp only at hS); go_simp; first | done | with_reducible rfl)); simp only [Act.put, List.setIfInBounds_toArray, List.set_cons_zero, List.set_cons_succ])
            (refine Ord.ot_take (v := ?_) rfl (by rfl) (fun w' hS => ?_) ?_; rotate_left; (focus ((try dsimp only at hS); go_simp; first | done | with_reducible rfl)); simp only [Act.put, List.setIfInBounds_toArray, List.set_cons_zero, List.set_cons_succ])
            (refine Ord.ot_take (v := ?_) rfl (by rfl) (fun w' hS => ?_) ?_; rotate_left; (focus ((try dsimp only at hS); go_simp; first | done | with_reducible rfl)); simp only [Act.put, List.setIfInBounds_toArray, List.set_cons_zero, List.set_cons_succ])
            (refine Ord.ot_take (v := ?_) rfl (by rfl) (fun w' hS => ?_) ?_; rotate_left; (focus ((try dsimp only at hS); go_simp; first | done | with_reducible rfl)); simp only [Act.put, List.setIfInBounds_toArray, List.set_cons_zero, List.set_cons_succ])
            (refine Ord.ot_take (v := ?_) rfl (by rfl) (fun w' hS => ?_) ?_; rotate_left; (focus ((try dsimp only at hS); go_simp; first | done | with_reducible rfl)); simp only [Act.put, List.setIfInBounds_toArray, List.set_cons_zero, List.set_cons_succ])
            refine Ord.ot_two rfl rfl (fun K hK => ?_) (fun K hK => ?_)
            · go_simp
              refine (HCALL.out _ (hbd)).mono ?_
              rintro e w5 ⟨rfl, hb5⟩
              have hbd5 := btr hbd hb5
              refine hK.out _ _ (⟨(Below.cell (p := ⟨b, off + k * 4, none⟩) (hbd5) hbW).trans c0, (Below.cell (p := ⟨b, off + k * 4 + 1, none⟩) (hbd5) hbW).trans c1⟩) ?_
              clear hK K
              (try simp only [Act.put, List.setIfInBounds_toArray, List.set_cons_zero, List.set_cons_succ])
              (refine Ord.ot_take (v := ?_) rfl (by rfl) (fun w' hS => ?_) ?_; rotate_left; (focus ((try dsimp only at hS); go_simp; first | done | with_reducible rfl)); simp only [Act.put, List.setIfInBounds_toArray, List.set_cons_zero, List.set_cons_succ])
              (refine Ord.ot_take (v := ?_) rfl (by rfl) (fun w' hS => ?_) ?_; rotate_left; (focus ((try dsimp only at hS); go_simp; first | done | with_reducible rfl)); simp only [Act.put, List.setIfInBounds_toArray, List.set_cons_zero, List.set_cons_succ])
              (refine Ord.ot_take (v := ?_) rfl (by rfl) (fun w' hS => ?_) ?_; rotate_left; (focus ((try dsimp only at hS); go_simp; first | done | with_reducible rfl)); simp only [Act.put, List.setIfInBounds_toArray, List.set_cons_zero, List.set_cons_succ])
              refine Ord.ot_alone rfl (fun K hK => ?_)
              go_simp
              have t6 := Four.new w5 noE 26
              change Four (w5.alloc (.cells #[.int .i64 0, .int .i64 0, .int .i64 0, .int .i64 0] 26)) w5.heap.size noE at t6
              have hb6 := hbd5.alloc hbd5.size (.cells #[.int .i64 0, .int .i64 0, .int .i64 0, .int .i64 0] 26)
              have hzv := hbd5.size
              refine hK.out _ _ (⟨(Below.cell (p := ⟨b, off + k * 4, none⟩) (hb6) hbW).trans c0, (Below.cell (p := ⟨b, off + k * 4 + 1, none⟩) (hb6) hbW).trans c1⟩) ?_
              clear hK K
              (try simp only [Act.put, List.setIfInBounds_toArray, List.set_cons_zero, List.set_cons_succ])
              generalize w5.alloc (.cells #[.int .i64 0, .int .i64 0, .int .i64 0, .int .i64 0] 26) = V6 at t6 hb6 ⊢
              generalize w5.heap.size = zv at t6 hzv ⊢
              clear hbd5 hb5
              obtain ⟨q0, q1, q2, q3, g0, g1, g2, g3, hq⟩ := t6
              dsimp only [noE] at q0 q1 q2 q3
              refine Ord.ot_alone rfl (fun K hK => ?_)
              go_simp
              have hb7 := set_four hb6 hzv (.int .i64 y0) (.int .i64 y1) (.int .i64 y2) (.int .i64 y3)
              refine hK.out _ _ (⟨(Below.cell (p := ⟨b, off + k * 4, none⟩) (hb7) hbW).trans c0, (Below.cell (p := ⟨b, off + k * 4 + 1, none⟩) (hb7) hbW).trans c1⟩) ?_
              clear hK K
              (try simp only [Act.put, List.setIfInBounds_toArray, List.set_cons_zero, List.set_cons_succ])
              (refine Ord.ot_take (v := ?_) rfl (by rfl) (fun w' hS => ?_) ?_; rotate_left; (focus ((try dsimp only at hS); go_simp; first | done | with_reducible rfl)); simp only [Act.put, List.setIfInBounds_toArray, List.set_cons_zero, List.set_cons_succ])
              refine Ord.ot_nil ?_
              have HB7 := Lib.hid hb7
              have d0 := (Below.cell (p := ⟨b, off + k * 4, none⟩) hb7 hbW).trans c0
              have d1 := (Below.cell (p := ⟨b, off + k * 4 + 1, none⟩) hb7 hbW).trans c1
              clear hb7 hb6
              generalize (((V6.setCell ⟨zv, 0, none⟩ (.int .i64 y0)).setCell ⟨zv, 1, none⟩ (.int .i64 y1)).setCell ⟨zv, 2, none⟩ (.int .i64 y2)).setCell ⟨zv, 3, none⟩ (.int .i64 y3) = V7 at HB7 d0 d1 ⊢
              go_wp2_with fail
              go_roundw
              case rel => exact ⟨k + 1, by omega, by go_num, HB7.out⟩
              case measure => simp [intOf]; omega
            · go_simp
              have t5 := Four.new wd noE 26
              change Four (wd.alloc (.cells #[.int .i64 0, .int .i64 0, .int .i64 0, .int .i64 0] 26)) wd.heap.size noE at t5
              have hb4 := hbd.alloc hbd.size (.cells #[.int .i64 0, .int .i64 0, .int .i64 0, .int .i64 0] 26)
              have hzv := hbd.size
              refine hK.out _ _ (⟨(Below.cell (p := ⟨b, off + k * 4, none⟩) (hb4) hbW).trans c0, (Below.cell (p := ⟨b, off + k * 4 + 1, none⟩) (hb4) hbW).trans c1⟩) ?_
              clear hK K
              (try simp only [Act.put, List.setIfInBounds_toArray, List.set_cons_zero, List.set_cons_succ])
              have hzz : wd.heap.size < (wd.alloc (.cells #[.int .i64 0, .int .i64 0, .int .i64 0, .int .i64 0] 26)).heap.size := by simp
              generalize wd.alloc (.cells #[.int .i64 0, .int .i64 0, .int .i64 0, .int .i64 0] 26) = V4 at t5 hb4 hzz ⊢
              generalize wd.heap.size = zv at t5 hzv hzz ⊢
              refine Ord.ot_alone rfl (fun K hK => ?_)
              go_simp
              refine (HCALL.out _ (hb4)).mono ?_
              rintro e w5 ⟨rfl, hb5⟩
              have hb6 := btr hb4 hb5
              have t6 := t5.below hb5 hzz
              refine hK.out _ _ (⟨(Below.cell (p := ⟨b, off + k * 4, none⟩) (hb6) hbW).trans c0, (Below.cell (p := ⟨b, off + k * 4 + 1, none⟩) (hb6) hbW).trans c1⟩) ?_
              clear hK K
              (try simp only [Act.put, List.setIfInBounds_toArray, List.set_cons_zero, List.set_cons_succ])
              (refine Ord.ot_take (v := ?_) rfl (by rfl) (fun w' hS => ?_) ?_; rotate_left; (focus ((try dsimp only at hS); go_simp; first | done | with_reducible rfl)); simp only [Act.put, List.setIfInBounds_toArray, List.set_cons_zero, List.set_cons_succ])
              (refine Ord.ot_take (v := ?_) rfl (by rfl) (fun w' hS => ?_) ?_; rotate_left; (focus ((try dsimp only at hS); go_simp; first | done | with_reducible rfl)); simp only [Act.put, List.setIfInBounds_toArray, List.set_cons_zero, List.set_cons_succ])
              (refine Ord.ot_take (v := ?_) rfl (by rfl) (fun w' hS => ?_) ?_; rotate_left; (focus ((try dsimp only at hS); go_simp; first | done | with_reducible rfl)); simp only [Act.put, List.setIfInBounds_toArray, List.set_cons_zero, List.set_cons_succ])
              generalize w5 = V6 at t6 hb6 ⊢
              obtain ⟨q0, q1, q2, q3, g0, g1, g2, g3, hq⟩ := t6
              dsimp only [noE] at q0 q1 q2 q3
              refine Ord.ot_alone rfl (fun K hK => ?_)
              go_simp
              have hb7 := set_four hb6 hzv (.int .i64 y0) (.int .i64 y1) (.int .i64 y2) (.int .i64 y3)
              refine hK.out _ _ (⟨(Below.cell (p := ⟨b, off + k * 4, none⟩) (hb7) hbW).trans c0, (Below.cell (p := ⟨b, off + k * 4 + 1, none⟩) (hb7) hbW).trans c1⟩) ?_
              clear hK K
              (try simp only [Act.put, List.setIfInBounds_toArray, List.set_cons_zero, List.set_cons_succ])
              (refine Ord.ot_take (v := ?_) rfl (by rfl) (fun w' hS => ?_) ?_; rotate_left; (focus ((try dsimp only at hS); go_simp; first | done | with_reducible rfl)); simp only [Act.put, List.setIfInBounds_toArray, List.set_cons_zero, List.set_cons_succ])
              refine Ord.ot_nil ?_
              have HB7 := Lib.hid hb7
              have d0 := (Below.cell (p := ⟨b, off + k * 4, none⟩) hb7 hbW).trans c0
              have d1 := (Below.cell (p := ⟨b, off + k * 4 + 1, none⟩) hb7 hbW).trans c1
              clear hb7 hb6
              generalize (((V6.setCell ⟨zv, 0, none⟩ (.int .i64 y0)).setCell ⟨zv, 1, none⟩ (.int .i64 y1)).setCell ⟨zv, 2, none⟩ (.int .i64 y2)).setCell ⟨zv, 3, none⟩ (.int .i64 y3) = V7 at HB7 d0 d1 ⊢
              go_wp2_with fail
              go_roundw
              case rel => exact ⟨k + 1, by omega, by go_num, HB7.out⟩
              case measure => simp [intOf]; omega
        · have hx' : (x0 != t) = true := by simpa using hx
          have hv : ∃ y0 y1 y2 y3, findE u x0 x1 = ((y0, y1, y2, y3), true) := ⟨_, _, _, _, Prod.ext rfl (by rw [hq]; simp [isE, hx])⟩
          obtain ⟨y0, y1, y2, y3, hv⟩ := hv
          rw [hv] at hcall
          have HCALL := Lib.hid hcall
          clear hcall hv hq
          go_wp2_with fail
          refine Ord.wp_region_tree (fun w' => w'.cell? ⟨b, off + k * 4, none⟩ = some (.int .i64 x0) ∧ w'.cell? ⟨b, off + k * 4 + 1, none⟩ = some (.int .i64 x1)) (.take 0 (.take 1 (.take 2 (.take 3 (.take 4 (.take 5 (.take 6 (.take 7 (.take 8 (.take 9 (.take 10 (.two 11 (.take 12 (.take 13 (.take 14 (.alone 15 (.alone 16 (.take 17 .nil)))))) 15 (.alone 11 (.take 12 (.take 13 (.take 14 (.alone 16 (.take 17 .nil)))))))))))))))))) (by kernel_rfl) (by kernel_rfl) (by kernel_rfl) (⟨(Below.cell (p := ⟨b, off + k * 4, none⟩) (hbr) hbW).trans c0, (Below.cell (p := ⟨b, off + k * 4 + 1, none⟩) (hbr) hbW).trans c1⟩) ?_
          have hbd := hbr.drew
          clear hbr
          generalize wr.drew = wd at hbd ⊢
          (refine Ord.ot_take (v := ?_) rfl (by rfl) (fun w' hS => ?_) ?_; rotate_left; (focus ((try dsimp only at hS); go_simp; first | done | with_reducible rfl)); simp only [Act.put, List.setIfInBounds_toArray, List.set_cons_zero, List.set_cons_succ])
          (refine Ord.ot_take (v := ?_) rfl (by rfl) (fun w' hS => ?_) ?_; rotate_left; (focus ((try dsimp only at hS); go_simp; first | done | with_reducible rfl)); simp only [Act.put, List.setIfInBounds_toArray, List.set_cons_zero, List.set_cons_succ])
          (refine Ord.ot_take (v := ?_) rfl (by rfl) (fun w' hS => ?_) ?_; rotate_left; (focus ((try dsimp only at hS); go_simp; first | done | with_reducible rfl)); simp only [Act.put, List.setIfInBounds_toArray, List.set_cons_zero, List.set_cons_succ])
          (refine Ord.ot_take (v := ?_) rfl (by rfl) (fun w' hS => ?_) ?_; rotate_left; (focus ((try dsimp only at hS); go_simp; first | done | with_reducible rfl)); simp only [Act.put, List.setIfInBounds_toArray, List.set_cons_zero, List.set_cons_succ])
          (refine Ord.ot_take (v := ?_) rfl (by rfl) (fun w' hS => ?_) ?_; rotate_left; (focus ((try dsimp only at hS); go_simp; first | done | with_reducible rfl)); simp only [Act.put, List.setIfInBounds_toArray, List.set_cons_zero, List.set_cons_succ])
          (refine Ord.ot_take (v := ?_) rfl (by rfl) (fun w' hS => ?_) ?_; rotate_left; (focus ((try dsimp only at hS); go_simp; first | done | with_reducible rfl)); simp only [Act.put, List.setIfInBounds_toArray, List.set_cons_zero, List.set_cons_succ])
          (refine Ord.ot_take (v := ?_) rfl (by rfl) (fun w' hS => ?_) ?_; rotate_left; (focus ((try dsimp only at hS); go_simp; first | done | with_reducible rfl)); simp only [Act.put, List.setIfInBounds_toArray, List.set_cons_zero, List.set_cons_succ])
          (refine Ord.ot_take (v := ?_) rfl (by rfl) (fun w' hS => ?_) ?_; rotate_left; (focus ((try dsimp only at hS); go_simp; first | done | with_reducible rfl)); simp only [Act.put, List.setIfInBounds_toArray, List.set_cons_zero, List.set_cons_succ])
          (refine Ord.ot_take (v := ?_) rfl (by rfl) (fun w' hS => ?_) ?_; rotate_left; (focus ((try dsimp only at hS); go_simp; first | done | with_reducible rfl)); simp only [Act.put, List.setIfInBounds_toArray, List.set_cons_zero, List.set_cons_succ])
          (refine Ord.ot_take (v := ?_) rfl (by rfl) (fun w' hS => ?_) ?_; rotate_left; (focus ((try dsimp only at hS); go_simp; first | done | with_reducible rfl)); simp only [Act.put, List.setIfInBounds_toArray, List.set_cons_zero, List.set_cons_succ])
          (refine Ord.ot_take (v := ?_) rfl (by rfl) (fun w' hS => ?_) ?_; rotate_left; (focus ((try dsimp only at hS); go_simp; first | done | with_reducible rfl)); simp only [Act.put, List.setIfInBounds_toArray, List.set_cons_zero, List.set_cons_succ])
          refine Ord.ot_two rfl rfl (fun K hK => ?_) (fun K hK => ?_)
          · go_simp
            refine (HCALL.out _ (hbd)).mono ?_
            rintro e w5 ⟨rfl, hb5⟩
            have hbd5 := btr hbd hb5
            refine hK.out _ _ (⟨(Below.cell (p := ⟨b, off + k * 4, none⟩) (hbd5) hbW).trans c0, (Below.cell (p := ⟨b, off + k * 4 + 1, none⟩) (hbd5) hbW).trans c1⟩) ?_
            clear hK K
            (try simp only [Act.put, List.setIfInBounds_toArray, List.set_cons_zero, List.set_cons_succ])
            (refine Ord.ot_take (v := ?_) rfl (by rfl) (fun w' hS => ?_) ?_; rotate_left; (focus ((try dsimp only at hS); go_simp; first | done | with_reducible rfl)); simp only [Act.put, List.setIfInBounds_toArray, List.set_cons_zero, List.set_cons_succ])
            (refine Ord.ot_take (v := ?_) rfl (by rfl) (fun w' hS => ?_) ?_; rotate_left; (focus ((try dsimp only at hS); go_simp; first | done | with_reducible rfl)); simp only [Act.put, List.setIfInBounds_toArray, List.set_cons_zero, List.set_cons_succ])
            (refine Ord.ot_take (v := ?_) rfl (by rfl) (fun w' hS => ?_) ?_; rotate_left; (focus ((try dsimp only at hS); go_simp; first | done | with_reducible rfl)); simp only [Act.put, List.setIfInBounds_toArray, List.set_cons_zero, List.set_cons_succ])
            refine Ord.ot_alone rfl (fun K hK => ?_)
            go_simp
            have t6 := Four.new w5 noE 26
            change Four (w5.alloc (.cells #[.int .i64 0, .int .i64 0, .int .i64 0, .int .i64 0] 26)) w5.heap.size noE at t6
            have hb6 := hbd5.alloc hbd5.size (.cells #[.int .i64 0, .int .i64 0, .int .i64 0, .int .i64 0] 26)
            have hzv := hbd5.size
            refine hK.out _ _ (⟨(Below.cell (p := ⟨b, off + k * 4, none⟩) (hb6) hbW).trans c0, (Below.cell (p := ⟨b, off + k * 4 + 1, none⟩) (hb6) hbW).trans c1⟩) ?_
            clear hK K
            (try simp only [Act.put, List.setIfInBounds_toArray, List.set_cons_zero, List.set_cons_succ])
            generalize w5.alloc (.cells #[.int .i64 0, .int .i64 0, .int .i64 0, .int .i64 0] 26) = V6 at t6 hb6 ⊢
            generalize w5.heap.size = zv at t6 hzv ⊢
            clear hbd5 hb5
            obtain ⟨q0, q1, q2, q3, g0, g1, g2, g3, hq⟩ := t6
            dsimp only [noE] at q0 q1 q2 q3
            refine Ord.ot_alone rfl (fun K hK => ?_)
            go_simp
            have hb7 := set_four hb6 hzv (.int .i64 y0) (.int .i64 y1) (.int .i64 y2) (.int .i64 y3)
            refine hK.out _ _ (⟨(Below.cell (p := ⟨b, off + k * 4, none⟩) (hb7) hbW).trans c0, (Below.cell (p := ⟨b, off + k * 4 + 1, none⟩) (hb7) hbW).trans c1⟩) ?_
            clear hK K
            (try simp only [Act.put, List.setIfInBounds_toArray, List.set_cons_zero, List.set_cons_succ])
            (refine Ord.ot_take (v := ?_) rfl (by rfl) (fun w' hS => ?_) ?_; rotate_left; (focus ((try dsimp only at hS); go_simp; first | done | with_reducible rfl)); simp only [Act.put, List.setIfInBounds_toArray, List.set_cons_zero, List.set_cons_succ])
            refine Ord.ot_nil ?_
            have HB7 := Lib.hid hb7
            have d0 := (Below.cell (p := ⟨b, off + k * 4, none⟩) hb7 hbW).trans c0
            have d1 := (Below.cell (p := ⟨b, off + k * 4 + 1, none⟩) hb7 hbW).trans c1
            clear hb7 hb6
            generalize (((V6.setCell ⟨zv, 0, none⟩ (.int .i64 y0)).setCell ⟨zv, 1, none⟩ (.int .i64 y1)).setCell ⟨zv, 2, none⟩ (.int .i64 y2)).setCell ⟨zv, 3, none⟩ (.int .i64 y3) = V7 at HB7 d0 d1 ⊢
            go_wp2_with fail
            go_roundw
            case rel => exact ⟨k + 1, by omega, by go_num, HB7.out⟩
            case measure => simp [intOf]; omega
          · go_simp
            have t5 := Four.new wd noE 26
            change Four (wd.alloc (.cells #[.int .i64 0, .int .i64 0, .int .i64 0, .int .i64 0] 26)) wd.heap.size noE at t5
            have hb4 := hbd.alloc hbd.size (.cells #[.int .i64 0, .int .i64 0, .int .i64 0, .int .i64 0] 26)
            have hzv := hbd.size
            refine hK.out _ _ (⟨(Below.cell (p := ⟨b, off + k * 4, none⟩) (hb4) hbW).trans c0, (Below.cell (p := ⟨b, off + k * 4 + 1, none⟩) (hb4) hbW).trans c1⟩) ?_
            clear hK K
            (try simp only [Act.put, List.setIfInBounds_toArray, List.set_cons_zero, List.set_cons_succ])
            have hzz : wd.heap.size < (wd.alloc (.cells #[.int .i64 0, .int .i64 0, .int .i64 0, .int .i64 0] 26)).heap.size := by simp
            generalize wd.alloc (.cells #[.int .i64 0, .int .i64 0, .int .i64 0, .int .i64 0] 26) = V4 at t5 hb4 hzz ⊢
            generalize wd.heap.size = zv at t5 hzv hzz ⊢
            refine Ord.ot_alone rfl (fun K hK => ?_)
            go_simp
            refine (HCALL.out _ (hb4)).mono ?_
            rintro e w5 ⟨rfl, hb5⟩
            have hb6 := btr hb4 hb5
            have t6 := t5.below hb5 hzz
            refine hK.out _ _ (⟨(Below.cell (p := ⟨b, off + k * 4, none⟩) (hb6) hbW).trans c0, (Below.cell (p := ⟨b, off + k * 4 + 1, none⟩) (hb6) hbW).trans c1⟩) ?_
            clear hK K
            (try simp only [Act.put, List.setIfInBounds_toArray, List.set_cons_zero, List.set_cons_succ])
            (refine Ord.ot_take (v := ?_) rfl (by rfl) (fun w' hS => ?_) ?_; rotate_left; (focus ((try dsimp only at hS); go_simp; first | done | with_reducible rfl)); simp only [Act.put, List.setIfInBounds_toArray, List.set_cons_zero, List.set_cons_succ])
            (refine Ord.ot_take (v := ?_) rfl (by rfl) (fun w' hS => ?_) ?_; rotate_left; (focus ((try dsimp only at hS); go_simp; first | done | with_reducible rfl)); simp only [Act.put, List.setIfInBounds_toArray, List.set_cons_zero, List.set_cons_succ])
            (refine Ord.ot_take (v := ?_) rfl (by rfl) (fun w' hS => ?_) ?_; rotate_left; (focus ((try dsimp only at hS); go_simp; first | done | with_reducible rfl)); simp only [Act.put, List.setIfInBounds_toArray, List.set_cons_zero, List.set_cons_succ])
            generalize w5 = V6 at t6 hb6 ⊢
            obtain ⟨q0, q1, q2, q3, g0, g1, g2, g3, hq⟩ := t6
            dsimp only [noE] at q0 q1 q2 q3
            refine Ord.ot_alone rfl (fun K hK => ?_)
            go_simp
            have hb7 := set_four hb6 hzv (.int .i64 y0) (.int .i64 y1) (.int .i64 y2) (.int .i64 y3)
            refine hK.out _ _ (⟨(Below.cell (p := ⟨b, off + k * 4, none⟩) (hb7) hbW).trans c0, (Below.cell (p := ⟨b, off + k * 4 + 1, none⟩) (hb7) hbW).trans c1⟩) ?_
            clear hK K
            (try simp only [Act.put, List.setIfInBounds_toArray, List.set_cons_zero, List.set_cons_succ])
            (refine Ord.ot_take (v := ?_) rfl (by rfl) (fun w' hS => ?_) ?_; rotate_left; (focus ((try dsimp only at hS); go_simp; first | done | with_reducible rfl)); simp only [Act.put, List.setIfInBounds_toArray, List.set_cons_zero, List.set_cons_succ])
            refine Ord.ot_nil ?_
            have HB7 := Lib.hid hb7
            have d0 := (Below.cell (p := ⟨b, off + k * 4, none⟩) hb7 hbW).trans c0
            have d1 := (Below.cell (p := ⟨b, off + k * 4 + 1, none⟩) hb7 hbW).trans c1
            clear hb7 hb6
            generalize (((V6.setCell ⟨zv, 0, none⟩ (.int .i64 y0)).setCell ⟨zv, 1, none⟩ (.int .i64 y1)).setCell ⟨zv, 2, none⟩ (.int .i64 y2)).setCell ⟨zv, 3, none⟩ (.int .i64 y3) = V7 at HB7 d0 d1 ⊢
            go_wp2_with fail
            go_roundw
            case rel => exact ⟨k + 1, by omega, by go_num, HB7.out⟩
            case measure => simp [intOf]; omega
      · obtain rfl : k = m1 := by omega
        have hB0 := btr HBW.out hbr
        have hbO : Below w.heap.size w (wr.alloc (.cells #[.int .i64 1, .int .i64 2, .int .i64 3, .int .i64 0, .int .i64 2, .int .i64 2, .int .i64 4, .int .i64 0] 26)) := hB0.alloc hB0.size _
        have hO : Lies (wr.alloc (.cells #[.int .i64 1, .int .i64 2, .int .i64 3, .int .i64 0, .int .i64 2, .int .i64 2, .int .i64 4, .int .i64 0] 26)) 0 (wr.alloc (.cells #[.int .i64 1, .int .i64 2, .int .i64 3, .int .i64 0, .int .i64 2, .int .i64 2, .int .i64 4, .int .i64 0] 26)).heap.size (some ⟨wr.heap.size, 0, none⟩) (ecells oneL) := lies_block (heap_alloc_new wr _) (by simp)
        go_wp2_with fail
        generalize wr.alloc (.cells #[.int .i64 1, .int .i64 2, .int .i64 3, .int .i64 0, .int .i64 2, .int .i64 2, .int .i64 4, .int .i64 0] 26) = V0 at hbO hO ⊢
        refine (impl_flushT _ 2 2 oneL _ 1 (by omega) rfl hO wf_one (by decide)).mono ?_
        rintro e V1 ⟨A1, n1, c1, rfl, hl1, _, hb1⟩
        obtain rfl : 1 = n1 := hl1
        have hB1 := btr hbO hb1
        have hO1 := (hO.below hb1 (Nat.le_refl _)).wide (Nat.le_refl _) hb1.size
        go_wp2_with fail
        refine (impl_flushH _ 2 2 oneL _ 4 (by omega) rfl hO1 wf_one (by decide)).mono ?_
        rintro e V2 ⟨A2, n2, c2, rfl, hl2, _, hb2⟩
        obtain rfl : 1 = n2 := hl2
        have hB2 := btr hB1 hb2
        have hO2 := (hO1.below hb2 (Nat.le_refl _)).wide (Nat.le_refl _) hb2.size
        go_wp2_with fail
        refine (impl_flushP _ 2 2 oneL _ 2 2 (by omega) rfl hO2 wf_one (by decide) (by decide)).mono ?_
        rintro e V3 ⟨A3, n3, c3, rfl, hl3, _, hb3⟩
        obtain rfl : 1 = n3 := hl3
        have hB3 := btr hB2 hb3
        go_wp2_with fail
        go_ret
        exact ⟨rfl, hB3⟩

/-! ### The row's step -/
set_option maxRecDepth 100000 in
theorem lifted (os : Os) (started : os.Started) (H : Type) (enc : TypeId × Value → H) :
    ReturnsInHanded {} Try.checked os 4 .any (Rows.fnFlushedSpec.pre6 enc Try.prog Try.f4 Rows.fnFlushedRow.domain false) (Rows.fnFlushedSpec.post enc Try.prog Try.f4 false true false false) := by
  refine returnsInHanded_of_change (C := Try.checked) Base.own started (by kernel_rfl) Try.func4
    (ChangeSpec.witness6 (enc := enc) (C := Try.checked) false ⟨#[], #[.slice none 0 0], []⟩ 8 (by kernel_rfl) (by kernel_rfl) (by kernel_rfl) (by kernel_rfl)) ?_
  intro W base args ds gs before hval0 hW hcnd _
  have hval : ∀ (j : Nat) t v, Try.f4.params[j]? = some t → args[j]? = some v → Value.okWide Try.prog W .any base t v := hval0
  have hW' := hW
  obtain ⟨p, q, hA0, hV, rfl, hfz, hnd⟩ := hW
  have hA : DataW.TrodAll enc Try.prog W 0 (fun _ => true) true Try.f4.params.toList args.toList ds p := hA0
  have hA1 := hA
  rw [Try.params4] at hA hval
  obtain ⟨v0, vs0, d0, ds0, p0, q0, hargs, rfl, rfl, h0, r0⟩ := trodAll_cons hA
  obtain ⟨rfl, rfl, rfl⟩ := trodAll_nil r0
  obtain rfl : args = #[v0] := by cases args; simp_all
  obtain ⟨rfl, rfl⟩ := trodVars_none hV
  obtain ⟨A0, n0, c0, rfl, hn0, hcode0, _⟩ := Draw.open_code (hval 0 22 v0 rfl rfl) h0
  clear hA0 hval0
  rw [List.append_nil] at hW'
  refine (walk A0 n0 c0 hn0 hcode0).mono fun e W' ⟨he, hg⟩ => ?_
  subst he
  exact ⟨_, rfl, Mem.post_args Slots.laid (by kernel_rfl) rfl rfl rfl hW' hA1 hg (fun _ _ _ => (trodAll_cons_mk (shut_bool Try.underlying4 _) trodAll_mk0)) (ok_one (by kernel_rfl) rfl (okWide_bool_mk Try.underlying4 _))⟩

theorem over : Rows.fnFlushedRow.holds Try.pinned (OpenSpec.ofChange Rows.fnFlushedSpec) :=
  OpenClaim.holds_of_wide 4 Try.f4 rfl rfl rfl rfl rfl rfl rfl ⟨rfl, rfl, rfl, rfl, rfl⟩ rfl rfl rfl rfl rfl (by kernel_rfl) Try.func4 (by kernel_rfl)
    (of_decide_eq_true (by kernel_rfl)) (by unfold Func.isWrapper; first | (rw [if_pos (by decide +kernel)]; kernel_rfl) | (rw [if_neg (by decide +kernel)]; exact ⟨rfl, rfl⟩))
    (fun os started H enc _ => lifted os started H enc)

/-- The given statement. -/
theorem proved : Rows.FnFlushedSaid :=
  over
#print axioms proved
end Go.Proofs.Ytmfileflmpmkpaa.fnFlushed
