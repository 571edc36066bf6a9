/-
  For every slice of bytes the law FnSlots returns true: at the drawn tables WithSlot, SlotAt, SlotOk, TableOk and TableNew answer as the given model's, a slot that was set is read back, and all others are as they were. No condition.
-/
import Derived.Test.YtocclalchakibaaTabN
import Derived.Test.YtocclalchakibaaTabOk
import Derived.Test.YtocclalchakibaaSame
import Derived.Test.YtocclalchakibaaSlotDraws
import Derived.Test.YtocclalchakibaaSlotArgs
import Derived.Test.YtocclalchakibaaBig
import Derived.Test.YtocclalchakibaaOrd
namespace Go.Proofs.Ytocclalchakibaa.fnSlots
open Go.ChangeShapes Go.WideShapes Go.ChangeAt Go.RowKit
open Go.Proofs.Ytocclalchakibaa.Base Go.Proofs.Ytocclalchakibaa.Mem Go.Proofs.Ytocclalchakibaa.Slots Go.Proofs.Ytocclalchakibaa.Ints Go.Proofs.Ytocclalchakibaa.Draw Go.Proofs.Ytocclalchakibaa.SDraw
set_option linter.unusedVariables false

theorem at_with {l : List Sl} {page : Int} {s : Sl} {k : Nat} (hk : k < l.length) : atS (withS l page s) (k : Int) = if (k : Int) = page then s else l[k] := by
  rw [atS_yes (by rw [withS_len]; exact hk)]
  by_cases h : (k : Int) = page
  · subst h
    rw [if_pos rfl]
    unfold withS
    simp
  · rw [if_neg h]
    unfold withS
    by_cases h0 : 0 ≤ page
    · simp only [if_pos h0]
      rw [List.getElem_set_ne (by omega)]
    · simp only [if_neg h0]
theorem blk_lies {w : World} {b lo hi : Nat} {cs : List Value} {T : TypeId} {fr : Nat × Nat} (h : w.heap[b]? = some (.cells cs.toArray T fr)) (h1 : lo ≤ b) (h2 : b < hi) : Lies w lo hi (some ⟨b, 0, none⟩) cs := fun j u hu => by
  refine ⟨b, 0, rfl, h1, h2, ?_⟩
  rw [Nat.zero_add, cell_of_row w b j _ _ _ h]
  simpa using hu
theorem one_at : atS [(3, 1)] 0 = (3, 1) := by decide

set_option maxRecDepth 100000 in
set_option maxHeartbeats 8000000 in
theorem walk (A : Option Addr) (n c : Nat) (hn : n ≤ maxLen) {w : World} (hcode : CodeAt w A n) :
    Calls Try.prog 3 #[.slice A n c] w fun e w' => e = .returned (.bool true) ∧ Below w.heap.size w w' := by
  have hn' : n ≤ 9223372036854775807 := hn
  have HC := Lib.hid hcode
  clear hcode hn
  by_cases h1 : 1048576 < n
  · go_enter Try.func3, Try.ntmps3
    go_wp2_with (go_at_call 15; refine (big_yes A n c _ hn' h1).mono ?_; rintro e w' ⟨rfl, rfl⟩)
    go_ret
    exact ⟨rfl, Below.refl _ _⟩
  · have hn2 : n ≤ 1048576 := by omega
    clear h1 hn'
    go_enter Try.func3, Try.ntmps3
    go_wp2_with (go_at_call 15; refine (big_no A n c _ hn2).mono ?_; rintro e w' ⟨rfl, rfl⟩)
    refine (drawWith_any A n c _ hn2 HC.out).mono ?_
    rintro e w1 ⟨ad, m, cap, l, page, x, y, rfl, hpg, hxy, htab, hb1⟩
    have hm4 := htab.1
    obtain ⟨k0, k1, hB1a, hz1⟩ := boxed w1 (.int .i64 x) (.int .i64 y) 26
    have HT1 := Lib.hid (htab.below hB1a)
    have HB1 := Lib.hid (btr hb1 hB1a)
    clear htab hb1 hpg hxy hB1a
    go_wp2_with fail
    generalize w1.alloc (.cells #[.int .i64 x, .int .i64 y] 26) = v1 at k0 k1 hz1 HT1 HB1 ⊢
    have HS1 := Lib.hid (show ∀ V, Below v1.heap.size v1 V → V.cell? ⟨w1.heap.size, 0, none⟩ = some (.int .i64 x) ∧ V.cell? ⟨w1.heap.size, 1, none⟩ = some (.int .i64 y) from fun V hb => ⟨(hb.cell (p := ⟨w1.heap.size, 0, none⟩) hz1).trans k0, (hb.cell (p := ⟨w1.heap.size, 1, none⟩) hz1).trans k1⟩)
    clear k0 k1
    have hwl := withS_len l page (x, y)
    rw [HT1.out.2.1] at hwl
    have HWL := Lib.hid hwl
    clear hwl
    refine (impl_with ad m cap _ page x y l _ (by omega) HT1.out.2.1 HT1.out.2.2.2).mono ?_
    rintro e w2 ⟨ad2, c2, rfl, hc2, ho2, hb2⟩
    have HR2 := Lib.hid hb2
    have HO2 := Lib.hid ho2
    have HT2 := Lib.hid (HT1.out.below hb2)
    have HB2 := Lib.hid (btr HB1.out hb2)
    have hs2 := hb2.size
    clear ho2 hb2 HT1
    go_wp2_with fail
    refine (drawAt_any A n c _ hn2 (HC.out.below HB2.out)).mono ?_
    rintro e w3 ⟨ad3, m3, cap3, l3, at3, rfl, hat, ht3, hb3⟩
    have HR3 := Lib.hid (btr HR2.out hb3)
    have HO3 := Lib.hid (HO2.out.below hb3 (Nat.le_refl _))
    have HT3 := Lib.hid (HT2.out.below hb3)
    have HA3 := Lib.hid ht3
    have HB3 := Lib.hid (btr HB2.out hb3)
    have hm3 := ht3.1
    have hs3 := hb3.size
    clear hat ht3 hb3 HT2 HO2 HR2
    go_wp2_with fail
    refine (drawOk_any A n c _ hn2 (HC.out.below HB3.out)).mono ?_
    rintro e w4 ⟨ox, oy, pages, rfl, hoxy, hpp, hb4⟩
    obtain ⟨k0, k1, hB4a, hz4⟩ := boxed w4 (.int .i64 ox) (.int .i64 oy) 26
    have HOX := Lib.hid hoxy
    have HPP := Lib.hid hpp
    have HR4 := Lib.hid (btr (btr HR3.out hb4) hB4a)
    have HO4 := Lib.hid ((HO3.out.below hb4 hs3).below hB4a (Nat.le_trans hs3 hb4.size))
    have HT4 := Lib.hid ((HT3.out.below hb4).below hB4a)
    have HA4 := Lib.hid ((HA3.out.below hb4).below hB4a)
    have HB4 := Lib.hid (btr (btr HB3.out hb4) hB4a)
    have hs4 := (btr hb4 hB4a).size
    clear hoxy hpp hb4 hB4a HR3 HO3 HT3 HA3
    go_wp2_with fail
    generalize w4.alloc (.cells #[.int .i64 ox, .int .i64 oy] 26) = v4 at k0 k1 hz4 HR4 HO4 HT4 HA4 HB4 hs4 ⊢
    have HS4 := Lib.hid (show ∀ V, Below v4.heap.size v4 V → V.cell? ⟨w4.heap.size, 0, none⟩ = some (.int .i64 ox) ∧ V.cell? ⟨w4.heap.size, 1, none⟩ = some (.int .i64 oy) from fun V hb => ⟨(hb.cell (p := ⟨w4.heap.size, 0, none⟩) hz4).trans k0, (hb.cell (p := ⟨w4.heap.size, 1, none⟩) hz4).trans k1⟩)
    clear k0 k1
    refine (drawTabOk_any A n c _ hn2 (HC.out.below HB4.out)).mono ?_
    rintro e w5 ⟨ad5, m5, cap5, l5, size, many, rfl, hsz, hmy, ht5, hb5⟩
    have HMY := Lib.hid hmy
    have HV5 := Lib.hid hb5
    have HR5 := Lib.hid (btr HR4.out hb5)
    have HO5 := Lib.hid (HO4.out.below hb5 (by omega))
    have HT5 := Lib.hid (HT4.out.below hb5)
    have HA5 := Lib.hid (HA4.out.below hb5)
    have HK5 := Lib.hid ht5
    have HB5 := Lib.hid (btr HB4.out hb5)
    have hm5 := ht5.1
    have hs5 := hb5.size
    clear hsz hmy ht5 hb5 HR4 HO4 HT4 HA4
    have HSS := Lib.hid (show ∀ V, Below w5.heap.size w5 V → (V.cell? ⟨w1.heap.size, 0, none⟩ = some (.int .i64 x) ∧ V.cell? ⟨w1.heap.size, 1, none⟩ = some (.int .i64 y)) ∧ V.cell? ⟨w4.heap.size, 0, none⟩ = some (.int .i64 ox) ∧ V.cell? ⟨w4.heap.size, 1, none⟩ = some (.int .i64 oy) from fun V hb => ⟨HS1.out V (btr HR5.out hb), HS4.out V (btr HV5.out hb)⟩)
    have qa1 := fun (V : World) => impl_at (some ad3) m3 cap3 w2.heap.size at3 l3 V
    have qa2 := fun (V : World) => spec_at (some ad3) m3 cap3 w2.heap.size at3 l3 V
    rw [show atS l3 at3 = ((atS l3 at3).1, (atS l3 at3).2) from rfl] at qa1 qa2
    generalize (atS l3 at3).1 = ax at qa1 qa2
    generalize (atS l3 at3).2 = ay at qa1 qa2
    have qo1 := fun V : World => impl_okS ox oy pages V HOX.out.2
    have qo2 := fun V : World => spec_okS ox oy pages V HPP.out
    generalize okS ox oy pages = ob at qo1 qo2
    have qt1 := fun (V : World) => impl_tabOk (some ad5) m5 cap5 v4.heap.size size many l5 V
    have qt2 := fun (V : World) => spec_tabOk (some ad5) m5 cap5 v4.heap.size size many l5 V
    generalize okTab l5 size many = tb at qt1 qt2
    have HQ := Lib.hid (And.intro qa1 (And.intro qa2 (And.intro qo1 (And.intro qo2 (And.intro qt1 qt2)))))
    clear qa1 qa2 qo1 qo2 qt1 qt2
    go_wp2_with fail
    have hR5 := Below.refl w5.heap.size w5
    refine Ord.wp_region_ord (fun w' => (w'.cell? ⟨w1.heap.size, 0, none⟩ = some (.int .i64 x) ∧ w'.cell? ⟨w1.heap.size, 1, none⟩ = some (.int .i64 y)) ∧ w'.cell? ⟨w4.heap.size, 0, none⟩ = some (.int .i64 ox) ∧ w'.cell? ⟨w4.heap.size, 1, none⟩ = some (.int .i64 oy)) [(0, true), (1, true), (2, true), (3, true), (4, false), (5, false), (6, true), (7, true), (8, true), (9, true), (11, true), (12, true), (10, false), (13, false), (14, true), (15, true), (16, true), (17, true), (18, true), (20, true), (21, true), (19, false), (22, false), (23, true), (24, true), (25, true), (26, true), (27, true), (28, true), (30, true), (31, true), (32, true), (29, false), (33, false), (34, true), (35, true)] (by kernel_rfl) (by kernel_rfl) rfl (by kernel_rfl) (HSS.out _ hR5.drew) ?_
    simp only [Ord.ordOps, List.getElem?_toArray, List.getElem?_cons_zero, List.getElem?_cons_succ]
    repeat (first
      | (refine Ord.ord_plain (v := ?_) rfl (fun w' hS => ?_) ?_; rotate_left; (focus ((try dsimp only at hS); go_simp; first | done | with_reducible rfl)); simp only [Act.put, List.setIfInBounds_toArray, List.set_cons_zero, List.set_cons_succ])
      | (refine Ord.ord_skip (by rfl) ?_; simp only [Act.put, List.setIfInBounds_toArray, List.set_cons_zero, List.set_cons_succ])
      | (refine Ord.ord_take (v := ?_) (by rfl) (fun w' hS => ?_) ?_; rotate_left; (focus ((try dsimp only at hS); go_simp; first | done | with_reducible rfl)); simp only [Act.put, List.setIfInBounds_toArray, List.set_cons_zero, List.set_cons_succ]))
    refine Ord.ord_call (fun K hK => ?_)
    go_simp
    go_wp2_with fail
    refine (spec_with ad m cap _ page x y l w5.drew (by omega) HT5.out.2.1 HT5.out.2.2.2).mono ?_
    rintro e w6 ⟨ad6, c6, rfl, hc6, ho6, hb6⟩
    have hR6 := btr hR5.drew hb6
    have HT6 := Lib.hid (HT5.out.below (btr ((Below.refl w5.heap.size w5).drew) hb6))
    have HA6 := Lib.hid (HA5.out.below (btr ((Below.refl w5.heap.size w5).drew) hb6))
    have HK6 := Lib.hid (HK5.out.below (btr ((Below.refl w5.heap.size w5).drew) hb6))
    have HO6 := Lib.hid (HO5.out.below (btr ((Below.refl w5.heap.size w5).drew) hb6) (by omega))
    have hs6 : w5.heap.size ≤ w6.heap.size := (btr ((Below.refl w5.heap.size w5).drew) hb6).size
    have HP6 := Lib.hid ho6
    clear ho6
    clear hb6 HT5 HA5 HK5 HO5
    refine hK.out _ _ (HSS.out _ hR6) ?_
    clear hK K
    repeat (first
      | (refine Ord.ord_plain (v := ?_) rfl (fun w' hS => ?_) ?_; rotate_left; (focus ((try dsimp only at hS); go_simp; first | done | with_reducible rfl)); simp only [Act.put, List.setIfInBounds_toArray, List.set_cons_zero, List.set_cons_succ])
      | (refine Ord.ord_skip (by rfl) ?_; simp only [Act.put, List.setIfInBounds_toArray, List.set_cons_zero, List.set_cons_succ])
      | (refine Ord.ord_take (v := ?_) (by rfl) (fun w' hS => ?_) ?_; rotate_left; (focus ((try dsimp only at hS); go_simp; first | done | with_reducible rfl)); simp only [Act.put, List.setIfInBounds_toArray, List.set_cons_zero, List.set_cons_succ]))
    refine Ord.ord_call (fun K hK => ?_)
    go_simp
    go_wp2_with fail
    refine (law_same (some ad2) (some ad6) m m c2 c6 _ _ _ _ (withS l page (x, y)) (withS l page (x, y)) _ (by omega) (by omega) HWL.out HWL.out HO6.out.1 HP6.out.1).mono ?_
    rintro e w' ⟨rfl, dq, rfl⟩
    rw [decide_eq_true (rfl : withS l page (x, y) = withS l page (x, y))]
    have hR7 : Below w5.heap.size w5 (w6.drewN dq) := below_drewN hR6 dq
    have hb7 : Below w6.heap.size w6 (w6.drewN dq) := below_drewN (Below.refl _ _) dq
    have HT7 := Lib.hid (HT6.out.below hb7)
    have HA7 := Lib.hid (HA6.out.below hb7)
    have HK7 := Lib.hid (HK6.out.below hb7)
    have HO7 := Lib.hid (HO6.out.below hb7 (by omega))
    have hs7 := hb7.size
    clear hb7 HT6 HA6 HK6 HO6 HP6
    generalize w6.drewN dq = w7 at hR7 HT7 HA7 HK7 HO7 hs7 ⊢
    refine hK.out _ _ (HSS.out _ hR7) ?_
    clear hK K
    repeat (first
      | (refine Ord.ord_plain (v := ?_) rfl (fun w' hS => ?_) ?_; rotate_left; (focus ((try dsimp only at hS); go_simp; first | done | with_reducible rfl)); simp only [Act.put, List.setIfInBounds_toArray, List.set_cons_zero, List.set_cons_succ])
      | (refine Ord.ord_skip (by rfl) ?_; simp only [Act.put, List.setIfInBounds_toArray, List.set_cons_zero, List.set_cons_succ])
      | (refine Ord.ord_take (v := ?_) (by rfl) (fun w' hS => ?_) ?_; rotate_left; (focus ((try dsimp only at hS); go_simp; first | done | with_reducible rfl)); simp only [Act.put, List.setIfInBounds_toArray, List.set_cons_zero, List.set_cons_succ]))
    refine Ord.ord_call (fun K hK => ?_)
    go_simp
    go_wp2_with fail
    refine (HQ.out.1 _ (by omega) HA7.out.2.1 HA7.out.2.2.2).mono ?_
    rintro e w8 ⟨rfl, hb8⟩
    have hR8 := btr hR7 hb8
    have HT8 := Lib.hid (HT7.out.below hb8)
    have HA8 := Lib.hid (HA7.out.below hb8)
    have HK8 := Lib.hid (HK7.out.below hb8)
    have HO8 := Lib.hid (HO7.out.below hb8 (by omega))
    have hs8 : w7.heap.size ≤ w8.heap.size := hb8.size
    clear hb8 HT7 HA7 HK7 HO7
    refine hK.out _ _ (HSS.out _ hR8) ?_
    clear hK K
    repeat (first
      | (refine Ord.ord_plain (v := ?_) rfl (fun w' hS => ?_) ?_; rotate_left; (focus ((try dsimp only at hS); go_simp; first | done | with_reducible rfl)); simp only [Act.put, List.setIfInBounds_toArray, List.set_cons_zero, List.set_cons_succ])
      | (refine Ord.ord_skip (by rfl) ?_; simp only [Act.put, List.setIfInBounds_toArray, List.set_cons_zero, List.set_cons_succ])
      | (refine Ord.ord_take (v := ?_) (by rfl) (fun w' hS => ?_) ?_; rotate_left; (focus ((try dsimp only at hS); go_simp; first | done | with_reducible rfl)); simp only [Act.put, List.setIfInBounds_toArray, List.set_cons_zero, List.set_cons_succ]))
    refine Ord.ord_call (fun K hK => ?_)
    go_simp
    go_wp2_with fail
    refine (HQ.out.2.1 _ (by omega) HA8.out.2.1 HA8.out.2.2.2).mono ?_
    rintro e w9 ⟨rfl, hb9⟩
    have hR9 := btr hR8 hb9
    have HT9 := Lib.hid (HT8.out.below hb9)
    have HA9 := Lib.hid (HA8.out.below hb9)
    have HK9 := Lib.hid (HK8.out.below hb9)
    have HO9 := Lib.hid (HO8.out.below hb9 (by omega))
    have hs9 : w8.heap.size ≤ w9.heap.size := hb9.size
    clear hb9 HT8 HA8 HK8 HO8
    refine hK.out _ _ (HSS.out _ hR9) ?_
    clear hK K
    repeat (first
      | (refine Ord.ord_plain (v := ?_) rfl (fun w' hS => ?_) ?_; rotate_left; (focus ((try dsimp only at hS); go_simp; first | done | with_reducible rfl)); simp only [Act.put, List.setIfInBounds_toArray, List.set_cons_zero, List.set_cons_succ])
      | (refine Ord.ord_skip (by rfl) ?_; simp only [Act.put, List.setIfInBounds_toArray, List.set_cons_zero, List.set_cons_succ])
      | (refine Ord.ord_take (v := ?_) (by rfl) (fun w' hS => ?_) ?_; rotate_left; (focus ((try dsimp only at hS); go_simp; first | done | with_reducible rfl)); simp only [Act.put, List.setIfInBounds_toArray, List.set_cons_zero, List.set_cons_succ]))
    refine Ord.ord_call (fun K hK => ?_)
    go_simp
    go_wp2_with fail
    refine (HQ.out.2.2.1 _).mono ?_
    rintro e w10 ⟨rfl, hb10⟩
    have hR10 := btr hR9 hb10
    have HT10 := Lib.hid (HT9.out.below hb10)
    have HA10 := Lib.hid (HA9.out.below hb10)
    have HK10 := Lib.hid (HK9.out.below hb10)
    have HO10 := Lib.hid (HO9.out.below hb10 (by omega))
    have hs10 : w9.heap.size ≤ w10.heap.size := hb10.size
    clear hb10 HT9 HA9 HK9 HO9
    refine hK.out _ _ (HSS.out _ hR10) ?_
    clear hK K
    repeat (first
      | (refine Ord.ord_plain (v := ?_) rfl (fun w' hS => ?_) ?_; rotate_left; (focus ((try dsimp only at hS); go_simp; first | done | with_reducible rfl)); simp only [Act.put, List.setIfInBounds_toArray, List.set_cons_zero, List.set_cons_succ])
      | (refine Ord.ord_skip (by rfl) ?_; simp only [Act.put, List.setIfInBounds_toArray, List.set_cons_zero, List.set_cons_succ])
      | (refine Ord.ord_take (v := ?_) (by rfl) (fun w' hS => ?_) ?_; rotate_left; (focus ((try dsimp only at hS); go_simp; first | done | with_reducible rfl)); simp only [Act.put, List.setIfInBounds_toArray, List.set_cons_zero, List.set_cons_succ]))
    refine Ord.ord_call (fun K hK => ?_)
    go_simp
    go_wp2_with fail
    refine (HQ.out.2.2.2.1 _).mono ?_
    rintro e w11 ⟨rfl, hb11⟩
    have hR11 := btr hR10 hb11
    have HT11 := Lib.hid (HT10.out.below hb11)
    have HA11 := Lib.hid (HA10.out.below hb11)
    have HK11 := Lib.hid (HK10.out.below hb11)
    have HO11 := Lib.hid (HO10.out.below hb11 (by omega))
    have hs11 : w10.heap.size ≤ w11.heap.size := hb11.size
    clear hb11 HT10 HA10 HK10 HO10
    refine hK.out _ _ (HSS.out _ hR11) ?_
    clear hK K
    repeat (first
      | (refine Ord.ord_plain (v := ?_) rfl (fun w' hS => ?_) ?_; rotate_left; (focus ((try dsimp only at hS); go_simp; first | done | with_reducible rfl)); simp only [Act.put, List.setIfInBounds_toArray, List.set_cons_zero, List.set_cons_succ])
      | (refine Ord.ord_skip (by rfl) ?_; simp only [Act.put, List.setIfInBounds_toArray, List.set_cons_zero, List.set_cons_succ])
      | (refine Ord.ord_take (v := ?_) (by rfl) (fun w' hS => ?_) ?_; rotate_left; (focus ((try dsimp only at hS); go_simp; first | done | with_reducible rfl)); simp only [Act.put, List.setIfInBounds_toArray, List.set_cons_zero, List.set_cons_succ]))
    refine Ord.ord_call (fun K hK => ?_)
    go_simp
    go_wp2_with fail
    refine (HQ.out.2.2.2.2.1 _ (by omega) HK11.out.2.1 HK11.out.2.2.1 HK11.out.2.2.2).mono ?_
    rintro e w12 ⟨rfl, hb12⟩
    have hR12 := btr hR11 hb12
    have HT12 := Lib.hid (HT11.out.below hb12)
    have HA12 := Lib.hid (HA11.out.below hb12)
    have HK12 := Lib.hid (HK11.out.below hb12)
    have HO12 := Lib.hid (HO11.out.below hb12 (by omega))
    have hs12 : w11.heap.size ≤ w12.heap.size := hb12.size
    clear hb12 HT11 HA11 HK11 HO11
    refine hK.out _ _ (HSS.out _ hR12) ?_
    clear hK K
    repeat (first
      | (refine Ord.ord_plain (v := ?_) rfl (fun w' hS => ?_) ?_; rotate_left; (focus ((try dsimp only at hS); go_simp; first | done | with_reducible rfl)); simp only [Act.put, List.setIfInBounds_toArray, List.set_cons_zero, List.set_cons_succ])
      | (refine Ord.ord_skip (by rfl) ?_; simp only [Act.put, List.setIfInBounds_toArray, List.set_cons_zero, List.set_cons_succ])
      | (refine Ord.ord_take (v := ?_) (by rfl) (fun w' hS => ?_) ?_; rotate_left; (focus ((try dsimp only at hS); go_simp; first | done | with_reducible rfl)); simp only [Act.put, List.setIfInBounds_toArray, List.set_cons_zero, List.set_cons_succ]))
    refine Ord.ord_call (fun K hK => ?_)
    go_simp
    go_wp2_with fail
    refine (HQ.out.2.2.2.2.2 _ (by omega) HK12.out.2.1 HMY.out HK12.out.2.2.2).mono ?_
    rintro e w13 ⟨rfl, hb13⟩
    have hR13 := btr hR12 hb13
    have HT13 := Lib.hid (HT12.out.below hb13)
    have HA13 := Lib.hid (HA12.out.below hb13)
    have HK13 := Lib.hid (HK12.out.below hb13)
    have HO13 := Lib.hid (HO12.out.below hb13 (by omega))
    have hs13 : w12.heap.size ≤ w13.heap.size := hb13.size
    clear hb13 HT12 HA12 HK12 HO12
    refine hK.out _ _ (HSS.out _ hR13) ?_
    clear hK K
    repeat (first
      | (refine Ord.ord_plain (v := ?_) rfl (fun w' hS => ?_) ?_; rotate_left; (focus ((try dsimp only at hS); go_simp; first | done | with_reducible rfl)); simp only [Act.put, List.setIfInBounds_toArray, List.set_cons_zero, List.set_cons_succ])
      | (refine Ord.ord_skip (by rfl) ?_; simp only [Act.put, List.setIfInBounds_toArray, List.set_cons_zero, List.set_cons_succ])
      | (refine Ord.ord_take (v := ?_) (by rfl) (fun w' hS => ?_) ?_; rotate_left; (focus ((try dsimp only at hS); go_simp; first | done | with_reducible rfl)); simp only [Act.put, List.setIfInBounds_toArray, List.set_cons_zero, List.set_cons_succ]))
    refine Ord.ord_nil ?_
    have HB13 := Lib.hid (btr HB5.out hR13)
    clear hR6 hR7 hR8 hR9 hR10 hR11 hR12 HQ HA13 HK13
    go_wp2_with fail
    go_loopw [14, 15] (fun i _ wr => ∃ k : Nat, k ≤ m ∧ i = .int .i64 k ∧ Below w13.heap.size w13 wr) (fun i _ _ => m - (intOf i).toNat)
    case atStart => exact ⟨0, Nat.zero_le _, rfl, Below.refl _ _⟩
    case round =>
      obtain ⟨k, hk, rfl, hb⟩ := hrel
      have HB := Lib.hid hb
      have hbs := hb.size
      clear hb
      by_cases hlt : k < m
      · have hkl : k < l.length := by have := HT13.out.2.1; omega
        obtain ⟨b, off, hAd, _, hbw, d1, d2⟩ := slot_at (HT13.out.below HB.out).2.2.2 k hkl
        cases hAd
        have hi0 : (0 : Int) ≤ (k : Int) := Int.natCast_nonneg _
        have hi1 : (k : Int) < (m : Int) := by omega
        have hOr := Lib.hid (HO13.out.below HB.out (by omega))
        have hat := at_with (page := page) (s := (x, y)) hkl
        by_cases hp : (k : Int) = page
        · rw [if_pos hp] at hat
          subst hp
          have qa := fun (V : World) => impl_at (some ad2) m c2 v1.heap.size (k : Int) (withS l (k : Int) (x, y)) V (by omega) HWL.out
          rw [hat] at qa
          have QA := Lib.hid qa
          obtain ⟨⟨j0, j1⟩, _⟩ := HSS.out _ (btr hR13 HB.out)
          have hw1 : w1.heap.size < wr.heap.size := by omega
          have hw1' : w1.heap.size ≠ wr.heap.size := by omega
          generalize l[k].1 = lx at d1
          generalize l[k].2 = ly at d2
          clear qa hat
          obtain ⟨s0, s1, hBr, hzr⟩ := boxed wr (.int .i64 x) (.int .i64 y) 26
          have hOr2 := Lib.hid (hOr.out.below hBr (by omega))
          go_wp2_with fail
          generalize (wr.alloc (.cells #[.int .i64 x, .int .i64 y] 26)) = vr at s0 s1 hBr hzr hOr2 ⊢
          refine Ord.wp_region_ord (fun w' => w'.cell? ⟨wr.heap.size, 0, none⟩ = some (.int .i64 x) ∧ w'.cell? ⟨wr.heap.size, 1, none⟩ = some (.int .i64 y)) [(0, true), (1, true), (3, true), (2, false), (4, true)] (by kernel_rfl) (by kernel_rfl) rfl (by kernel_rfl) ⟨s0, s1⟩ ?_
          simp only [Ord.ordOps, List.getElem?_toArray, List.getElem?_cons_zero, List.getElem?_cons_succ]
          repeat (first
            | (refine Ord.ord_plain (v := ?_) rfl (fun w' hS => ?_) ?_; rotate_left; (focus ((try dsimp only at hS); go_simp; first | done | with_reducible rfl)); simp only [Act.put, List.setIfInBounds_toArray, List.set_cons_zero, List.set_cons_succ])
            | (refine Ord.ord_skip (by rfl) ?_; simp only [Act.put, List.setIfInBounds_toArray, List.set_cons_zero, List.set_cons_succ])
            | (refine Ord.ord_take (v := ?_) (by rfl) (fun w' hS => ?_) ?_; rotate_left; (focus ((try dsimp only at hS); go_simp; first | done | with_reducible rfl)); simp only [Act.put, List.setIfInBounds_toArray, List.set_cons_zero, List.set_cons_succ]))
          refine Ord.ord_call (fun K hK => ?_)
          go_simp
          go_wp2_with fail
          refine (QA.out vr.drew (hOr2.out.1.wide (Nat.le_refl _) (show w2.heap.size ≤ vr.heap.size by omega))).mono ?_
          rintro e w20 ⟨rfl, hb20⟩
          refine hK.out _ _ (⟨(hb20.cell (p := ⟨wr.heap.size, 0, none⟩) hzr).trans s0, (hb20.cell (p := ⟨wr.heap.size, 1, none⟩) hzr).trans s1⟩) ?_
          clear hK K
          repeat (first
            | (refine Ord.ord_plain (v := ?_) rfl (fun w' hS => ?_) ?_; rotate_left; (focus ((try dsimp only at hS); go_simp; first | done | with_reducible rfl)); simp only [Act.put, List.setIfInBounds_toArray, List.set_cons_zero, List.set_cons_succ])
            | (refine Ord.ord_skip (by rfl) ?_; simp only [Act.put, List.setIfInBounds_toArray, List.set_cons_zero, List.set_cons_succ])
            | (refine Ord.ord_take (v := ?_) (by rfl) (fun w' hS => ?_) ?_; rotate_left; (focus ((try dsimp only at hS); go_simp; first | done | with_reducible rfl)); simp only [Act.put, List.setIfInBounds_toArray, List.set_cons_zero, List.set_cons_succ]))
          refine Ord.ord_nil ?_
          have HB20 := Lib.hid (btr HB.out (btr hBr.drew hb20))
          clear hb20 hBr s0 s1
          go_wp2_with fail
          go_roundw
          case rel => exact ⟨k + 1, by omega, by go_num, HB20.out⟩
          case measure => simp [intOf]; omega
        · rw [if_neg hp, show l[k] = (l[k].1, l[k].2) from rfl] at hat
          have hd : ((k : Int) == page) = false := by simpa using hp
          have qa := fun (V : World) => impl_at (some ad2) m c2 v1.heap.size (k : Int) (withS l page (x, y)) V (by omega) HWL.out
          rw [hat] at qa
          generalize l[k].1 = lx at d1 qa
          generalize l[k].2 = ly at d2 qa
          have QA := Lib.hid qa
          clear qa hat hp
          obtain ⟨s0, s1, hBr, hzr⟩ := boxed wr (.int .i64 lx) (.int .i64 ly) 26
          have hOr2 := Lib.hid (hOr.out.below hBr (by omega))
          go_wp2_with fail
          generalize (wr.alloc (.cells #[.int .i64 lx, .int .i64 ly] 26)) = vr at s0 s1 hBr hzr hOr2 ⊢
          refine Ord.wp_region_ord (fun w' => w'.cell? ⟨wr.heap.size, 0, none⟩ = some (.int .i64 lx) ∧ w'.cell? ⟨wr.heap.size, 1, none⟩ = some (.int .i64 ly)) [(0, true), (1, true), (3, true), (2, false), (4, true)] (by kernel_rfl) (by kernel_rfl) rfl (by kernel_rfl) ⟨s0, s1⟩ ?_
          simp only [Ord.ordOps, List.getElem?_toArray, List.getElem?_cons_zero, List.getElem?_cons_succ]
          repeat (first
            | (refine Ord.ord_plain (v := ?_) rfl (fun w' hS => ?_) ?_; rotate_left; (focus ((try dsimp only at hS); go_simp; first | done | with_reducible rfl)); simp only [Act.put, List.setIfInBounds_toArray, List.set_cons_zero, List.set_cons_succ])
            | (refine Ord.ord_skip (by rfl) ?_; simp only [Act.put, List.setIfInBounds_toArray, List.set_cons_zero, List.set_cons_succ])
            | (refine Ord.ord_take (v := ?_) (by rfl) (fun w' hS => ?_) ?_; rotate_left; (focus ((try dsimp only at hS); go_simp; first | done | with_reducible rfl)); simp only [Act.put, List.setIfInBounds_toArray, List.set_cons_zero, List.set_cons_succ]))
          refine Ord.ord_call (fun K hK => ?_)
          go_simp
          go_wp2_with fail
          refine (QA.out vr.drew (hOr2.out.1.wide (Nat.le_refl _) (show w2.heap.size ≤ vr.heap.size by omega))).mono ?_
          rintro e w20 ⟨rfl, hb20⟩
          refine hK.out _ _ (⟨(hb20.cell (p := ⟨wr.heap.size, 0, none⟩) hzr).trans s0, (hb20.cell (p := ⟨wr.heap.size, 1, none⟩) hzr).trans s1⟩) ?_
          clear hK K
          repeat (first
            | (refine Ord.ord_plain (v := ?_) rfl (fun w' hS => ?_) ?_; rotate_left; (focus ((try dsimp only at hS); go_simp; first | done | with_reducible rfl)); simp only [Act.put, List.setIfInBounds_toArray, List.set_cons_zero, List.set_cons_succ])
            | (refine Ord.ord_skip (by rfl) ?_; simp only [Act.put, List.setIfInBounds_toArray, List.set_cons_zero, List.set_cons_succ])
            | (refine Ord.ord_take (v := ?_) (by rfl) (fun w' hS => ?_) ?_; rotate_left; (focus ((try dsimp only at hS); go_simp; first | done | with_reducible rfl)); simp only [Act.put, List.setIfInBounds_toArray, List.set_cons_zero, List.set_cons_succ]))
          refine Ord.ord_nil ?_
          have HB20 := Lib.hid (btr HB.out (btr hBr.drew hb20))
          clear hb20 hBr s0 s1
          go_wp2_with fail
          go_roundw
          case rel => exact ⟨k + 1, by omega, by go_num, HB20.out⟩
          case measure => simp [intOf]; omega
      · have hkm : k = m := by omega
        subst hkm
        have HBw := Lib.hid (btr HB13.out HB.out)
        go_wp2_with fail
        refine (drawNew_any A n c _ hn2 (HC.out.below HBw.out)).mono ?_
        rintro e w30 ⟨nn, rfl, hnn, hb30⟩
        have HB30 := Lib.hid (btr HBw.out hb30)
        have q1 := fun V : World => impl_new nn V
        have q2 := fun V : World => spec_new nn V
        have hnl := nosL_len (newN nn)
        have hn24 := newN_le nn
        generalize nosL (newN nn) = N at q1 q2 hnl
        generalize newN nn = q at q1 q2 hnl hn24
        have HN := Lib.hid hnl
        have HQ := Lib.hid (And.intro q1 q2)
        clear hnn hb30 q1 q2 hnl
        go_wp2_with fail
        refine (HQ.out.1 _).mono ?_
        rintro e w31 ⟨ad31, c31, rfl, hc31, ho31, hb31⟩
        have HO31 := Lib.hid ho31
        have HB31 := Lib.hid (btr HB30.out hb31)
        clear ho31 hb31
        go_wp2_with fail
        refine (HQ.out.2 _).mono ?_
        rintro e w32 ⟨ad32, c32, rfl, hc32, ho32, hb32⟩
        have HO32 := Lib.hid ho32
        have HO31b := Lib.hid (HO31.out.below hb32 (Nat.le_refl _))
        have HB32 := Lib.hid (btr HB31.out hb32)
        clear ho32 hb32 HO31
        go_wp2_with fail
        refine (law_same (some ad31) (some ad32) q q c31 c32 _ _ _ _ N N _ (by omega) (by omega) HN.out HN.out HO31b.out.1 HO32.out.1).mono ?_
        rintro e w' ⟨rfl, dq, rfl⟩
        rw [decide_eq_true (rfl : N = N)]
        have HB33 := Lib.hid (show Below w.heap.size w (w32.drewN dq) from below_drewN HB32.out dq)
        generalize w32.drewN dq = w33 at HB33 ⊢
        clear HO31b HO32
        go_wp2_with fail
        refine (impl_no _).mono ?_
        rintro e w34 ⟨rfl, hb34⟩
        have HB34 := Lib.hid (btr HB33.out hb34)
        clear hb34
        have qa := impl_at (some ⟨w34.heap.size, 0, none⟩) 1 1 w34.heap.size 0 [(3, 1)] (w34.alloc (.cells #[.int .i64 3, .int .i64 1] 26)) (by omega) rfl (blk_lies (heap_alloc_new w34 _) (Nat.le_refl _) (by simp))
        rw [one_at] at qa
        have QA := Lib.hid qa
        clear qa
        go_wp2_with fail
        refine (QA.out).mono ?_
        rintro e w35 ⟨rfl, hb35⟩
        have HB35 := Lib.hid (btr (btr HB34.out ((Below.refl _ _).alloc (Nat.le_refl _) _)) hb35)
        clear hb35
        have hfl : ∀ W : World, (Instr.field 26 (.agg #[.int .i64 3, .int .i64 1]) 0).run Try.prog W = .ok (.int .i64 3) W := fun _ => by kernel_rfl
        go_wp2_with fail
        go_ret
        exact ⟨rfl, HB35.out⟩

/-! ### The row's step -/
set_option maxRecDepth 100000 in
theorem lifted (os : Os) (started : os.Started) (H : Type) (enc : TypeId × Value → H) :
    ReturnsInHanded {} Try.checked os 3 .any (Rows.fnSlotsSpec.pre6 enc Try.prog Try.f3 Rows.fnSlotsRow.domain false) (Rows.fnSlotsSpec.post enc Try.prog Try.f3 false true false false) := by
  refine returnsInHanded_of_change (C := Try.checked) Base.own started (by kernel_rfl) Try.func3
    (ChangeSpec.witness6 (enc := enc) (C := Try.checked) false ⟨#[], #[.slice none 0 0], []⟩ 8 (by kernel_rfl) (by kernel_rfl) (by kernel_rfl) (by kernel_rfl)) ?_
  intro W base args ds gs before hval0 hW hcnd _
  have hval : ∀ (j : Nat) t v, Try.f3.params[j]? = some t → args[j]? = some v → Value.okWide Try.prog W .any base t v := hval0
  have hW' := hW
  obtain ⟨p, q, hA0, hV, rfl, hfz, hnd⟩ := hW
  have hA : DataW.TrodAll enc Try.prog W 0 (fun _ => true) true Try.f3.params.toList args.toList ds p := hA0
  have hA1 := hA
  rw [Try.params3] at hA hval
  obtain ⟨v0, vs0, d0, ds0, p0, q0, hargs, rfl, rfl, h0, r0⟩ := trodAll_cons hA
  obtain ⟨rfl, rfl, rfl⟩ := trodAll_nil r0
  obtain rfl : args = #[v0] := by cases args; simp_all
  obtain ⟨rfl, rfl⟩ := trodVars_none hV
  obtain ⟨A0, n0, c0, rfl, hn0, hcode0, _⟩ := Draw.open_code (hval 0 22 v0 rfl rfl) h0
  clear hA0 hval0
  rw [List.append_nil] at hW'
  refine (walk A0 n0 c0 hn0 hcode0).mono fun e W' ⟨he, hg⟩ => ?_
  subst he
  exact ⟨_, rfl, Mem.post_args Slots.laid (by kernel_rfl) rfl rfl rfl hW' hA1 hg (fun _ _ _ => (trodAll_cons_mk (shut_bool Try.underlying4 _) trodAll_mk0)) (ok_one (by kernel_rfl) rfl (okWide_bool_mk Try.underlying4 _))⟩

theorem over : Rows.fnSlotsRow.holds Try.pinned (OpenSpec.ofChange Rows.fnSlotsSpec) :=
  OpenClaim.holds_of_wide 3 Try.f3 rfl rfl rfl rfl rfl rfl rfl ⟨rfl, rfl, rfl, rfl, rfl⟩ rfl rfl rfl rfl rfl (by kernel_rfl) Try.func3 (by kernel_rfl)
    (of_decide_eq_true (by kernel_rfl)) (by unfold Func.isWrapper; first | (rw [if_pos (by decide +kernel)]; kernel_rfl) | (rw [if_neg (by decide +kernel)]; exact ⟨rfl, rfl⟩))
    (fun os started H enc _ => lifted os started H enc)

/-- The given statement. -/
theorem proved : Rows.FnSlotsSaid :=
  over
#print axioms proved
end Go.Proofs.Ytocclalchakibaa.fnSlots
