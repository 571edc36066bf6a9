/-
  At every argument the law FnExactFill returns true: the project's Fill answers as the given model's Fill, changes no argument, and what it returns is its own. No condition.
-/
import Derived.Test.YtfgckkgakghenaaKeptImpl
import Derived.Test.YtfgckkgakghenaaSlotArgs
import Derived.Test.YtfgckkgakghenaaOrdT
namespace Go.Proofs.Ytfgckkgakghenaa.fnExactFill
set_option maxRecDepth 100000
open Go.ChangeShapes Go.WideShapes Go.ChangeAt Go.RowKit
open Go.Proofs.Ytfgckkgakghenaa.Base Go.Proofs.Ytfgckkgakghenaa.Mem Go.Proofs.Ytfgckkgakghenaa.Slots Go.Proofs.Ytfgckkgakghenaa.Ints Go.Proofs.Ytfgckkgakghenaa.Kepts
set_option linter.unusedVariables false
set_option linter.unusedSimpArgs false

set_option maxRecDepth 100000 in
set_option maxHeartbeats 8000000 in
theorem walk (A0 : Option Addr) (n0 c0 : Nat) (B0 : Option Addr) (m0 e0 : Nat) (k0 : KD) (A1 : Option Addr) (n1 c1 : Nat) (l1 : List Sl) (A2 : Option Addr) (n2 c2 : Nat) (l2 : List Sl) (a3 : Int) {w : World} (hn0 : n0 ≤ 9223372036854775807) (hm0 : m0 ≤ 9223372036854775807) (hw0 : wfL k0.2) (h0 : KR w 0 w.heap.size k0 A0 B0 n0 m0) (hn1 : n1 ≤ 9223372036854775807) (hl1 : l1.length = n1) (hw1 : wfL l1) (h1 : Lies w 0 w.heap.size A1 (scells l1)) (hn2 : n2 ≤ 9223372036854775807) (hl2 : l2.length = n2) (hw2 : wfL l2) (h2 : Lies w 0 w.heap.size A2 (scells l2)) (w3 : (Lit.int .i64 a3).wf = true) :
    Calls Try.prog 8 #[.agg #[.slice A0 n0 c0, .slice B0 m0 e0], .slice A1 n1 c1, .slice A2 n2 c2, .int .i64 a3] w fun e w' => e = .returned (.bool true) ∧ Below w.heap.size w w' := by
  have HA0 := Lib.hid (show ∀ W, Below w.heap.size w W → KR W 0 W.heap.size k0 A0 B0 n0 m0 from fun W hb => (h0.below hb (Nat.le_refl _)).wide (Nat.le_refl _) hb.size)
  have HL1_0 := Lib.hid h0.l1
  have HL2_0 := Lib.hid h0.l2
  have HW0 := Lib.hid hw0
  clear hw0 h0
  have HA1 := Lib.hid (show ∀ W, Below w.heap.size w W → Lies W 0 W.heap.size A1 (scells l1) from fun W hb => (h1.below hb (Nat.le_refl _)).wide (Nat.le_refl _) hb.size)
  have HL1 := Lib.hid hl1
  have HW1 := Lib.hid hw1
  clear hl1 hw1 h1
  have HA2 := Lib.hid (show ∀ W, Below w.heap.size w W → Lies W 0 W.heap.size A2 (scells l2) from fun W hb => (h2.below hb (Nat.le_refl _)).wide (Nat.le_refl _) hb.size)
  have HL2 := Lib.hid hl2
  have HW2 := Lib.hid hw2
  clear hl2 hw2 h2
  have HW3 := Lib.hid w3
  clear w3
  by_cases hbig0 : (1048576 : Int) < (n0 : Int) + (m0 : Int)
  · go_enter Try.func8, Try.ntmps8
    have hB1 : Below w.heap.size w (w.alloc (.cells #[.slice A0 n0 c0, .slice B0 m0 e0] 64)) := (Below.refl _ _).alloc (Nat.le_refl _) _
    have hS1 := hB1.size
    have hOb_1 := Lib.hid (Two.new w (.slice A0 n0 c0) (.slice B0 m0 e0) 64)
    obtain ⟨zb0, zb1, _, _, _⟩ := hOb_1.out
    go_wp2_with fail
    refine (szKept_no A0 B0 n0 m0 c0 e0 _ (1048576 : Int) (by omega) (by omega) hn0 hm0 hbig0).mono ?_
    rintro e w2 ⟨rfl, hb2⟩
    have hB2 := btr hB1 hb2
    have hS2 := hb2.size
    have hOb_2 := Lib.hid (hOb_1.out.below hb2 )
    clear hOb_1 hb2
    clear zb0 zb1
    go_wp2_with fail
    go_ret
    exact ⟨rfl, hB2⟩
  have hmn0 : n0 ≤ 1048576 := by omega
  have hmm0 : m0 ≤ 1048576 := by omega
  have hle0 : (n0 : Int) + (m0 : Int) ≤ (1048576 : Int) := by omega
  have hz0 : ¬ (((1048576 : Int) - (n0 : Int) - (m0 : Int)) < 0) := by omega
  by_cases hbig1 : ((1048576 : Int) - (n0 : Int) - (m0 : Int)) < (n1 : Int)
  · go_enter Try.func8, Try.ntmps8
    have hB1 : Below w.heap.size w (w.alloc (.cells #[.slice A0 n0 c0, .slice B0 m0 e0] 64)) := (Below.refl _ _).alloc (Nat.le_refl _) _
    have hS1 := hB1.size
    have hOb_1 := Lib.hid (Two.new w (.slice A0 n0 c0) (.slice B0 m0 e0) 64)
    obtain ⟨zb0, zb1, _, _, _⟩ := hOb_1.out
    go_wp2_with fail
    refine (szKept_yes A0 B0 n0 m0 c0 e0 _ (1048576 : Int) (by omega) (by omega)).mono ?_
    rintro e w2 ⟨rfl, hb2⟩
    have hB2 := btr hB1 hb2
    have hS2 := hb2.size
    have hOb_2 := Lib.hid (hOb_1.out.below hb2 )
    clear hOb_1 hb2
    clear zb0 zb1
    go_wp2_with fail
    refine (szSlotS_no A1 n1 c1 ((1048576 : Int) - (n0 : Int) - (m0 : Int)) _ (by omega) (by omega) hn1 hbig1).mono ?_
    rintro e w' ⟨rfl, rfl⟩
    go_wp2_with fail
    go_ret
    exact ⟨rfl, hB2⟩
  have hm1 : n1 ≤ 1048576 := by omega
  have hle1 : (n1 : Int) ≤ ((1048576 : Int) - (n0 : Int) - (m0 : Int)) := by omega
  have hz1 : ¬ ((((1048576 : Int) - (n0 : Int) - (m0 : Int)) - (n1 : Int)) < 0) := by omega
  by_cases hbig2 : (((1048576 : Int) - (n0 : Int) - (m0 : Int)) - (n1 : Int)) < (n2 : Int)
  · go_enter Try.func8, Try.ntmps8
    have hB1 : Below w.heap.size w (w.alloc (.cells #[.slice A0 n0 c0, .slice B0 m0 e0] 64)) := (Below.refl _ _).alloc (Nat.le_refl _) _
    have hS1 := hB1.size
    have hOb_1 := Lib.hid (Two.new w (.slice A0 n0 c0) (.slice B0 m0 e0) 64)
    obtain ⟨zb0, zb1, _, _, _⟩ := hOb_1.out
    go_wp2_with fail
    refine (szKept_yes A0 B0 n0 m0 c0 e0 _ (1048576 : Int) (by omega) (by omega)).mono ?_
    rintro e w2 ⟨rfl, hb2⟩
    have hB2 := btr hB1 hb2
    have hS2 := hb2.size
    have hOb_2 := Lib.hid (hOb_1.out.below hb2 )
    clear hOb_1 hb2
    clear zb0 zb1
    go_wp2_with fail
    refine (szSlotS_yes A1 n1 c1 ((1048576 : Int) - (n0 : Int) - (m0 : Int)) _ (by omega) (by omega)).mono ?_
    rintro e w' ⟨rfl, rfl⟩
    go_wp2_with fail
    refine (szSlotS_no A2 n2 c2 (((1048576 : Int) - (n0 : Int) - (m0 : Int)) - (n1 : Int)) _ (by omega) (by omega) hn2 hbig2).mono ?_
    rintro e w' ⟨rfl, rfl⟩
    go_wp2_with fail
    go_ret
    exact ⟨rfl, hB2⟩
  have hm2 : n2 ≤ 1048576 := by omega
  have hle2 : (n2 : Int) ≤ (((1048576 : Int) - (n0 : Int) - (m0 : Int)) - (n1 : Int)) := by omega
  have hz2 : ¬ (((((1048576 : Int) - (n0 : Int) - (m0 : Int)) - (n1 : Int)) - (n2 : Int)) < 0) := by omega
  have hK1 := fun (A B : Option Addr) (c d : Nat) (C1 : Option Addr) (q1 : Nat) (C2 : Option Addr) (q2 : Nat) (V : World) (h : KR V 0 V.heap.size k0 A B n0 m0) (h1 : Lies V 0 V.heap.size C1 (scells l1)) (h2 : Lies V 0 V.heap.size C2 (scells l2)) => spec_fill A B n0 m0 c d k0 V C1 C2 n1 n2 q1 q2 a3 l1 l2 hmn0 hmm0 hm1 hm2 HL1.out HL2.out h h1 h2
  have hK2 := fun (A B : Option Addr) (c d : Nat) (C1 : Option Addr) (q1 : Nat) (C2 : Option Addr) (q2 : Nat) (V : World) (h : KR V 0 V.heap.size k0 A B n0 m0) (h1 : Lies V 0 V.heap.size C1 (scells l1)) (h2 : Lies V 0 V.heap.size C2 (scells l2)) => impl_fill A B n0 m0 c d k0 V C1 C2 n1 n2 q1 q2 a3 l1 l2 hmn0 hmm0 hm1 hm2 HL1.out HL2.out h h1 h2 HW0.out HW1.out HW2.out
  generalize fillK k0 l1 l2 a3 = u at hK1 hK2
  have HK1 := Lib.hid hK1
  have HK2 := Lib.hid hK2
  clear hK1 hK2
  obtain ⟨qa, hqa⟩ : ∃ q : Nat, q = 1 + n0 + 2 * m0 := ⟨_, rfl⟩
  have Hqa := Lib.hid (show ((1 : Nat) : Int) + (n0 : Int) + 2 * (m0 : Int) = (qa : Int) by omega)
  have hpqa : ¬ ((qa : Int) < 0) := by omega
  obtain ⟨qs1, hqs1⟩ : ∃ q : Nat, q = qa + 2 * n1 := ⟨_, rfl⟩
  have Hqs1 := Lib.hid (show ((qa : Nat) : Int) + 2 * (n1 : Int) = (qs1 : Int) by omega)
  have hpqs1 : ¬ ((qs1 : Int) < 0) := by omega
  obtain ⟨qs2, hqs2⟩ : ∃ q : Nat, q = qs1 + 2 * n2 := ⟨_, rfl⟩
  have Hqs2 := Lib.hid (show ((qs1 : Nat) : Int) + 2 * (n2 : Int) = (qs2 : Int) by omega)
  have hpqs2 : ¬ ((qs2 : Int) < 0) := by omega
  have hqa2 : qa ≤ 4194304 := by omega
  have hxqs1 : qs1 ≤ 4194304 := by omega
  have hxqs2 : qs2 ≤ 4194304 := by omega
  clear hqa hqs1 hqs2
  go_enter Try.func8, Try.ntmps8
  have hB1 : Below w.heap.size w (w.alloc (.cells #[.slice A0 n0 c0, .slice B0 m0 e0] 64)) := (Below.refl _ _).alloc (Nat.le_refl _) _
  have hS1 := hB1.size
  have hOb_1 := Lib.hid (Two.new w (.slice A0 n0 c0) (.slice B0 m0 e0) 64)
  obtain ⟨zb0, zb1, _, _, _⟩ := hOb_1.out
  go_wp2_with fail
  refine (szKept_yes A0 B0 n0 m0 c0 e0 _ (1048576 : Int) (by omega) (by omega)).mono ?_
  rintro e w2 ⟨rfl, hb2⟩
  have hB2 := btr hB1 hb2
  have hS2 := hb2.size
  have hOb_2 := Lib.hid (hOb_1.out.below hb2 )
  clear hOb_1 hb2
  clear zb0 zb1
  go_wp2_with fail
  refine (szSlotS_yes A1 n1 c1 ((1048576 : Int) - (n0 : Int) - (m0 : Int)) _ (by omega) (by omega)).mono ?_
  rintro e w' ⟨rfl, rfl⟩
  go_wp2_with fail
  refine (szSlotS_yes A2 n2 c2 (((1048576 : Int) - (n0 : Int) - (m0 : Int)) - (n1 : Int)) _ (by omega) (by omega)).mono ?_
  rintro e w' ⟨rfl, rfl⟩
  obtain ⟨zb0, zb1, _, _, _⟩ := hOb_2.out
  go_wp2_with fail
  refine (toKept_any A0 B0 n0 m0 c0 e0 0 k0 _ hmn0 hmm0 (HA0.out _ hB2)).mono ?_
  rintro e w5 ⟨A5', c5', B5', d5', rfl, ho5, hb5⟩
  have hB5 := btr hB2 hb5
  have hS5 := hb5.size
  have hOb_5 := Lib.hid (hOb_2.out.below hb5 )
  have hOa_5 := Lib.hid ho5
  clear hOb_2 ho5 hb5
  clear zb0 zb1
  go_wp2_with fail
  refine (toSlotS_any A1 n1 c1 0 l1 _ hm1 HL1.out (HA1.out _ hB5)).mono ?_
  rintro e w6 ⟨ad6, d6, rfl, hc6, ho6, hb6⟩
  have hB6 := btr hB5 hb6
  have hS6 := hb6.size
  have hOb_6 := Lib.hid (hOb_5.out.below hb6 )
  have hOa_6 := Lib.hid (hOa_5.out.below hb6 (by omega))
  have hOa1_6 := Lib.hid ho6
  clear hOb_5 hOa_5 hc6 ho6 hb6
  go_wp2_with fail
  refine (toSlotS_any A2 n2 c2 0 l2 _ hm2 HL2.out (HA2.out _ hB6)).mono ?_
  rintro e w7 ⟨ad7, d7, rfl, hc7, ho7, hb7⟩
  have hB7 := btr hB6 hb7
  have hS7 := hb7.size
  have hOb_7 := Lib.hid (hOb_6.out.below hb7 )
  have hOa_7 := Lib.hid (hOa_6.out.below hb7 (by omega))
  have hOa1_7 := Lib.hid (hOa1_6.out.below hb7 (by omega))
  have hOa2_7 := Lib.hid ho7
  clear hOb_6 hOa_6 hOa1_6 hc7 ho7 hb7
  go_wp2_with fail
  refine (HK1.out _ _ _ _ _ _ _ _ _ (hOa_7.out.reads.wide (Nat.zero_le _) (by omega)) (hOa1_7.out.1.wide (Nat.zero_le _) (by omega)) (hOa2_7.out.1.wide (Nat.zero_le _) (by omega))).mono ?_
  rintro e w8 ⟨A8', c8', B8', d8', rfl, ho8, hb8⟩
  have hB8 := btr hB7 hb8
  have hS8 := hb8.size
  have hOb_8 := Lib.hid (hOb_7.out.below hb8 )
  have hOa_8 := Lib.hid (hOa_7.out.below hb8 (by omega))
  have hOa1_8 := Lib.hid (hOa1_7.out.below hb8 (by omega))
  have hOa2_8 := Lib.hid (hOa2_7.out.below hb8 (by omega))
  have hOu_8 := Lib.hid ho8
  clear hOb_7 hOa_7 hOa1_7 hOa2_7 ho8 hb8
  clear hOa_8
  clear hOa1_8
  clear hOa2_8
  have hb9 : Below w8.heap.size w8 (w8.alloc (.cells #[.slice A8' n0 c8', .slice B8' m0 d8'] 27)) := (Below.refl _ _).alloc (Nat.le_refl _) _
  have hB9 := btr hB8 hb9
  have hS9 : w8.heap.size < (w8.alloc (.cells #[.slice A8' n0 c8', .slice B8' m0 d8'] 27)).heap.size := by simp
  have hOb_9 := Lib.hid (hOb_8.out.below hb9 )
  have hOu_9 := Lib.hid (hOu_8.out.below hb9 (by omega))
  have hOvu_9 := Lib.hid (Two.new w8 (.slice A8' n0 c8') (.slice B8' m0 d8') 27)
  clear hOb_8 hOu_8 hb9
  obtain ⟨zb0, zb1, _, _, _⟩ := hOb_9.out
  go_wp2_with fail
  refine (toKept_any A0 B0 n0 m0 c0 e0 0 k0 _ hmn0 hmm0 (HA0.out _ hB9)).mono ?_
  rintro e w10 ⟨A10', c10', B10', d10', rfl, ho10, hb10⟩
  have hB10 := btr hB9 hb10
  have hS10 := hb10.size
  have hOb_10 := Lib.hid (hOb_9.out.below hb10 )
  have hOu_10 := Lib.hid (hOu_9.out.below hb10 (by omega))
  have hOvu_10 := Lib.hid (hOvu_9.out.below hb10 )
  have hOx_10 := Lib.hid ho10
  clear hOb_9 hOu_9 hOvu_9 ho10 hb10
  clear zb0 zb1
  have hb11 : Below w10.heap.size w10 (w10.alloc (.cells #[.slice A10' n0 c10', .slice B10' m0 d10'] 27)) := (Below.refl _ _).alloc (Nat.le_refl _) _
  have hB11 := btr hB10 hb11
  have hS11 : w10.heap.size < (w10.alloc (.cells #[.slice A10' n0 c10', .slice B10' m0 d10'] 27)).heap.size := by simp
  have hOb_11 := Lib.hid (hOb_10.out.below hb11 )
  have hOu_11 := Lib.hid (hOu_10.out.below hb11 (by omega))
  have hOvu_11 := Lib.hid (hOvu_10.out.below hb11 )
  have hOx_11 := Lib.hid (hOx_10.out.below hb11 (by omega))
  have hOvx_11 := Lib.hid (Two.new w10 (.slice A10' n0 c10') (.slice B10' m0 d10') 27)
  clear hOb_10 hOu_10 hOvu_10 hOx_10 hb11
  go_wp2_with fail
  refine (toSlotS_any A1 n1 c1 0 l1 _ hm1 HL1.out (HA1.out _ hB11)).mono ?_
  rintro e w12 ⟨ad12, d12, rfl, hc12, ho12, hb12⟩
  have hB12 := btr hB11 hb12
  have hS12 := hb12.size
  have hOb_12 := Lib.hid (hOb_11.out.below hb12 )
  have hOu_12 := Lib.hid (hOu_11.out.below hb12 (by omega))
  have hOvu_12 := Lib.hid (hOvu_11.out.below hb12 )
  have hOx_12 := Lib.hid (hOx_11.out.below hb12 (by omega))
  have hOvx_12 := Lib.hid (hOvx_11.out.below hb12 )
  have hOx1_12 := Lib.hid ho12
  clear hOb_11 hOu_11 hOvu_11 hOx_11 hOvx_11 hc12 ho12 hb12
  go_wp2_with fail
  refine (toSlotS_any A2 n2 c2 0 l2 _ hm2 HL2.out (HA2.out _ hB12)).mono ?_
  rintro e w13 ⟨ad13, d13, rfl, hc13, ho13, hb13⟩
  have hB13 := btr hB12 hb13
  have hS13 := hb13.size
  have hOb_13 := Lib.hid (hOb_12.out.below hb13 )
  have hOu_13 := Lib.hid (hOu_12.out.below hb13 (by omega))
  have hOvu_13 := Lib.hid (hOvu_12.out.below hb13 )
  have hOx_13 := Lib.hid (hOx_12.out.below hb13 (by omega))
  have hOvx_13 := Lib.hid (hOvx_12.out.below hb13 )
  have hOx1_13 := Lib.hid (hOx1_12.out.below hb13 (by omega))
  have hOx2_13 := Lib.hid ho13
  clear hOb_12 hOu_12 hOvu_12 hOx_12 hOvx_12 hOx1_12 hc13 ho13 hb13
  obtain ⟨zvx0, zvx1, _, _, _⟩ := hOvx_13.out
  go_wp2_with fail
  refine (HK2.out _ _ _ _ _ _ _ _ _ (hOx_13.out.reads.wide (Nat.zero_le _) (by omega)) (hOx1_13.out.1.wide (Nat.zero_le _) (by omega)) (hOx2_13.out.1.wide (Nat.zero_le _) (by omega))).mono ?_
  rintro e w14 ⟨A14', c14', B14', d14', rfl, ho14, hb14⟩
  have hB14 := btr hB13 hb14
  have hS14 := hb14.size
  have hOb_14 := Lib.hid (hOb_13.out.below hb14 )
  have hOu_14 := Lib.hid (hOu_13.out.below hb14 (by omega))
  have hOvu_14 := Lib.hid (hOvu_13.out.below hb14 )
  have hOx_14 := Lib.hid (hOx_13.out.below hb14 (by omega))
  have hOvx_14 := Lib.hid (hOvx_13.out.below hb14 )
  have hOx1_14 := Lib.hid (hOx1_13.out.below hb14 (by omega))
  have hOx2_14 := Lib.hid (hOx2_13.out.below hb14 (by omega))
  have hOg_14 := Lib.hid ho14
  clear hOb_13 hOu_13 hOvu_13 hOx_13 hOvx_13 hOx1_13 hOx2_13 ho14 hb14
  clear zvx0 zvx1
  have hb15 : Below w14.heap.size w14 (w14.alloc (.cells #[.slice A14' n0 c14', .slice B14' m0 d14'] 27)) := (Below.refl _ _).alloc (Nat.le_refl _) _
  have hB15 := btr hB14 hb15
  have hS15 : w14.heap.size < (w14.alloc (.cells #[.slice A14' n0 c14', .slice B14' m0 d14'] 27)).heap.size := by simp
  have hOb_15 := Lib.hid (hOb_14.out.below hb15 )
  have hOu_15 := Lib.hid (hOu_14.out.below hb15 (by omega))
  have hOvu_15 := Lib.hid (hOvu_14.out.below hb15 )
  have hOx_15 := Lib.hid (hOx_14.out.below hb15 (by omega))
  have hOvx_15 := Lib.hid (hOvx_14.out.below hb15 )
  have hOx1_15 := Lib.hid (hOx1_14.out.below hb15 (by omega))
  have hOx2_15 := Lib.hid (hOx2_14.out.below hb15 (by omega))
  have hOg_15 := Lib.hid (hOg_14.out.below hb15 (by omega))
  have hOvg_15 := Lib.hid (Two.new w14 (.slice A14' n0 c14') (.slice B14' m0 d14') 27)
  clear hOb_14 hOu_14 hOvu_14 hOx_14 hOvx_14 hOx1_14 hOx2_14 hOg_14 hb15
  obtain ⟨zvg0, zvg1, _, _, _⟩ := hOvg_15.out
  obtain ⟨zvu0, zvu1, _, _, _⟩ := hOvu_15.out
  go_wp2_with fail
  refine (eqKept_same A14' B14' n0 m0 c14' d14' _ u _ A8' B8' c8' d8' _ _ _ hmn0 hmm0 (by omega) (by omega) hOg_15.out.reads hOu_15.out.reads).mono ?_
  rintro e w16 ⟨rfl, hb16⟩
  have hB16 := btr hB15 hb16
  have hS16 := hb16.size
  have hOb_16 := Lib.hid (hOb_15.out.below hb16 )
  have hOu_16 := Lib.hid (hOu_15.out.below hb16 (by omega))
  have hOvu_16 := Lib.hid (hOvu_15.out.below hb16 )
  have hOx_16 := Lib.hid (hOx_15.out.below hb16 (by omega))
  have hOvx_16 := Lib.hid (hOvx_15.out.below hb16 )
  have hOx1_16 := Lib.hid (hOx1_15.out.below hb16 (by omega))
  have hOx2_16 := Lib.hid (hOx2_15.out.below hb16 (by omega))
  have hOg_16 := Lib.hid (hOg_15.out.below hb16 (by omega))
  have hOvg_16 := Lib.hid (hOvg_15.out.below hb16 )
  clear hOb_15 hOu_15 hOvu_15 hOx_15 hOvx_15 hOx1_15 hOx2_15 hOg_15 hOvg_15 hb16
  clear zvg0 zvg1 zvu0 zvu1
  go_wp2_with fail
  refine Ord.wp_region_ord (fun w' => (w'.cell? ⟨w10.heap.size, 0, none⟩ = some (.slice A10' n0 c10') ∧ w'.cell? ⟨w10.heap.size, 1, none⟩ = some (.slice B10' m0 d10')) ∧ w'.cell? ⟨w.heap.size, 0, none⟩ = some (.slice A0 n0 c0) ∧ w'.cell? ⟨w.heap.size, 1, none⟩ = some (.slice B0 m0 e0)) [(0, true), (1, true), (2, false), (3, false), (4, true)] (by kernel_rfl) (by kernel_rfl) rfl (by kernel_rfl) (⟨⟨hOvx_16.out.1, hOvx_16.out.2.1⟩, hOb_16.out.1, hOb_16.out.2.1⟩) ?_
  simp only [Ord.ordOps, List.getElem?_toArray, List.getElem?_cons_zero, List.getElem?_cons_succ]
  repeat (first
    | (refine Ord.ord_plain (v := ?_) rfl (fun w' hS => ?_) ?_; rotate_left; (focus ((try dsimp only at hS); go_simp; first | done | with_reducible rfl)); simp only [Act.put, List.setIfInBounds_toArray, List.set_cons_zero, List.set_cons_succ])
    | (refine Ord.ord_skip (by rfl) ?_; simp only [Act.put, List.setIfInBounds_toArray, List.set_cons_zero, List.set_cons_succ])
    | (refine Ord.ord_take (v := ?_) (by rfl) (fun w' hS => ?_) ?_; rotate_left; (focus ((try dsimp only at hS); go_simp; first | done | with_reducible rfl)); simp only [Act.put, List.setIfInBounds_toArray, List.set_cons_zero, List.set_cons_succ]))
  have hb17 : Below w16.heap.size w16 w16.drew := (Below.refl _ _).drew
  have hB17 := btr hB16 hb17
  have hS17 := hb17.size
  have hOb_17 := Lib.hid (hOb_16.out.below hb17 )
  have hOu_17 := Lib.hid (hOu_16.out.below hb17 (by omega))
  have hOvu_17 := Lib.hid (hOvu_16.out.below hb17 )
  have hOx_17 := Lib.hid (hOx_16.out.below hb17 (by omega))
  have hOvx_17 := Lib.hid (hOvx_16.out.below hb17 )
  have hOx1_17 := Lib.hid (hOx1_16.out.below hb17 (by omega))
  have hOx2_17 := Lib.hid (hOx2_16.out.below hb17 (by omega))
  have hOg_17 := Lib.hid (hOg_16.out.below hb17 (by omega))
  have hOvg_17 := Lib.hid (hOvg_16.out.below hb17 )
  clear hOb_16 hOu_16 hOvu_16 hOx_16 hOvx_16 hOx1_16 hOx2_16 hOg_16 hOvg_16 hb17
  refine Ord.ord_call (fun K hK => ?_)
  go_simp
  refine (toKept_any A0 B0 n0 m0 c0 e0 0 k0 _ hmn0 hmm0 (HA0.out _ hB17)).mono ?_
  rintro e w18 ⟨A18', c18', B18', d18', rfl, ho18, hb18⟩
  have hB18 := btr hB17 hb18
  have hS18 := hb18.size
  have hOb_18 := Lib.hid (hOb_17.out.below hb18 )
  have hOu_18 := Lib.hid (hOu_17.out.below hb18 (by omega))
  have hOvu_18 := Lib.hid (hOvu_17.out.below hb18 )
  have hOx_18 := Lib.hid (hOx_17.out.below hb18 (by omega))
  have hOvx_18 := Lib.hid (hOvx_17.out.below hb18 )
  have hOx1_18 := Lib.hid (hOx1_17.out.below hb18 (by omega))
  have hOx2_18 := Lib.hid (hOx2_17.out.below hb18 (by omega))
  have hOg_18 := Lib.hid (hOg_17.out.below hb18 (by omega))
  have hOvg_18 := Lib.hid (hOvg_17.out.below hb18 )
  have hOyy_18 := Lib.hid ho18
  clear hOb_17 hOu_17 hOvu_17 hOx_17 hOvx_17 hOx1_17 hOx2_17 hOg_17 hOvg_17 ho18 hb18
  refine hK.out _ _ (⟨⟨hOvx_18.out.1, hOvx_18.out.2.1⟩, hOb_18.out.1, hOb_18.out.2.1⟩) ?_
  clear hK K
  repeat (first
    | (refine Ord.ord_plain (v := ?_) rfl (fun w' hS => ?_) ?_; rotate_left; (focus ((try dsimp only at hS); go_simp; first | done | with_reducible rfl)); simp only [Act.put, List.setIfInBounds_toArray, List.set_cons_zero, List.set_cons_succ])
    | (refine Ord.ord_skip (by rfl) ?_; simp only [Act.put, List.setIfInBounds_toArray, List.set_cons_zero, List.set_cons_succ])
    | (refine Ord.ord_take (v := ?_) (by rfl) (fun w' hS => ?_) ?_; rotate_left; (focus ((try dsimp only at hS); go_simp; first | done | with_reducible rfl)); simp only [Act.put, List.setIfInBounds_toArray, List.set_cons_zero, List.set_cons_succ]))
  refine Ord.ord_call (fun K hK => ?_)
  go_simp
  refine (eqKept_same A10' B10' n0 m0 c10' d10' _ k0 _ A18' B18' c18' d18' _ _ _ hmn0 hmm0 (by omega) (by omega) hOx_18.out.reads hOyy_18.out.reads).mono ?_
  rintro e w19 ⟨rfl, hb19⟩
  have hB19 := btr hB18 hb19
  have hS19 := hb19.size
  have hOb_19 := Lib.hid (hOb_18.out.below hb19 )
  have hOu_19 := Lib.hid (hOu_18.out.below hb19 (by omega))
  have hOvu_19 := Lib.hid (hOvu_18.out.below hb19 )
  have hOx_19 := Lib.hid (hOx_18.out.below hb19 (by omega))
  have hOvx_19 := Lib.hid (hOvx_18.out.below hb19 )
  have hOx1_19 := Lib.hid (hOx1_18.out.below hb19 (by omega))
  have hOx2_19 := Lib.hid (hOx2_18.out.below hb19 (by omega))
  have hOg_19 := Lib.hid (hOg_18.out.below hb19 (by omega))
  have hOvg_19 := Lib.hid (hOvg_18.out.below hb19 )
  have hOyy_19 := Lib.hid (hOyy_18.out.below hb19 (by omega))
  clear hOb_18 hOu_18 hOvu_18 hOx_18 hOvx_18 hOx1_18 hOx2_18 hOg_18 hOvg_18 hOyy_18 hb19
  refine hK.out _ _ (⟨⟨hOvx_19.out.1, hOvx_19.out.2.1⟩, hOb_19.out.1, hOb_19.out.2.1⟩) ?_
  clear hK K
  repeat (first
    | (refine Ord.ord_plain (v := ?_) rfl (fun w' hS => ?_) ?_; rotate_left; (focus ((try dsimp only at hS); go_simp; first | done | with_reducible rfl)); simp only [Act.put, List.setIfInBounds_toArray, List.set_cons_zero, List.set_cons_succ])
    | (refine Ord.ord_skip (by rfl) ?_; simp only [Act.put, List.setIfInBounds_toArray, List.set_cons_zero, List.set_cons_succ])
    | (refine Ord.ord_take (v := ?_) (by rfl) (fun w' hS => ?_) ?_; rotate_left; (focus ((try dsimp only at hS); go_simp; first | done | with_reducible rfl)); simp only [Act.put, List.setIfInBounds_toArray, List.set_cons_zero, List.set_cons_succ]))
  refine Ord.ord_nil ?_
  clear hOyy_19
  go_wp2_with fail
  refine (toSlotS_any A1 n1 c1 0 l1 _ hm1 HL1.out (HA1.out _ hB19)).mono ?_
  rintro e w20 ⟨ad20, d20, rfl, hc20, ho20, hb20⟩
  have hB20 := btr hB19 hb20
  have hS20 := hb20.size
  have hOb_20 := Lib.hid (hOb_19.out.below hb20 )
  have hOu_20 := Lib.hid (hOu_19.out.below hb20 (by omega))
  have hOvu_20 := Lib.hid (hOvu_19.out.below hb20 )
  have hOx_20 := Lib.hid (hOx_19.out.below hb20 (by omega))
  have hOvx_20 := Lib.hid (hOvx_19.out.below hb20 )
  have hOx1_20 := Lib.hid (hOx1_19.out.below hb20 (by omega))
  have hOx2_20 := Lib.hid (hOx2_19.out.below hb20 (by omega))
  have hOg_20 := Lib.hid (hOg_19.out.below hb20 (by omega))
  have hOvg_20 := Lib.hid (hOvg_19.out.below hb20 )
  have hOy_20 := Lib.hid ho20
  clear hOb_19 hOu_19 hOvu_19 hOx_19 hOvx_19 hOx1_19 hOx2_19 hOg_19 hOvg_19 hc20 ho20 hb20
  go_wp2_with fail
  refine (eqSlotS_same (some ad12) (some ad20) n1 d12 d20 _ _ _ _ l1 _ hm1 HL1.out (by omega) (by omega) hOx1_20.out.1 hOy_20.out.1).mono ?_
  rintro e w21 ⟨rfl, hb21⟩
  have hB21 := btr hB20 hb21
  have hS21 := hb21.size
  have hOb_21 := Lib.hid (hOb_20.out.below hb21 )
  have hOu_21 := Lib.hid (hOu_20.out.below hb21 (by omega))
  have hOvu_21 := Lib.hid (hOvu_20.out.below hb21 )
  have hOx_21 := Lib.hid (hOx_20.out.below hb21 (by omega))
  have hOvx_21 := Lib.hid (hOvx_20.out.below hb21 )
  have hOx1_21 := Lib.hid (hOx1_20.out.below hb21 (by omega))
  have hOx2_21 := Lib.hid (hOx2_20.out.below hb21 (by omega))
  have hOg_21 := Lib.hid (hOg_20.out.below hb21 (by omega))
  have hOvg_21 := Lib.hid (hOvg_20.out.below hb21 )
  have hOy_21 := Lib.hid (hOy_20.out.below hb21 (by omega))
  clear hOb_20 hOu_20 hOvu_20 hOx_20 hOvx_20 hOx1_20 hOx2_20 hOg_20 hOvg_20 hOy_20 hb21
  clear hOy_21
  go_wp2_with fail
  refine (toSlotS_any A2 n2 c2 0 l2 _ hm2 HL2.out (HA2.out _ hB21)).mono ?_
  rintro e w22 ⟨ad22, d22, rfl, hc22, ho22, hb22⟩
  have hB22 := btr hB21 hb22
  have hS22 := hb22.size
  have hOb_22 := Lib.hid (hOb_21.out.below hb22 )
  have hOu_22 := Lib.hid (hOu_21.out.below hb22 (by omega))
  have hOvu_22 := Lib.hid (hOvu_21.out.below hb22 )
  have hOx_22 := Lib.hid (hOx_21.out.below hb22 (by omega))
  have hOvx_22 := Lib.hid (hOvx_21.out.below hb22 )
  have hOx1_22 := Lib.hid (hOx1_21.out.below hb22 (by omega))
  have hOx2_22 := Lib.hid (hOx2_21.out.below hb22 (by omega))
  have hOg_22 := Lib.hid (hOg_21.out.below hb22 (by omega))
  have hOvg_22 := Lib.hid (hOvg_21.out.below hb22 )
  have hOy_22 := Lib.hid ho22
  clear hOb_21 hOu_21 hOvu_21 hOx_21 hOvx_21 hOx1_21 hOx2_21 hOg_21 hOvg_21 hc22 ho22 hb22
  go_wp2_with fail
  refine (eqSlotS_same (some ad13) (some ad22) n2 d13 d22 _ _ _ _ l2 _ hm2 HL2.out (by omega) (by omega) hOx2_22.out.1 hOy_22.out.1).mono ?_
  rintro e w23 ⟨rfl, hb23⟩
  have hB23 := btr hB22 hb23
  have hS23 := hb23.size
  have hOb_23 := Lib.hid (hOb_22.out.below hb23 )
  have hOu_23 := Lib.hid (hOu_22.out.below hb23 (by omega))
  have hOvu_23 := Lib.hid (hOvu_22.out.below hb23 )
  have hOx_23 := Lib.hid (hOx_22.out.below hb23 (by omega))
  have hOvx_23 := Lib.hid (hOvx_22.out.below hb23 )
  have hOx1_23 := Lib.hid (hOx1_22.out.below hb23 (by omega))
  have hOx2_23 := Lib.hid (hOx2_22.out.below hb23 (by omega))
  have hOg_23 := Lib.hid (hOg_22.out.below hb23 (by omega))
  have hOvg_23 := Lib.hid (hOvg_22.out.below hb23 )
  have hOy_23 := Lib.hid (hOy_22.out.below hb23 (by omega))
  clear hOb_22 hOu_22 hOvu_22 hOx_22 hOvx_22 hOx1_22 hOx2_22 hOg_22 hOvg_22 hOy_22 hb23
  clear hOy_23
  obtain ⟨zvx0, zvx1, _, _, _⟩ := hOvx_23.out
  go_wp2_with fail
  refine (markKept_any A10' B10' n0 m0 c10' d10' _ k0 _ _ 1 hmn0 hmm0 (by omega) (by omega) hOx_23.out).mono ?_
  rintro e w24 ⟨he, ho24, ht24⟩
  rw [Hqa.out] at he
  subst he
  have hB24 := hB23.trans (ht24.below (B := w.heap.size) (by omega) hB23.size)
  have hS24 := ht24.size
  have hOb_24 := Lib.hid (Two.turned hOb_23.out ht24 (by omega))
  have hOu_24 := Lib.hid (hOu_23.out.turned ht24.block (by omega) (by omega))
  have hOvu_24 := Lib.hid (Two.turned hOvu_23.out ht24 (by omega))
  have hOvx_24 := Lib.hid (Two.turned hOvx_23.out ht24 (by omega))
  have hOx1_24 := Lib.hid (hOx1_23.out.turned ht24.block (by omega) (by omega))
  have hOx2_24 := Lib.hid (hOx2_23.out.turned ht24.block (by omega) (by omega))
  have hOg_24 := Lib.hid (hOg_23.out.turned ht24.block (by omega) (by omega))
  have hOvg_24 := Lib.hid (Two.turned hOvg_23.out ht24 (by omega))
  have hOx_24 := Lib.hid ho24
  clear hOb_23 hOu_23 hOvu_23 hOvx_23 hOx1_23 hOx2_23 hOg_23 hOvg_23 hOx_23 ho24 ht24
  clear zvx0 zvx1
  clear hOx_24
  clear hOvx_24
  go_wp2_with fail
  refine (markSlotS_any (some ad12) n1 d12 _ _ qa l1 _ hm1 (by omega) HL1.out hOx1_24.out).mono ?_
  rintro e w25 ⟨he, ho25, ht25⟩
  rw [Hqs1.out] at he
  subst he
  have hB25 := hB24.trans (ht25.below (B := w.heap.size) (by omega) hB24.size)
  have hS25 := ht25.size
  have hOb_25 := Lib.hid (Two.turned hOb_24.out ht25 (by omega))
  have hOu_25 := Lib.hid (hOu_24.out.turned ht25.block (by omega) (by omega))
  have hOvu_25 := Lib.hid (Two.turned hOvu_24.out ht25 (by omega))
  have hOx2_25 := Lib.hid (hOx2_24.out.turned ht25.block (by omega) (by omega))
  have hOg_25 := Lib.hid (hOg_24.out.turned ht25.block (by omega) (by omega))
  have hOvg_25 := Lib.hid (Two.turned hOvg_24.out ht25 (by omega))
  have hOx1_25 := Lib.hid ho25
  clear hOb_24 hOu_24 hOvu_24 hOx2_24 hOg_24 hOvg_24 hOx1_24 ho25 ht25
  clear hOx1_25
  go_wp2_with fail
  refine (markSlotS_any (some ad13) n2 d13 _ _ qs1 l2 _ hm2 (by omega) HL2.out hOx2_25.out).mono ?_
  rintro e w26 ⟨he, ho26, ht26⟩
  rw [Hqs2.out] at he
  subst he
  have hB26 := hB25.trans (ht26.below (B := w.heap.size) (by omega) hB25.size)
  have hS26 := ht26.size
  have hOb_26 := Lib.hid (Two.turned hOb_25.out ht26 (by omega))
  have hOu_26 := Lib.hid (hOu_25.out.turned ht26.block (by omega) (by omega))
  have hOvu_26 := Lib.hid (Two.turned hOvu_25.out ht26 (by omega))
  have hOg_26 := Lib.hid (hOg_25.out.turned ht26.block (by omega) (by omega))
  have hOvg_26 := Lib.hid (Two.turned hOvg_25.out ht26 (by omega))
  have hOx2_26 := Lib.hid ho26
  clear hOb_25 hOu_25 hOvu_25 hOg_25 hOvg_25 hOx2_25 ho26 ht26
  clear hOx2_26
  obtain ⟨zvg0, zvg1, _, _, _⟩ := hOvg_26.out
  obtain ⟨zvu0, zvu1, _, _, _⟩ := hOvu_26.out
  go_wp2_with fail
  refine (eqKept_same A14' B14' n0 m0 c14' d14' _ u _ A8' B8' c8' d8' _ _ _ hmn0 hmm0 (by omega) (by omega) hOg_26.out.reads hOu_26.out.reads).mono ?_
  rintro e w27 ⟨rfl, hb27⟩
  have hB27 := btr hB26 hb27
  have hS27 := hb27.size
  have hOb_27 := Lib.hid (hOb_26.out.below hb27 )
  have hOu_27 := Lib.hid (hOu_26.out.below hb27 (by omega))
  have hOvu_27 := Lib.hid (hOvu_26.out.below hb27 )
  have hOg_27 := Lib.hid (hOg_26.out.below hb27 (by omega))
  have hOvg_27 := Lib.hid (hOvg_26.out.below hb27 )
  clear hOb_26 hOu_26 hOvu_26 hOg_26 hOvg_26 hb27
  clear zvg0 zvg1 zvu0 zvu1
  obtain ⟨zvg0, zvg1, _, _, _⟩ := hOvg_27.out
  go_wp2_with fail
  refine (markKept_any A14' B14' n0 m0 c14' d14' _ u _ _ 1 hmn0 hmm0 (by omega) (by omega) hOg_27.out).mono ?_
  rintro e w28 ⟨he, ho28, ht28⟩
  rw [Hqa.out] at he
  subst he
  have hB28 := hB27.trans (ht28.below (B := w.heap.size) (by omega) hB27.size)
  have hS28 := ht28.size
  have hOb_28 := Lib.hid (Two.turned hOb_27.out ht28 (by omega))
  have hOu_28 := Lib.hid (hOu_27.out.turned ht28.block (by omega) (by omega))
  have hOvu_28 := Lib.hid (Two.turned hOvu_27.out ht28 (by omega))
  have hOvg_28 := Lib.hid (Two.turned hOvg_27.out ht28 (by omega))
  have hOg_28 := Lib.hid ho28
  clear hOb_27 hOu_27 hOvu_27 hOvg_27 hOg_27 ho28 ht28
  clear zvg0 zvg1
  obtain ⟨zvg0, zvg1, _, _, _⟩ := hOvg_28.out
  go_wp2_with fail
  refine (heldKept_any A14' B14' n0 m0 c14' d14' _ _ _ 1 hmn0 hmm0 (by omega) (by omega) hOg_28.out.reads).mono ?_
  rintro e w29 ⟨he, hb29⟩
  rw [Hqa.out] at he
  subst he
  have hB29 := btr hB28 hb29
  have hS29 := hb29.size
  have hOb_29 := Lib.hid (hOb_28.out.below hb29 )
  have hOu_29 := Lib.hid (hOu_28.out.below hb29 (by omega))
  have hOvu_29 := Lib.hid (hOvu_28.out.below hb29 )
  have hOvg_29 := Lib.hid (hOvg_28.out.below hb29 )
  have hOg_29 := Lib.hid (hOg_28.out.below hb29 (by omega))
  clear hOb_28 hOu_28 hOvu_28 hOvg_28 hOg_28 hb29
  clear zvg0 zvg1
  obtain ⟨zb0, zb1, _, _, _⟩ := hOb_29.out
  go_wp2_with fail
  refine (toKept_any A0 B0 n0 m0 c0 e0 0 k0 _ hmn0 hmm0 (HA0.out _ hB29)).mono ?_
  rintro e w30 ⟨A30', c30', B30', d30', rfl, ho30, hb30⟩
  have hB30 := btr hB29 hb30
  have hS30 := hb30.size
  have hOb_30 := Lib.hid (hOb_29.out.below hb30 )
  have hOu_30 := Lib.hid (hOu_29.out.below hb30 (by omega))
  have hOvu_30 := Lib.hid (hOvu_29.out.below hb30 )
  have hOvg_30 := Lib.hid (hOvg_29.out.below hb30 )
  have hOg_30 := Lib.hid (hOg_29.out.below hb30 (by omega))
  have hOz_30 := Lib.hid ho30
  clear hOb_29 hOu_29 hOvu_29 hOvg_29 hOg_29 ho30 hb30
  clear zb0 zb1
  go_wp2_with fail
  refine (toSlotS_any A1 n1 c1 0 l1 _ hm1 HL1.out (HA1.out _ hB30)).mono ?_
  rintro e w31 ⟨ad31, d31, rfl, hc31, ho31, hb31⟩
  have hB31 := btr hB30 hb31
  have hS31 := hb31.size
  have hOb_31 := Lib.hid (hOb_30.out.below hb31 )
  have hOu_31 := Lib.hid (hOu_30.out.below hb31 (by omega))
  have hOvu_31 := Lib.hid (hOvu_30.out.below hb31 )
  have hOvg_31 := Lib.hid (hOvg_30.out.below hb31 )
  have hOg_31 := Lib.hid (hOg_30.out.below hb31 (by omega))
  have hOz_31 := Lib.hid (hOz_30.out.below hb31 (by omega))
  have hOz1_31 := Lib.hid ho31
  clear hOb_30 hOu_30 hOvu_30 hOvg_30 hOg_30 hOz_30 hc31 ho31 hb31
  go_wp2_with fail
  refine (toSlotS_any A2 n2 c2 0 l2 _ hm2 HL2.out (HA2.out _ hB31)).mono ?_
  rintro e w32 ⟨ad32, d32, rfl, hc32, ho32, hb32⟩
  have hB32 := btr hB31 hb32
  have hS32 := hb32.size
  have hOb_32 := Lib.hid (hOb_31.out.below hb32 )
  have hOu_32 := Lib.hid (hOu_31.out.below hb32 (by omega))
  have hOvu_32 := Lib.hid (hOvu_31.out.below hb32 )
  have hOvg_32 := Lib.hid (hOvg_31.out.below hb32 )
  have hOg_32 := Lib.hid (hOg_31.out.below hb32 (by omega))
  have hOz_32 := Lib.hid (hOz_31.out.below hb32 (by omega))
  have hOz1_32 := Lib.hid (hOz1_31.out.below hb32 (by omega))
  have hOz2_32 := Lib.hid ho32
  clear hOb_31 hOu_31 hOvu_31 hOvg_31 hOg_31 hOz_31 hOz1_31 hc32 ho32 hb32
  go_wp2_with fail
  refine (HK2.out _ _ _ _ _ _ _ _ _ (hOz_32.out.reads.wide (Nat.zero_le _) (by omega)) (hOz1_32.out.1.wide (Nat.zero_le _) (by omega)) (hOz2_32.out.1.wide (Nat.zero_le _) (by omega))).mono ?_
  rintro e w33 ⟨A33', c33', B33', d33', rfl, ho33, hb33⟩
  have hB33 := btr hB32 hb33
  have hS33 := hb33.size
  have hOb_33 := Lib.hid (hOb_32.out.below hb33 )
  have hOu_33 := Lib.hid (hOu_32.out.below hb33 (by omega))
  have hOvu_33 := Lib.hid (hOvu_32.out.below hb33 )
  have hOvg_33 := Lib.hid (hOvg_32.out.below hb33 )
  have hOg_33 := Lib.hid (hOg_32.out.below hb33 (by omega))
  have hOz_33 := Lib.hid (hOz_32.out.below hb33 (by omega))
  have hOz1_33 := Lib.hid (hOz1_32.out.below hb33 (by omega))
  have hOz2_33 := Lib.hid (hOz2_32.out.below hb33 (by omega))
  have hOh_33 := Lib.hid ho33
  clear hOb_32 hOu_32 hOvu_32 hOvg_32 hOg_32 hOz_32 hOz1_32 hOz2_32 ho33 hb33
  clear hOz_33
  clear hOz1_33
  clear hOz2_33
  have hb34 : Below w33.heap.size w33 (w33.alloc (.cells #[.slice A33' n0 c33', .slice B33' m0 d33'] 27)) := (Below.refl _ _).alloc (Nat.le_refl _) _
  have hB34 := btr hB33 hb34
  have hS34 : w33.heap.size < (w33.alloc (.cells #[.slice A33' n0 c33', .slice B33' m0 d33'] 27)).heap.size := by simp
  have hOb_34 := Lib.hid (hOb_33.out.below hb34 )
  have hOu_34 := Lib.hid (hOu_33.out.below hb34 (by omega))
  have hOvu_34 := Lib.hid (hOvu_33.out.below hb34 )
  have hOvg_34 := Lib.hid (hOvg_33.out.below hb34 )
  have hOg_34 := Lib.hid (hOg_33.out.below hb34 (by omega))
  have hOh_34 := Lib.hid (hOh_33.out.below hb34 (by omega))
  have hOvh_34 := Lib.hid (Two.new w33 (.slice A33' n0 c33') (.slice B33' m0 d33') 27)
  clear hOb_33 hOu_33 hOvu_33 hOvg_33 hOg_33 hOh_33 hb34
  obtain ⟨zvh0, zvh1, _, _, _⟩ := hOvh_34.out
  obtain ⟨zvu0, zvu1, _, _, _⟩ := hOvu_34.out
  go_wp2_with fail
  refine (eqKept_same A33' B33' n0 m0 c33' d33' _ u _ A8' B8' c8' d8' _ _ _ hmn0 hmm0 (by omega) (by omega) hOh_34.out.reads hOu_34.out.reads).mono ?_
  rintro e w35 ⟨rfl, hb35⟩
  have hB35 := btr hB34 hb35
  have hS35 := hb35.size
  have hOb_35 := Lib.hid (hOb_34.out.below hb35 )
  have hOu_35 := Lib.hid (hOu_34.out.below hb35 (by omega))
  have hOvu_35 := Lib.hid (hOvu_34.out.below hb35 )
  have hOvg_35 := Lib.hid (hOvg_34.out.below hb35 )
  have hOg_35 := Lib.hid (hOg_34.out.below hb35 (by omega))
  have hOh_35 := Lib.hid (hOh_34.out.below hb35 (by omega))
  have hOvh_35 := Lib.hid (hOvh_34.out.below hb35 )
  clear hOb_34 hOu_34 hOvu_34 hOvg_34 hOg_34 hOh_34 hOvh_34 hb35
  clear zvh0 zvh1 zvu0 zvu1
  clear hOh_35
  clear hOu_35
  clear hOvh_35
  clear hOvu_35
  obtain ⟨zvg0, zvg1, _, _, _⟩ := hOvg_35.out
  go_wp2_with fail
  refine (heldKept_any A14' B14' n0 m0 c14' d14' _ _ _ 1 hmn0 hmm0 (by omega) (by omega) hOg_35.out.reads).mono ?_
  rintro e w36 ⟨he, hb36⟩
  rw [Hqa.out] at he
  subst he
  have hB36 := btr hB35 hb36
  have hS36 := hb36.size
  have hOb_36 := Lib.hid (hOb_35.out.below hb36 )
  have hOvg_36 := Lib.hid (hOvg_35.out.below hb36 )
  have hOg_36 := Lib.hid (hOg_35.out.below hb36 (by omega))
  clear hOb_35 hOvg_35 hOg_35 hb36
  clear zvg0 zvg1
  go_wp2_with fail
  go_ret
  exact ⟨rfl, hB36⟩

/-! ### The row's step -/
set_option maxRecDepth 100000 in
theorem lifted (os : Os) (started : os.Started) (H : Type) (enc : TypeId × Value → H) :
    ReturnsInHanded {} Try.checked os 8 .any (Rows.fnExactFillSpec.pre6 enc Try.prog Try.f8 Rows.fnExactFillRow.domain false) (Rows.fnExactFillSpec.post enc Try.prog Try.f8 false true false false) := by
  refine returnsInHanded_of_change (C := Try.checked) Base.own started (by kernel_rfl) Try.func8
    (ChangeSpec.witness6 (enc := enc) (C := Try.checked) false ⟨#[], #[.agg #[.slice none 0 0, .slice none 0 0], .slice none 0 0, .slice none 0 0, .int .i64 0], []⟩ 8 (by kernel_rfl) (by kernel_rfl) (by kernel_rfl) (by kernel_rfl)) ?_
  intro W base args ds gs before hval0 hW hcnd _
  have hval : ∀ (j : Nat) t v, Try.f8.params[j]? = some t → args[j]? = some v → Value.okWide Try.prog W .any base t v := hval0
  have hW' := hW
  obtain ⟨p, q, hA0, hV, rfl, hfz, hnd⟩ := hW
  have hA : DataW.TrodAll enc Try.prog W 0 (fun _ => true) true Try.f8.params.toList args.toList ds p := hA0
  have hA1 := hA
  rw [Try.params8] at hA hval
  obtain ⟨v0, vs0, d0, ds0, p0, q0, hargs, rfl, rfl, h0, r0⟩ := trodAll_cons hA
  obtain ⟨v1, vs1, d1, ds1, p1, q1, rfl, rfl, rfl, h1, r1⟩ := trodAll_cons r0
  obtain ⟨v2, vs2, d2, ds2, p2, q2, rfl, rfl, rfl, h2, r2⟩ := trodAll_cons r1
  obtain ⟨v3, vs3, d3, ds3, p3, q3, rfl, rfl, rfl, h3, r3⟩ := trodAll_cons r2
  obtain ⟨rfl, rfl, rfl⟩ := trodAll_nil r3
  obtain rfl : args = #[v0, v1, v2, v3] := by cases args; simp_all
  obtain ⟨rfl, rfl⟩ := trodVars_none hV
  obtain ⟨A0, n0, c0, B0, m0, e0, k0, rfl, hn0, hm0, hw0, h0'⟩ := Kepts.open_kept (hval 0 64 v0 rfl rfl) h0
  obtain ⟨A1, n1, c1, l1, rfl, hn1, hl1, hw1, h1'⟩ := Slots.open_slots (hval 1 62 v1 rfl rfl) h1
  obtain ⟨A2, n2, c2, l2, rfl, hn2, hl2, hw2, h2'⟩ := Slots.open_slots (hval 2 62 v2 rfl rfl) h2
  obtain ⟨a3, rfl, _, _, w3⟩ := open_int Try.underlying3 (hval 3 3 v3 rfl rfl) h3
  clear hA0 hval0
  rw [List.append_nil] at hW'
  refine (walk A0 n0 c0 B0 m0 e0 k0 A1 n1 c1 l1 A2 n2 c2 l2 a3 hn0 hm0 hw0 h0' hn1 hl1 hw1 h1' hn2 hl2 hw2 h2' w3).mono fun e W' ⟨he, hg⟩ => ?_
  subst he
  exact ⟨_, rfl, Mem.post_args Slots.laid (by kernel_rfl) rfl rfl rfl hW' hA1 hg (fun _ _ _ => (trodAll_cons_mk (shut_bool Try.underlying4 _) trodAll_mk0)) (ok_one (by kernel_rfl) rfl (okWide_bool_mk Try.underlying4 _))⟩

theorem over : Rows.fnExactFillRow.holds Try.pinned (OpenSpec.ofChange Rows.fnExactFillSpec) :=
  OpenClaim.holds_of_wide 8 Try.f8 rfl rfl rfl rfl rfl rfl rfl ⟨rfl, rfl, rfl, rfl, rfl⟩ rfl rfl rfl rfl rfl (by kernel_rfl) Try.func8 (by kernel_rfl)
    (of_decide_eq_true (by kernel_rfl)) (by unfold Func.isWrapper; first | (rw [if_pos (by decide +kernel)]; kernel_rfl) | (rw [if_neg (by decide +kernel)]; exact ⟨rfl, rfl⟩))
    (fun os started H enc _ => lifted os started H enc)

/-- The given statement. -/
theorem proved : Rows.FnExactFillSaid :=
  over
#print axioms proved
end Go.Proofs.Ytfgckkgakghenaa.fnExactFill
