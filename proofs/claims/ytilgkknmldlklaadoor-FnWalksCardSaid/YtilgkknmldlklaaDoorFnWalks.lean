/-
  For every slice of bytes the law FnWalks returns true: a walk leads exactly where the composed table leads. The project's sentinels that the row lists are tied to the program's text by the given card (over the pruned copy of the project that the seat holds). No other condition.
-/
import Derived.Test.YtilgkknmldlklaaDoorCards
import Derived.Test.YtilgkknmldlklaaDoorTie
import Derived.Test.YtilgkknmldlklaaDoorLaidW
import Derived.Test.YtilgkknmldlklaaDoorFaultsW
import Derived.Test.YtilgkknmldlklaaDoorWalkComp
import Derived.Test.YtilgkknmldlklaaDoorWalkDraws
import Derived.Test.YtilgkknmldlklaaDoorTwoSlot
import Derived.Test.YtilgkknmldlklaaDoorSlotArgs
import Derived.Test.YtilgkknmldlklaaDoorSameInts
import Derived.Test.YtilgkknmldlklaaDoorAddrs
import Derived.Test.YtilgkknmldlklaaDoorBig
import Derived.Deep.DeepHandedRow
import Derived.Deep.DeepWitnessRowRef
import Derived.Lay
namespace Go.Proofs.YtilgkknmldlklaaDoor.fnWalks
set_option maxRecDepth 100000
open Go.ChangeShapes Go.WideShapes Go.ChangeAt Go.RowKit
open Go.Proofs.YtilgkknmldlklaaDoor.Base Go.Proofs.YtilgkknmldlklaaDoor.Mem Go.Proofs.YtilgkknmldlklaaDoor.Slots Go.Proofs.YtilgkknmldlklaaDoor.Ints Go.Proofs.YtilgkknmldlklaaDoor.Draw Go.Proofs.YtilgkknmldlklaaDoor.SDraw Go.Proofs.YtilgkknmldlklaaDoor.Addrs
set_option linter.unusedVariables false

theorem addrP11 (V : World) : Calls Tryd.prog 23 #[.int .i64 11] V fun e w' => e = .returned (.int .i64 2) ∧ V = w' := Addrs.impl_addrP 11 V (by decide)
theorem addrC11 (V : World) : Calls Tryd.prog 25 #[.int .i64 11] V fun e w' => e = .returned (.int .i64 3) ∧ V = w' := Addrs.impl_addrC 11 V (by decide)

set_option maxRecDepth 100000 in
set_option maxHeartbeats 16000000 in
theorem walk (A : Option Addr) (n c : Nat) (hn : n ≤ maxLen) {w : World} (hcode : CodeAt w A n) (z0 z1 : Addr) (hs : Sent w z0 z1) :
    Calls Tryd.prog 3 #[.slice A n c] w fun e w' => e = .returned (.bool true) ∧ Below w.heap.size w w' := by
  have hn' : n ≤ 9223372036854775807 := hn
  have HC := Lib.hid (show ∀ W, Below w.heap.size w W → CodeAt W A n from fun W hb => hcode.below hb)
  have HSN := Lib.hid (show ∀ W, Below w.heap.size w W → Sent W z0 z1 from fun W hb => hs.below hb)
  clear hcode hn hs
  by_cases h1 : 1048576 < n
  · go_enter Tryd.func3, Tryd.ntmps3
    go_wp2_with (go_at_call 7; refine (big_yes A n c _ hn' h1).mono ?_; rintro e w' ⟨rfl, rfl⟩)
    go_ret
    exact ⟨rfl, Below.refl _ _⟩
  · have hn2 : n ≤ 1048576 := by omega
    clear h1 hn'
    go_enter Tryd.func3, Tryd.ntmps3
    go_wp2_with (go_at_call 7; refine (big_no A n c _ hn2).mono ?_; rintro e w' ⟨rfl, rfl⟩)
    go_wp2_with fail
    refine (drawWalk_any A n c _ hn2 (HC.out _ (Below.refl _ _))).mono ?_
    rintro e w1 ⟨adl, nl, cl, l, ado, no, co, o, x, y, rfl, hx, hy, hTl, hTo, hb1⟩
    have HLl := Lib.hid hTl.2.1
    have HWl := Lib.hid hTl.2.2.1
    have hml : nl ≤ 1048576 := by have := hTl.1; omega
    have HLo := Lib.hid hTo.2.1
    have HWo := Lib.hid hTo.2.2.1
    have hmo : no ≤ 1048576 := by have := hTo.1; omega
    have hB1 := btr (Below.refl _ _) hb1
    have hS1 := hb1.size
    have hOl_1 := Lib.hid (hTl.2.2.2)
    have hOo_1 := Lib.hid (hTo.2.2.2)
    clear hTl hTo hx hb1
    have k1 := fun (A B : Option Addr) (c d : Nat) (V : World) (h1 : Lies V 0 V.heap.size A (scells l)) (h2 : Lies V 0 V.heap.size B (scells o)) (hs : Sent V z0 z1) => impl_walk A B nl no c d x y l o V z0 z1 hml hmo HLl.out HLo.out HWl.out HWo.out hy h1 h2 hs
    have k2 := fun (A B : Option Addr) (c d : Nat) (V : World) (h1 : Lies V 0 V.heap.size A (scells l)) (h2 : Lies V 0 V.heap.size B (scells o)) => spec_walk A B nl no c d x y l o V hml hmo HLl.out HLo.out h1 h2
    have k3 := fun (A B : Option Addr) (c d : Nat) (V : World) (h1 : Lies V 0 V.heap.size A (scells l)) (h2 : Lies V 0 V.heap.size B (scells o)) => spec_compose A B nl no c d l o V hml hmo HLl.out HLo.out h1 h2
    have hC := (compL_len l o).trans HLl.out
    have k4 := fun (A : Option Addr) (c : Nat) (V : World) (h : Lies V 0 V.heap.size A (scells (compL l o))) => spec_at A nl c 0 x (compL l o) V hml hC h
    have q1 := walk_m1 l o x y
    have q2 := fun h : y = 1 ∨ y = 2 => walk_comp l o x h
    unfold WalkPost at k1
    generalize walkW l o x y = v at k1 k2 q1 q2
    generalize compL l o = C at k3 hC k4 q2
    generalize atS C x = s at k4 q2
    obtain ⟨p, k⟩ := v
    obtain ⟨sx, sy⟩ := s
    have k5 := fun V : World => Rights.spec_enough sy y V
    dsimp only at q1 q2
    have K1 := Lib.hid k1
    have K2 := Lib.hid k2
    have K3 := Lib.hid k3
    have K4 := Lib.hid k4
    have HLC := Lib.hid hC
    have Q1 := Lib.hid q1
    have Q2 := Lib.hid q2
    have K5 := Lib.hid k5
    clear k1 k2 k3 k4 hC q1 q2 k5 hy
    go_wp2_with fail
    refine (K1.out _ _ _ _ _ (hOl_1.out.wide (Nat.zero_le _) (by omega)) (hOo_1.out.wide (Nat.zero_le _) (by omega)) (HSN.out _ hB1)).mono ?_
    rintro e w2 ⟨rfl, hb2⟩
    have hB2 := btr hB1 hb2
    have hS2 := hb2.size
    have hOl_2 := Lib.hid (hOl_1.out.below hb2 (by omega))
    have hOo_2 := Lib.hid (hOo_1.out.below hb2 (by omega))
    clear hOl_1 hOo_1 hb2
    go_wp2_with fail
    refine (K2.out _ _ _ _ _ (hOl_2.out.wide (Nat.zero_le _) (by omega)) (hOo_2.out.wide (Nat.zero_le _) (by omega))).mono ?_
    rintro e w3 ⟨rfl, hb3⟩
    have hB3 := btr hB2 hb3
    have hS3 := hb3.size
    have hOl_3 := Lib.hid (hOl_2.out.below hb3 (by omega))
    have hOo_3 := Lib.hid (hOo_2.out.below hb3 (by omega))
    clear hOl_2 hOo_2 hb3
    clear K1 K2
    go_wp2_with fail
    refine (drawWalkInner_any A n c _ hn2 (HC.out _ hB3)).mono ?_
    rintro e w4 ⟨adr, nr, cr, r, x2, y2, rfl, hx, hy, hTr, hb4⟩
    have HLr := Lib.hid hTr.2.1
    have HWr := Lib.hid hTr.2.2.1
    have hmr : nr ≤ 1048576 := by have := hTr.1; omega
    have hB4 := btr hB3 hb4
    have hS4 := hb4.size
    have hOl_4 := Lib.hid (hOl_3.out.below hb4 (by omega))
    have hOo_4 := Lib.hid (hOo_3.out.below hb4 (by omega))
    have hOr_4 := Lib.hid (hTr.2.2.2)
    clear hOl_3 hOo_3 hTr hx hb4
    have k1 := fun (A : Option Addr) (c : Nat) (V : World) (h : Lies V 0 V.heap.size A (scells r)) (hs : Sent V z0 z1) => impl_inner A nr c x2 y2 r V z0 hmr HLr.out HWr.out hy h hs.one
    have k2 := fun (A : Option Addr) (c : Nat) (V : World) (h : Lies V 0 V.heap.size A (scells r)) => spec_inner A nr c x2 y2 r V hmr HLr.out h
    generalize innerW r x2 y2 = v at k1 k2
    obtain ⟨m, ok⟩ := v
    have K1 := Lib.hid k1
    have K2 := Lib.hid k2
    clear k1 k2 hy
    go_wp2_with fail
    refine (K1.out _ _ _ (hOr_4.out.wide (Nat.zero_le _) (by omega)) (HSN.out _ hB4)).mono ?_
    rintro e w5 ⟨rfl, hb5⟩
    have hB5 := btr hB4 hb5
    have hS5 := hb5.size
    have hOl_5 := Lib.hid (hOl_4.out.below hb5 (by omega))
    have hOo_5 := Lib.hid (hOo_4.out.below hb5 (by omega))
    have hOr_5 := Lib.hid (hOr_4.out.below hb5 (by omega))
    clear hOl_4 hOo_4 hOr_4 hb5
    go_wp2_with fail
    refine (K2.out _ _ _ (hOr_5.out.wide (Nat.zero_le _) (by omega))).mono ?_
    rintro e w6 ⟨rfl, hb6⟩
    have hB6 := btr hB5 hb6
    have hS6 := hb6.size
    have hOl_6 := Lib.hid (hOl_5.out.below hb6 (by omega))
    have hOo_6 := Lib.hid (hOo_5.out.below hb6 (by omega))
    have hOr_6 := Lib.hid (hOr_5.out.below hb6 (by omega))
    clear hOl_5 hOo_5 hOr_5 hb6
    clear K1 K2
    clear hOr_6
    go_wp2_with fail
    refine (drawFaults_any A n c _ hn2 (HC.out _ hB6)).mono ?_
    rintro e w7 ⟨adu, nu, cu, u, adv, nv, cv, v, y3, rfl, hy, hTu, hTv, hb7⟩
    have HLu := Lib.hid hTu.2.1
    have HWu := Lib.hid hTu.2.2.1
    have hmu : nu ≤ 1048576 := by have := hTu.1; omega
    have HLv := Lib.hid hTv.2.1
    have HWv := Lib.hid hTv.2.2.1
    have hmv : nv ≤ 1048576 := by have := hTv.1; omega
    have hB7 := btr hB6 hb7
    have hS7 := hb7.size
    have hOl_7 := Lib.hid (hOl_6.out.below hb7 (by omega))
    have hOo_7 := Lib.hid (hOo_6.out.below hb7 (by omega))
    have hOu_7 := Lib.hid (hTu.2.2.2)
    have hOv_7 := Lib.hid (hTv.2.2.2)
    clear hOl_6 hOo_6 hTu hTv hb7
    have k1 := fun (A B : Option Addr) (c d : Nat) (V : World) (h1 : Lies V 0 V.heap.size A (scells u)) (h2 : Lies V 0 V.heap.size B (scells v)) (hs : Sent V z0 z1) => impl_faults A B nu nv c d y3 u v V z0 z1 hmu hmv HLu.out HLv.out HWu.out HWv.out hy h1 h2 hs
    have k2 := fun (A B : Option Addr) (c d : Nat) (V : World) (h1 : Lies V 0 V.heap.size A (scells u)) (h2 : Lies V 0 V.heap.size B (scells v)) => spec_faults A B nu nv c d y3 u v V hmu hmv HLu.out HLv.out h1 h2
    have HLF := Lib.hid ((faultsW_len u v y3).trans HLu.out)
    generalize faultsW u v y3 = f at k1 k2 HLF
    have K1 := Lib.hid k1
    have K2 := Lib.hid k2
    clear k1 k2 hy
    go_wp2_with fail
    refine (K1.out _ _ _ _ _ (hOu_7.out.wide (Nat.zero_le _) (by omega)) (hOv_7.out.wide (Nat.zero_le _) (by omega)) (HSN.out _ hB7)).mono ?_
    rintro e w8 ⟨ad8, m8, d8, rfl, hl8, ho8, hb8⟩
    obtain rfl : nu = m8 := HLF.out.symm.trans hl8
    have hB8 := btr hB7 hb8
    have hS8 := hb8.size
    have hOl_8 := Lib.hid (hOl_7.out.below hb8 (by omega))
    have hOo_8 := Lib.hid (hOo_7.out.below hb8 (by omega))
    have hOu_8 := Lib.hid (hOu_7.out.below hb8 (by omega))
    have hOv_8 := Lib.hid (hOv_7.out.below hb8 (by omega))
    have hOf_8 := Lib.hid ho8
    clear hOl_7 hOo_7 hOu_7 hOv_7 hl8 ho8 hb8
    go_wp2_with fail
    refine (K2.out _ _ _ _ _ (hOu_8.out.wide (Nat.zero_le _) (by omega)) (hOv_8.out.wide (Nat.zero_le _) (by omega))).mono ?_
    rintro e w9 ⟨ad9, m9, d9, rfl, hl9, ho9, hb9⟩
    obtain rfl : nu = m9 := HLF.out.symm.trans hl9
    have hB9 := btr hB8 hb9
    have hS9 := hb9.size
    have hOl_9 := Lib.hid (hOl_8.out.below hb9 (by omega))
    have hOo_9 := Lib.hid (hOo_8.out.below hb9 (by omega))
    have hOu_9 := Lib.hid (hOu_8.out.below hb9 (by omega))
    have hOv_9 := Lib.hid (hOv_8.out.below hb9 (by omega))
    have hOf_9 := Lib.hid (hOf_8.out.below hb9 (by omega))
    have hOg_9 := Lib.hid ho9
    clear hOl_8 hOo_8 hOu_8 hOv_8 hOf_8 hl9 ho9 hb9
    clear hOu_9
    clear hOv_9
    go_wp2_with fail
    refine (sameInts_same ad8 ad9 nu d8 d9 _ _ _ _ f _ hmu HLF.out hOf_9.out.1 hOg_9.out.1).mono ?_
    rintro e w10 ⟨rfl, hb10⟩
    have hB10 := btr hB9 hb10
    have hS10 := hb10.size
    have hOl_10 := Lib.hid (hOl_9.out.below hb10 (by omega))
    have hOo_10 := Lib.hid (hOo_9.out.below hb10 (by omega))
    have hOf_10 := Lib.hid (hOf_9.out.below hb10 (by omega))
    have hOg_10 := Lib.hid (hOg_9.out.below hb10 (by omega))
    clear hOl_9 hOo_9 hOf_9 hOg_9 hb10
    clear hOf_10
    clear hOg_10
    clear K1 K2
    go_wp2_with fail
    refine (K3.out _ _ _ _ _ (hOl_10.out.wide (Nat.zero_le _) (by omega)) (hOo_10.out.wide (Nat.zero_le _) (by omega))).mono ?_
    rintro e w11 ⟨ad11, d11, rfl, hc11, ho11, hb11⟩
    have hB11 := btr hB10 hb11
    have hS11 := hb11.size
    have hOl_11 := Lib.hid (hOl_10.out.below hb11 (by omega))
    have hOo_11 := Lib.hid (hOo_10.out.below hb11 (by omega))
    have hOc_11 := Lib.hid ho11
    clear hOl_10 hOo_10 hc11 ho11 hb11
    clear hOl_11
    clear hOo_11
    go_wp2_with fail
    refine (K4.out _ _ _ (hOc_11.out.1.wide (Nat.zero_le _) (by omega))).mono ?_
    rintro e w12 ⟨rfl, hb12⟩
    have hB12 := btr hB11 hb12
    have hS12 := hb12.size
    have hOc_12 := Lib.hid (hOc_11.out.below hb12 (by omega))
    clear hOc_11 hb12
    clear hOc_12
    have hb13 : Below w12.heap.size w12 (w12.alloc (.cells #[.int .i64 sx, .int .i64 sy] 39)) := (Below.refl _ _).alloc (Nat.le_refl _) _
    have hB13 := btr hB12 hb13
    have hS13 := hb13.size
    have hOs_13 := Lib.hid (Two.new w12 (.int .i64 sx) (.int .i64 sy) 39)
    clear hb13
    clear K3 K4
    by_cases hk : k = 0
    · subst hk
      by_cases hy1 : y = 1
      · obtain ⟨h1, h2⟩ := Q2.out (.inl hy1)
        obtain ⟨h3, h4⟩ := h1.1 rfl
        obtain rfl := h2 rfl
        have h3' : (p != -1) = true := by simpa using h3
        have h5 := fun V : World => K5.out V
        rw [h4] at h5
        have K5 := Lib.hid h5
        have hy1' : (y == 1) = true := by simpa using hy1
        clear h1 h2 h3 h4 h5 hy1 Q1 Q2
        obtain ⟨zs0, zs1, _, _, _⟩ := hOs_13.out
        go_wp2_with fail
        refine (K5.out _).mono ?_
        rintro e w' ⟨rfl, rfl⟩
        go_wp2_with fail
        refine (drawAddrPage_any A n c _ hn2 (HC.out _ hB13)).mono ?_
        rintro e w15 ⟨x6, rfl, h6, hb15⟩
        have hB15 := btr hB13 hb15
        have hS15 := hb15.size
        have hOs_15 := Lib.hid (hOs_13.out.below hb15 )
        clear hOs_13 hb15
        have hA1 := fun V : World => impl_addrP x6 V h6
        have hA2 := fun V : World => spec_addrP x6 V h6
        generalize addrP x6 = t6 at hA1 hA2
        have A1 := Lib.hid hA1
        have A2 := Lib.hid hA2
        clear hA1 hA2 h6
        go_wp2_with fail
        refine (drawAddrCell_any A n c _ hn2 (HC.out _ hB15)).mono ?_
        rintro e w16 ⟨x7, rfl, h7, hb16⟩
        have hB16 := btr hB15 hb16
        have hS16 := hb16.size
        have hOs_16 := Lib.hid (hOs_15.out.below hb16 )
        clear hOs_15 hb16
        have hA3 := fun V : World => impl_addrC x7 V h7
        have hA4 := fun V : World => spec_addrC x7 V h7
        generalize addrC x7 = t7 at hA3 hA4
        have A3 := Lib.hid hA3
        have A4 := Lib.hid hA4
        clear hA3 hA4 h7
        go_wp2_with fail
        refine (A1.out _).mono ?_
        rintro e w' ⟨rfl, rfl⟩
        go_wp2_with fail
        refine (A2.out _).mono ?_
        rintro e w' ⟨rfl, rfl⟩
        go_wp2_with fail
        refine (A3.out _).mono ?_
        rintro e w' ⟨rfl, rfl⟩
        go_wp2_with fail
        refine (A4.out _).mono ?_
        rintro e w' ⟨rfl, rfl⟩
        go_wp2_with fail
        refine (addrP11 _).mono ?_
        rintro e w' ⟨rfl, rfl⟩
        go_wp2_with fail
        refine (addrC11 _).mono ?_
        rintro e w' ⟨rfl, rfl⟩
        clear hOs_16
        go_wp2_with fail
        go_ret
        exact ⟨rfl, hB16⟩
      by_cases hy2 : y = 2
      · obtain ⟨h1, h2⟩ := Q2.out (.inr hy2)
        obtain ⟨h3, h4⟩ := h1.1 rfl
        obtain rfl := h2 rfl
        have h3' : (p != -1) = true := by simpa using h3
        have h5 := fun V : World => K5.out V
        rw [h4] at h5
        have K5 := Lib.hid h5
        have hy1' : (y == 1) = false := by simpa using hy1
        have hy2' : (y == 2) = true := by simpa using hy2
        clear h1 h2 h3 h4 h5 hy1 hy2 Q1 Q2
        obtain ⟨zs0, zs1, _, _, _⟩ := hOs_13.out
        go_wp2_with fail
        refine (K5.out _).mono ?_
        rintro e w' ⟨rfl, rfl⟩
        go_wp2_with fail
        refine (drawAddrPage_any A n c _ hn2 (HC.out _ hB13)).mono ?_
        rintro e w15 ⟨x6, rfl, h6, hb15⟩
        have hB15 := btr hB13 hb15
        have hS15 := hb15.size
        have hOs_15 := Lib.hid (hOs_13.out.below hb15 )
        clear hOs_13 hb15
        have hA1 := fun V : World => impl_addrP x6 V h6
        have hA2 := fun V : World => spec_addrP x6 V h6
        generalize addrP x6 = t6 at hA1 hA2
        have A1 := Lib.hid hA1
        have A2 := Lib.hid hA2
        clear hA1 hA2 h6
        go_wp2_with fail
        refine (drawAddrCell_any A n c _ hn2 (HC.out _ hB15)).mono ?_
        rintro e w16 ⟨x7, rfl, h7, hb16⟩
        have hB16 := btr hB15 hb16
        have hS16 := hb16.size
        have hOs_16 := Lib.hid (hOs_15.out.below hb16 )
        clear hOs_15 hb16
        have hA3 := fun V : World => impl_addrC x7 V h7
        have hA4 := fun V : World => spec_addrC x7 V h7
        generalize addrC x7 = t7 at hA3 hA4
        have A3 := Lib.hid hA3
        have A4 := Lib.hid hA4
        clear hA3 hA4 h7
        go_wp2_with fail
        refine (A1.out _).mono ?_
        rintro e w' ⟨rfl, rfl⟩
        go_wp2_with fail
        refine (A2.out _).mono ?_
        rintro e w' ⟨rfl, rfl⟩
        go_wp2_with fail
        refine (A3.out _).mono ?_
        rintro e w' ⟨rfl, rfl⟩
        go_wp2_with fail
        refine (A4.out _).mono ?_
        rintro e w' ⟨rfl, rfl⟩
        go_wp2_with fail
        refine (addrP11 _).mono ?_
        rintro e w' ⟨rfl, rfl⟩
        go_wp2_with fail
        refine (addrC11 _).mono ?_
        rintro e w' ⟨rfl, rfl⟩
        clear hOs_16
        go_wp2_with fail
        go_ret
        exact ⟨rfl, hB16⟩
      have hy1' : (y == 1) = false := by simpa using hy1
      have hy2' : (y == 2) = false := by simpa using hy2
      clear hy1 hy2 Q1 Q2
      obtain ⟨zs0, zs1, _, _, _⟩ := hOs_13.out
      go_wp2_with fail
      refine (drawAddrPage_any A n c _ hn2 (HC.out _ hB13)).mono ?_
      rintro e w14 ⟨x6, rfl, h6, hb14⟩
      have hB14 := btr hB13 hb14
      have hS14 := hb14.size
      have hOs_14 := Lib.hid (hOs_13.out.below hb14 )
      clear hOs_13 hb14
      have hA1 := fun V : World => impl_addrP x6 V h6
      have hA2 := fun V : World => spec_addrP x6 V h6
      generalize addrP x6 = t6 at hA1 hA2
      have A1 := Lib.hid hA1
      have A2 := Lib.hid hA2
      clear hA1 hA2 h6
      go_wp2_with fail
      refine (drawAddrCell_any A n c _ hn2 (HC.out _ hB14)).mono ?_
      rintro e w15 ⟨x7, rfl, h7, hb15⟩
      have hB15 := btr hB14 hb15
      have hS15 := hb15.size
      have hOs_15 := Lib.hid (hOs_14.out.below hb15 )
      clear hOs_14 hb15
      have hA3 := fun V : World => impl_addrC x7 V h7
      have hA4 := fun V : World => spec_addrC x7 V h7
      generalize addrC x7 = t7 at hA3 hA4
      have A3 := Lib.hid hA3
      have A4 := Lib.hid hA4
      clear hA3 hA4 h7
      go_wp2_with fail
      refine (A1.out _).mono ?_
      rintro e w' ⟨rfl, rfl⟩
      go_wp2_with fail
      refine (A2.out _).mono ?_
      rintro e w' ⟨rfl, rfl⟩
      go_wp2_with fail
      refine (A3.out _).mono ?_
      rintro e w' ⟨rfl, rfl⟩
      go_wp2_with fail
      refine (A4.out _).mono ?_
      rintro e w' ⟨rfl, rfl⟩
      go_wp2_with fail
      refine (addrP11 _).mono ?_
      rintro e w' ⟨rfl, rfl⟩
      go_wp2_with fail
      refine (addrC11 _).mono ?_
      rintro e w' ⟨rfl, rfl⟩
      clear hOs_15
      go_wp2_with fail
      go_ret
      exact ⟨rfl, hB15⟩
    · obtain rfl : p = -1 := Q1.out.resolve_left hk
      have hk' : (k == 0) = false := by simpa using hk
      by_cases hy1 : y = 1
      · have hno := fun h => hk ((Q2.out (.inl hy1)).1.2 h)
        by_cases hs1 : sx = -1
        · have hs1' : (sx != -1) = false := by simpa using hs1
          have hy1' : (y == 1) = true := by simpa using hy1
          clear hs1 hno hk hy1 Q1 Q2
          obtain ⟨zs0, zs1, _, _, _⟩ := hOs_13.out
          go_wp2_with fail
          refine (drawAddrPage_any A n c _ hn2 (HC.out _ hB13)).mono ?_
          rintro e w14 ⟨x6, rfl, h6, hb14⟩
          have hB14 := btr hB13 hb14
          have hS14 := hb14.size
          have hOs_14 := Lib.hid (hOs_13.out.below hb14 )
          clear hOs_13 hb14
          have hA1 := fun V : World => impl_addrP x6 V h6
          have hA2 := fun V : World => spec_addrP x6 V h6
          generalize addrP x6 = t6 at hA1 hA2
          have A1 := Lib.hid hA1
          have A2 := Lib.hid hA2
          clear hA1 hA2 h6
          go_wp2_with fail
          refine (drawAddrCell_any A n c _ hn2 (HC.out _ hB14)).mono ?_
          rintro e w15 ⟨x7, rfl, h7, hb15⟩
          have hB15 := btr hB14 hb15
          have hS15 := hb15.size
          have hOs_15 := Lib.hid (hOs_14.out.below hb15 )
          clear hOs_14 hb15
          have hA3 := fun V : World => impl_addrC x7 V h7
          have hA4 := fun V : World => spec_addrC x7 V h7
          generalize addrC x7 = t7 at hA3 hA4
          have A3 := Lib.hid hA3
          have A4 := Lib.hid hA4
          clear hA3 hA4 h7
          go_wp2_with fail
          refine (A1.out _).mono ?_
          rintro e w' ⟨rfl, rfl⟩
          go_wp2_with fail
          refine (A2.out _).mono ?_
          rintro e w' ⟨rfl, rfl⟩
          go_wp2_with fail
          refine (A3.out _).mono ?_
          rintro e w' ⟨rfl, rfl⟩
          go_wp2_with fail
          refine (A4.out _).mono ?_
          rintro e w' ⟨rfl, rfl⟩
          go_wp2_with fail
          refine (addrP11 _).mono ?_
          rintro e w' ⟨rfl, rfl⟩
          go_wp2_with fail
          refine (addrC11 _).mono ?_
          rintro e w' ⟨rfl, rfl⟩
          clear hOs_15
          go_wp2_with fail
          go_ret
          exact ⟨rfl, hB15⟩
        · have h4 : Rights.enough sy y = false := by
            cases he : Rights.enough sy y
            · rfl
            · exact absurd ⟨hs1, he⟩ hno
          have h5 := fun V : World => K5.out V
          rw [h4] at h5
          have K5 := Lib.hid h5
          have hs1' : (sx != -1) = true := by simpa using hs1
          have hy1' : (y == 1) = true := by simpa using hy1
          clear hs1 hno hk h4 h5 hy1 Q1 Q2
          obtain ⟨zs0, zs1, _, _, _⟩ := hOs_13.out
          go_wp2_with fail
          refine (K5.out _).mono ?_
          rintro e w' ⟨rfl, rfl⟩
          go_wp2_with fail
          refine (drawAddrPage_any A n c _ hn2 (HC.out _ hB13)).mono ?_
          rintro e w15 ⟨x6, rfl, h6, hb15⟩
          have hB15 := btr hB13 hb15
          have hS15 := hb15.size
          have hOs_15 := Lib.hid (hOs_13.out.below hb15 )
          clear hOs_13 hb15
          have hA1 := fun V : World => impl_addrP x6 V h6
          have hA2 := fun V : World => spec_addrP x6 V h6
          generalize addrP x6 = t6 at hA1 hA2
          have A1 := Lib.hid hA1
          have A2 := Lib.hid hA2
          clear hA1 hA2 h6
          go_wp2_with fail
          refine (drawAddrCell_any A n c _ hn2 (HC.out _ hB15)).mono ?_
          rintro e w16 ⟨x7, rfl, h7, hb16⟩
          have hB16 := btr hB15 hb16
          have hS16 := hb16.size
          have hOs_16 := Lib.hid (hOs_15.out.below hb16 )
          clear hOs_15 hb16
          have hA3 := fun V : World => impl_addrC x7 V h7
          have hA4 := fun V : World => spec_addrC x7 V h7
          generalize addrC x7 = t7 at hA3 hA4
          have A3 := Lib.hid hA3
          have A4 := Lib.hid hA4
          clear hA3 hA4 h7
          go_wp2_with fail
          refine (A1.out _).mono ?_
          rintro e w' ⟨rfl, rfl⟩
          go_wp2_with fail
          refine (A2.out _).mono ?_
          rintro e w' ⟨rfl, rfl⟩
          go_wp2_with fail
          refine (A3.out _).mono ?_
          rintro e w' ⟨rfl, rfl⟩
          go_wp2_with fail
          refine (A4.out _).mono ?_
          rintro e w' ⟨rfl, rfl⟩
          go_wp2_with fail
          refine (addrP11 _).mono ?_
          rintro e w' ⟨rfl, rfl⟩
          go_wp2_with fail
          refine (addrC11 _).mono ?_
          rintro e w' ⟨rfl, rfl⟩
          clear hOs_16
          go_wp2_with fail
          go_ret
          exact ⟨rfl, hB16⟩
      by_cases hy2 : y = 2
      · have hno := fun h => hk ((Q2.out (.inr hy2)).1.2 h)
        by_cases hs1 : sx = -1
        · have hs1' : (sx != -1) = false := by simpa using hs1
          have hy1' : (y == 1) = false := by simpa using hy1
          have hy2' : (y == 2) = true := by simpa using hy2
          clear hs1 hno hk hy1 hy2 Q1 Q2
          obtain ⟨zs0, zs1, _, _, _⟩ := hOs_13.out
          go_wp2_with fail
          refine (drawAddrPage_any A n c _ hn2 (HC.out _ hB13)).mono ?_
          rintro e w14 ⟨x6, rfl, h6, hb14⟩
          have hB14 := btr hB13 hb14
          have hS14 := hb14.size
          have hOs_14 := Lib.hid (hOs_13.out.below hb14 )
          clear hOs_13 hb14
          have hA1 := fun V : World => impl_addrP x6 V h6
          have hA2 := fun V : World => spec_addrP x6 V h6
          generalize addrP x6 = t6 at hA1 hA2
          have A1 := Lib.hid hA1
          have A2 := Lib.hid hA2
          clear hA1 hA2 h6
          go_wp2_with fail
          refine (drawAddrCell_any A n c _ hn2 (HC.out _ hB14)).mono ?_
          rintro e w15 ⟨x7, rfl, h7, hb15⟩
          have hB15 := btr hB14 hb15
          have hS15 := hb15.size
          have hOs_15 := Lib.hid (hOs_14.out.below hb15 )
          clear hOs_14 hb15
          have hA3 := fun V : World => impl_addrC x7 V h7
          have hA4 := fun V : World => spec_addrC x7 V h7
          generalize addrC x7 = t7 at hA3 hA4
          have A3 := Lib.hid hA3
          have A4 := Lib.hid hA4
          clear hA3 hA4 h7
          go_wp2_with fail
          refine (A1.out _).mono ?_
          rintro e w' ⟨rfl, rfl⟩
          go_wp2_with fail
          refine (A2.out _).mono ?_
          rintro e w' ⟨rfl, rfl⟩
          go_wp2_with fail
          refine (A3.out _).mono ?_
          rintro e w' ⟨rfl, rfl⟩
          go_wp2_with fail
          refine (A4.out _).mono ?_
          rintro e w' ⟨rfl, rfl⟩
          go_wp2_with fail
          refine (addrP11 _).mono ?_
          rintro e w' ⟨rfl, rfl⟩
          go_wp2_with fail
          refine (addrC11 _).mono ?_
          rintro e w' ⟨rfl, rfl⟩
          clear hOs_15
          go_wp2_with fail
          go_ret
          exact ⟨rfl, hB15⟩
        · have h4 : Rights.enough sy y = false := by
            cases he : Rights.enough sy y
            · rfl
            · exact absurd ⟨hs1, he⟩ hno
          have h5 := fun V : World => K5.out V
          rw [h4] at h5
          have K5 := Lib.hid h5
          have hs1' : (sx != -1) = true := by simpa using hs1
          have hy1' : (y == 1) = false := by simpa using hy1
          have hy2' : (y == 2) = true := by simpa using hy2
          clear hs1 hno hk h4 h5 hy1 hy2 Q1 Q2
          obtain ⟨zs0, zs1, _, _, _⟩ := hOs_13.out
          go_wp2_with fail
          refine (K5.out _).mono ?_
          rintro e w' ⟨rfl, rfl⟩
          go_wp2_with fail
          refine (drawAddrPage_any A n c _ hn2 (HC.out _ hB13)).mono ?_
          rintro e w15 ⟨x6, rfl, h6, hb15⟩
          have hB15 := btr hB13 hb15
          have hS15 := hb15.size
          have hOs_15 := Lib.hid (hOs_13.out.below hb15 )
          clear hOs_13 hb15
          have hA1 := fun V : World => impl_addrP x6 V h6
          have hA2 := fun V : World => spec_addrP x6 V h6
          generalize addrP x6 = t6 at hA1 hA2
          have A1 := Lib.hid hA1
          have A2 := Lib.hid hA2
          clear hA1 hA2 h6
          go_wp2_with fail
          refine (drawAddrCell_any A n c _ hn2 (HC.out _ hB15)).mono ?_
          rintro e w16 ⟨x7, rfl, h7, hb16⟩
          have hB16 := btr hB15 hb16
          have hS16 := hb16.size
          have hOs_16 := Lib.hid (hOs_15.out.below hb16 )
          clear hOs_15 hb16
          have hA3 := fun V : World => impl_addrC x7 V h7
          have hA4 := fun V : World => spec_addrC x7 V h7
          generalize addrC x7 = t7 at hA3 hA4
          have A3 := Lib.hid hA3
          have A4 := Lib.hid hA4
          clear hA3 hA4 h7
          go_wp2_with fail
          refine (A1.out _).mono ?_
          rintro e w' ⟨rfl, rfl⟩
          go_wp2_with fail
          refine (A2.out _).mono ?_
          rintro e w' ⟨rfl, rfl⟩
          go_wp2_with fail
          refine (A3.out _).mono ?_
          rintro e w' ⟨rfl, rfl⟩
          go_wp2_with fail
          refine (A4.out _).mono ?_
          rintro e w' ⟨rfl, rfl⟩
          go_wp2_with fail
          refine (addrP11 _).mono ?_
          rintro e w' ⟨rfl, rfl⟩
          go_wp2_with fail
          refine (addrC11 _).mono ?_
          rintro e w' ⟨rfl, rfl⟩
          clear hOs_16
          go_wp2_with fail
          go_ret
          exact ⟨rfl, hB16⟩
      have hy1' : (y == 1) = false := by simpa using hy1
      have hy2' : (y == 2) = false := by simpa using hy2
      clear hy1 hy2 hk Q1 Q2
      obtain ⟨zs0, zs1, _, _, _⟩ := hOs_13.out
      go_wp2_with fail
      refine (drawAddrPage_any A n c _ hn2 (HC.out _ hB13)).mono ?_
      rintro e w14 ⟨x6, rfl, h6, hb14⟩
      have hB14 := btr hB13 hb14
      have hS14 := hb14.size
      have hOs_14 := Lib.hid (hOs_13.out.below hb14 )
      clear hOs_13 hb14
      have hA1 := fun V : World => impl_addrP x6 V h6
      have hA2 := fun V : World => spec_addrP x6 V h6
      generalize addrP x6 = t6 at hA1 hA2
      have A1 := Lib.hid hA1
      have A2 := Lib.hid hA2
      clear hA1 hA2 h6
      go_wp2_with fail
      refine (drawAddrCell_any A n c _ hn2 (HC.out _ hB14)).mono ?_
      rintro e w15 ⟨x7, rfl, h7, hb15⟩
      have hB15 := btr hB14 hb15
      have hS15 := hb15.size
      have hOs_15 := Lib.hid (hOs_14.out.below hb15 )
      clear hOs_14 hb15
      have hA3 := fun V : World => impl_addrC x7 V h7
      have hA4 := fun V : World => spec_addrC x7 V h7
      generalize addrC x7 = t7 at hA3 hA4
      have A3 := Lib.hid hA3
      have A4 := Lib.hid hA4
      clear hA3 hA4 h7
      go_wp2_with fail
      refine (A1.out _).mono ?_
      rintro e w' ⟨rfl, rfl⟩
      go_wp2_with fail
      refine (A2.out _).mono ?_
      rintro e w' ⟨rfl, rfl⟩
      go_wp2_with fail
      refine (A3.out _).mono ?_
      rintro e w' ⟨rfl, rfl⟩
      go_wp2_with fail
      refine (A4.out _).mono ?_
      rintro e w' ⟨rfl, rfl⟩
      go_wp2_with fail
      refine (addrP11 _).mono ?_
      rintro e w' ⟨rfl, rfl⟩
      go_wp2_with fail
      refine (addrC11 _).mono ?_
      rintro e w' ⟨rfl, rfl⟩
      clear hOs_15
      go_wp2_with fail
      go_ret
      exact ⟨rfl, hB15⟩

/-! ### The row's step, and the card -/
theorem contract (H : Type) (enc : TypeId × Value → H) (W : World) (base : Nat) (args : Array Value) (ds gs : List (DataW H)) (before : List MemPlace)
    (hval : ∀ (j : Nat) t v, Tryd.f3.params[j]? = some t → args[j]? = some v → Value.okWide Tryd.prog W .any base t v)
    (hW : DataW.Whole enc Tryd.prog Tryd.f3.params.toList Rows.fnWalksSpec.vars false W args.toList ds gs before) (hL : laidMetH Tryd.prog Rows.fnWalksRow.laid W) :
    Calls Tryd.prog 3 args W fun e W' => ∃ v, e = .returned v ∧ Rows.fnWalksSpec.post enc Tryd.prog Tryd.f3 false true false false W args v W' := by
  obtain ⟨z0, z1, hs, hv0, hv1⟩ := LaidW.both hL
  have hW' := hW
  obtain ⟨p, q, hA0, hV0, rfl, hfz, hnd⟩ := hW
  have hA : DataW.TrodAll enc Tryd.prog W 0 (fun _ => true) true Tryd.f3.params.toList args.toList ds p := hA0
  have hA1 := hA
  obtain ⟨rfl, rfl⟩ := DataW.TrodVars.unique hV0 (LaidW.read2 enc hv0 hv1 _)
  rw [Tryd.params3] at hA hval
  obtain ⟨v0, vs0, d0, ds0, p0, q0, hargs, rfl, rfl, h0, r0⟩ := trodAll_cons hA
  obtain ⟨rfl, rfl, rfl⟩ := trodAll_nil r0
  obtain rfl : args = #[v0] := by cases args; simp_all
  obtain ⟨A0, n0, c0, rfl, hn0, hcode0, _⟩ := Draw.open_code (hval 0 22 v0 rfl rfl) h0
  clear hA0 hV0
  refine (walk A0 n0 c0 hn0 hcode0 z0 z1 hs).mono fun e W' ⟨he, hg⟩ => ?_
  subst he
  exact ⟨_, rfl, LaidW.post_vars Slots.laid (by kernel_rfl) rfl rfl hW' hA1 hg (fun sp => LaidW.read2 enc (LaidW.var_below hv0 hg) (LaidW.var_below hv1 hg) sp) (fun _ _ _ => (trodAll_cons_mk (shut_bool Tryd.underlying4 _) trodAll_mk0)) (ok_one (by kernel_rfl) rfl (okWide_bool_mk Tryd.underlying4 _))⟩

theorem laid_met (os : Os) : laidMet Tryd.prog Rows.fnWalksRow.laid ((World.laidAll Tryd.prog os Rows.fnWalksRow.laid).forCall (fun _ _ => 0) ⟨#[], #[.slice none 0 0], []⟩).memory :=
  laidMet_laidAll _ (by kernel_rfl) (by kernel_rfl)

set_option maxRecDepth 100000 in
theorem lifted (os : Os) (started : os.Started) (H : Type) (enc : TypeId × Value → H) (F : Stop.Interp) :
    ReturnsInHanded {} Tryd.checked os 3 .any ((OpenSpec.ofChange Rows.fnWalksSpec).preRow enc Tryd.prog Tryd.f3 Rows.fnWalksRow.domain false Rows.fnWalksRow.laid) (((OpenSpec.ofChange Rows.fnWalksSpec).at F).post enc Tryd.prog Tryd.f3 false true false false) := by
  refine returnsInHanded_of_row (C := Tryd.checked) (s := OpenSpec.ofChange Rows.fnWalksSpec) Base.own started (by kernel_rfl) Tryd.func3
    (witness_row_atRef (enc := enc) (C := Tryd.checked) false (World.laidAll Tryd.prog os Rows.fnWalksRow.laid) #[.slice none 0 0] (World.laidAll_os _ _ _) (by kernel_rfl) (by kernel_rfl) (by kernel_rfl)
      (OpenSpec.preRow_of_B rfl 8 (by kernel_rfl) (by kernel_rfl) (laid_met os))) ?_
  intro W base args ds gs before hval hW _ _ _ hL _ _
  exact contract H enc W base args ds gs before hval hW hL

theorem said : Rows.FnWalksSaid :=
  OpenClaim.holds_of_cond 3 Tryd.f3 rfl rfl rfl rfl rfl rfl rfl ⟨rfl, rfl, rfl, rfl, rfl⟩ rfl rfl rfl rfl rfl (by kernel_rfl) Tryd.func3 (by kernel_rfl)
    (of_decide_eq_true (by kernel_rfl)) (by unfold Func.isWrapper; first | (rw [if_pos (by decide +kernel)]; kernel_rfl) | (rw [if_neg (by decide +kernel)]; exact ⟨rfl, rfl⟩))
    (fun os started H enc _ F => by rw [OpenClaim.pre_eq_preRow]; exact lifted os started H enc F)

theorem plain (f : FuncId) (fn : Func) (hf : Tryd.pinned.checked.prog.funcNamed "loop.example/g00975/laws.FnWalks" = some f) (hfn : Tryd.pinned.checked.prog.funcs[f]? = some fn) :
    true = Tryd.pinned.checked.prog.looks [] ∧ ∀ (j : Nat) t, fn.params[j]? = some t → Tryd.pinned.checked.prog.wantsStandIn t = false := by
  obtain rfl : f = 3 := Option.some.inj ((show Tryd.prog.funcNamed "loop.example/g00975/laws.FnWalks" = some 3 by kernel_rfl).symm.trans hf) |>.symm
  obtain rfl : fn = Tryd.f3 := (Option.some.inj (Tryd.func3.symm.trans hfn)).symm
  refine ⟨by kernel_rfl, fun j t ht => ?_⟩
  have hall : Tryd.f3.params.toList.all (fun t => !Tryd.prog.wantsStandIn t) = true := by kernel_rfl
  have hm := List.all_eq_true.1 hall t (by simpa using Array.mem_of_getElem? ht)
  exact (show Tryd.prog.wantsStandIn t = false by simpa using hm)

/-- The given statement: the card. -/
theorem proved : Rows.FnWalksCardSaid :=
  Claim7.holds_tied_plain_at .later [] _ _ _ _ said (fun _ h => by cases h) (by kernel_rfl) (fun _ h => by cases h) fnWalks_row_tie rfl ⟨rfl, rfl⟩ (by kernel_rfl) rfl plain (by kernel_rfl)
#print axioms proved
end Go.Proofs.YtilgkknmldlklaaDoor.fnWalks
