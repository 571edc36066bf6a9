/-
  For every input the law FnPages returns true: WithPage, PageAt, MemOk, PageOk, SameMem and MemNew answer as the given model's at drawn arguments; a page that was put is there, and all others are as they were. No condition.
-/
import Derived.Test.YtkbcmeachfplnaaGridDraws
import Derived.Test.YtkbcmeachfplnaaSizes
import Derived.Test.YtkbcmeachfplnaaGridArgs
import Derived.Test.YtkbcmeachfplnaaBig
namespace Go.Proofs.Ytkbcmeachfplnaa.fnPages
open Go.ChangeShapes Go.WideShapes Go.ChangeAt Go.RowKit
open Go.Proofs.Ytkbcmeachfplnaa.Base Go.Proofs.Ytkbcmeachfplnaa.Mem Go.Proofs.Ytkbcmeachfplnaa.Ints Go.Proofs.Ytkbcmeachfplnaa.Grid Go.Proofs.Ytkbcmeachfplnaa.Draw Go.Proofs.Ytkbcmeachfplnaa.GDraw
set_option linter.unusedVariables false
set_option linter.unusedSimpArgs false

theorem withP_len (M : List (List Int)) (page : Int) (l : List Int) : (withP M page l).length = M.length := by
  unfold withP
  split <;> simp
theorem page_other {M : List (List Int)} {page : Int} {l : List Int} {k : Nat} (hk : k < M.length) (h : (k : Int) ≠ page) : pageAt (withP M page l) (k : Int) = M[k] := by
  have hkl : k < (withP M page l).length := by rw [withP_len]; exact hk
  rw [pageAt_yes hkl]
  by_cases hc : hasPB M.length page = true ∧ pageB l = true
  · obtain ⟨k', rfl, hk'⟩ := hasPB_yes hc.1
    have e : k' ≠ k := fun e => h (by rw [e])
    simp only [withP_yes hk' hc.2]
    rw [List.getElem_set_ne e]
  · simp only [withP_no (by simpa [Decidable.imp_iff_not_or] using hc)]
theorem page_same {M : List (List Int)} {page : Int} {l : List Int} (h0 : 0 ≤ page) (h1 : page < M.length) (h : pageB l = true) : pageAt (withP M page l) page = l := by
  obtain ⟨k, rfl⟩ := Int.eq_ofNat_of_zero_le h0
  have hk : k < M.length := by omega
  have hkl : k < (withP M (k : Int) l).length := by rw [withP_len]; exact hk
  rw [pageAt_yes hkl]
  simp only [withP_yes hk h]
  rw [List.getElem_set_self]
theorem zeros_ok : memB (zeros 3) 3 = true := rfl

set_option maxRecDepth 100000 in
set_option maxHeartbeats 16000000 in
theorem walk (A : Option Addr) (n c : Nat) (hn : n ≤ 9223372036854775807) {w : World} (hcode : CodeAt w A n) :
    Calls Try.prog 4 #[.slice A n c] w fun e w' => e = .returned (.bool true) ∧ Below w.heap.size w w' := by
  by_cases hbig : 1048576 < n
  · clear hcode
    go_enter Try.func4, Try.ntmps4
    go_wp2_with fail
    refine (big_yes A n c _ hn hbig).mono ?_
    rintro e w' ⟨rfl, rfl⟩
    go_wp2_with fail
    go_ret
    exact ⟨rfl, Below.refl _ _⟩
  have hn2 : n ≤ 1048576 := by omega
  have HC := Lib.hid hcode
  clear hcode hbig hn
  go_enter Try.func4, Try.ntmps4
  go_wp2_with fail
  refine (big_no A n c _ hn2).mono ?_
  rintro e w' ⟨rfl, rfl⟩
  go_wp2_with fail
  refine (drawWithPage_any A n c _ hn2 (HC.out.below (Below.refl _ _))).mono ?_
  rintro e w1 ⟨X1, m1, d1, M, gs1, page, Y1, j1, f1, l, rfl, hG1, hL1, hb1⟩
  have hB1 := btr (Below.refl _ _) hb1
  have hS1 := hb1.size
  have hOM_1 := Lib.hid hG1
  have hOL_1 := Lib.hid hL1
  have HLM := Lib.hid hG1.1
  have HLl := Lib.hid hL1.1
  have HCM := Lib.hid hG1.cap
  have HSM := Lib.hid hG1.2.2.1
  have hm3 : m1 ≤ 3 := hG1.2.1
  have hj5 : j1 ≤ 1048576 := Nat.le_trans hL1.2.1 (by omega)
  clear hG1 hL1 hb1
  have hcu := withP_cap M page l (small_tot (by rw [HLM.out]; exact hm3) HSM.out)
  have hlu := withP_len M page l
  rw [HLM.out] at hlu
  have hO := fun (k : Nat) (hk : k < M.length) (h : (k : Int) ≠ page) => page_other (l := l) hk h
  have hS := fun (h0 : 0 ≤ page) (h1 : page < M.length) (h : pageB l = true) => page_same (M := M) h0 h1 h
  have hK1 := fun (V : World) (hM : Gr V w.heap.size X1 m1 M gs1) (hL : Li V w.heap.size Y1 j1 l) => impl_withP X1 m1 d1 _ page M gs1 Y1 j1 f1 _ l V HCM.out HLM.out hM.2.2.2 hj5 HLl.out hL.2.2
  have hK2 := fun (V : World) (hM : Gr V w.heap.size X1 m1 M gs1) (hL : Li V w.heap.size Y1 j1 l) => spec_withP X1 m1 d1 _ page M gs1 Y1 j1 f1 _ l V HCM.out HLM.out hM.2.2.2 hj5 HLl.out hL.2.2
  generalize withP M page l = U at hcu hlu hO hS hK1 hK2
  have HCU := Lib.hid hcu
  have HLU := Lib.hid hlu
  have HOt := Lib.hid hO
  have HSm := Lib.hid hS
  have HK1 := Lib.hid hK1
  have HK2 := Lib.hid hK2
  clear hcu hlu hO hS hK1 hK2
  go_wp2_with fail
  refine (HK1.out _ hOM_1.out hOL_1.out).mono ?_
  rintro e w2 ⟨X2, m2, d2, qs2, rfl, hx2, ho2, hb2⟩
  obtain rfl : m1 = m2 := by have := HLU.out; omega
  have hB2 := btr hB1 hb2
  have hS2 := hb2.size
  have hOM_2 := Lib.hid (hOM_1.out.below hb2 )
  have hOL_2 := Lib.hid (hOL_1.out.below hb2 )
  have hOU_2 := Lib.hid (ho2.rg)
  clear hOM_1 hOL_1 ho2 hb2
  (try clear hx2)
  go_wp2_with fail
  refine (drawPageAt_any A n c _ hn2 (HC.out.below hB2)).mono ?_
  rintro e w3 ⟨X3, m3, d3, M3, gs3, p3, rfl, hG3, hb3⟩
  have hB3 := btr hB2 hb3
  have hS3 := hb3.size
  have hOM_3 := Lib.hid (hOM_2.out.below hb3 )
  have hOL_3 := Lib.hid (hOL_2.out.below hb3 )
  have hOU_3 := Lib.hid (hOU_2.out.below hb3 (by omega))
  have hOa_3 := Lib.hid hG3
  clear hOM_2 hOL_2 hOU_2 hG3 hb3
  go_wp2_with fail
  refine (drawMemOk_any A n c _ hn2 (HC.out.below hB3)).mono ?_
  rintro e w4 ⟨X4, m4, d4, M4, gs4, p4, rfl, hG4, hb4⟩
  have hB4 := btr hB3 hb4
  have hS4 := hb4.size
  have hOM_4 := Lib.hid (hOM_3.out.below hb4 )
  have hOL_4 := Lib.hid (hOL_3.out.below hb4 )
  have hOU_4 := Lib.hid (hOU_3.out.below hb4 (by omega))
  have hOa_4 := Lib.hid (hOa_3.out.below hb4 )
  have hOb_4 := Lib.hid hG4
  clear hOM_3 hOL_3 hOU_3 hOa_3 hG4 hb4
  go_wp2_with fail
  refine (drawPageOk_any A n c _ hn2 (HC.out.below hB4)).mono ?_
  rintro e w5 ⟨X5, m5, d5, l5, rfl, hG5, hb5⟩
  have hB5 := btr hB4 hb5
  have hS5 := hb5.size
  have hOM_5 := Lib.hid (hOM_4.out.below hb5 )
  have hOL_5 := Lib.hid (hOL_4.out.below hb5 )
  have hOU_5 := Lib.hid (hOU_4.out.below hb5 (by omega))
  have hOa_5 := Lib.hid (hOa_4.out.below hb5 )
  have hOb_5 := Lib.hid (hOb_4.out.below hb5 )
  have hOc_5 := Lib.hid hG5
  clear hOM_4 hOL_4 hOU_4 hOa_4 hOb_4 hG5 hb5
  go_wp2_with fail
  refine (drawSameMem_any A n c _ hn2 (HC.out.below hB5)).mono ?_
  rintro e w6 ⟨X6, m6, d6, M6, gs6, Y6, j6, f6, N6, hs6s, rfl, hG6, hL6, hb6⟩
  have hB6 := btr hB5 hb6
  have hS6 := hb6.size
  have hOM_6 := Lib.hid (hOM_5.out.below hb6 )
  have hOL_6 := Lib.hid (hOL_5.out.below hb6 )
  have hOU_6 := Lib.hid (hOU_5.out.below hb6 (by omega))
  have hOa_6 := Lib.hid (hOa_5.out.below hb6 )
  have hOb_6 := Lib.hid (hOb_5.out.below hb6 )
  have hOc_6 := Lib.hid (hOc_5.out.below hb6 )
  have hOd_6 := Lib.hid hG6
  have hOe_6 := Lib.hid hL6
  clear hOM_5 hOL_5 hOU_5 hOa_5 hOb_5 hOc_5 hG6 hL6 hb6
  go_wp2_with fail
  refine (drawMemNew_any A n c _ hn2 (HC.out.below hB6)).mono ?_
  rintro e w7 ⟨⟨xn, rfl⟩, hb7⟩
  have hB7 := btr hB6 hb7
  have hS7 := hb7.size
  have hOM_7 := Lib.hid (hOM_6.out.below hb7 )
  have hOL_7 := Lib.hid (hOL_6.out.below hb7 )
  have hOU_7 := Lib.hid (hOU_6.out.below hb7 (by omega))
  have hOa_7 := Lib.hid (hOa_6.out.below hb7 )
  have hOb_7 := Lib.hid (hOb_6.out.below hb7 )
  have hOc_7 := Lib.hid (hOc_6.out.below hb7 )
  have hOd_7 := Lib.hid (hOd_6.out.below hb7 )
  have hOe_7 := Lib.hid (hOe_6.out.below hb7 )
  clear hOM_6 hOL_6 hOU_6 hOa_6 hOb_6 hOc_6 hOd_6 hOe_6 hb7
  go_wp2_with fail
  refine (HK2.out _ hOM_7.out hOL_7.out).mono ?_
  rintro e w8 ⟨X8, m8, d8, qs8, rfl, hx8, ho8, hb8⟩
  obtain rfl : m1 = m8 := by have := HLU.out; omega
  have hB8 := btr hB7 hb8
  have hS8 := hb8.size
  have hOM_8 := Lib.hid (hOM_7.out.below hb8 )
  have hOL_8 := Lib.hid (hOL_7.out.below hb8 )
  have hOU_8 := Lib.hid (hOU_7.out.below hb8 (by omega))
  have hOa_8 := Lib.hid (hOa_7.out.below hb8 )
  have hOb_8 := Lib.hid (hOb_7.out.below hb8 )
  have hOc_8 := Lib.hid (hOc_7.out.below hb8 )
  have hOd_8 := Lib.hid (hOd_7.out.below hb8 )
  have hOe_8 := Lib.hid (hOe_7.out.below hb8 )
  have hOV_8 := Lib.hid (ho8.rg)
  clear hOM_7 hOL_7 hOU_7 hOa_7 hOb_7 hOc_7 hOd_7 hOe_7 ho8 hb8
  (try clear hx8)
  go_wp2_with fail
  refine (SameP.yes (law_sameMem X2 X8 m1 m1 d2 d8 _ _ _ _ U U qs2 qs8 _ HCU.out HCU.out HLU.out HLU.out hOU_8.out hOV_8.out) rfl).mono ?_
  rintro e w9 ⟨rfl, hd9⟩
  have hb9 := Drawn.below hd9
  have hB9 := btr hB8 hb9
  have hS9 := hb9.size
  have hOM_9 := Lib.hid (hOM_8.out.below hb9 )
  have hOL_9 := Lib.hid (hOL_8.out.below hb9 )
  have hOU_9 := Lib.hid (hOU_8.out.below hb9 (by omega))
  have hOa_9 := Lib.hid (hOa_8.out.below hb9 )
  have hOb_9 := Lib.hid (hOb_8.out.below hb9 )
  have hOc_9 := Lib.hid (hOc_8.out.below hb9 )
  have hOd_9 := Lib.hid (hOd_8.out.below hb9 )
  have hOe_9 := Lib.hid (hOe_8.out.below hb9 )
  have hOV_9 := Lib.hid (hOV_8.out.below hb9 (by omega))
  clear hOM_8 hOL_8 hOU_8 hOa_8 hOb_8 hOc_8 hOd_8 hOe_8 hOV_8 hb9 hd9
  clear hOV_9
  have hlen := pageAt_len M3 p3 hOa_9.out.cap
  have hK3 := fun (V : World) (lo : Nat) (h : Gr V lo X3 m3 M3 gs3) => impl_pageAt X3 m3 d3 _ p3 M3 gs3 V h.cap h.1 h.2.2.2
  have hK4 := fun (V : World) (lo : Nat) (h : Gr V lo X3 m3 M3 gs3) => spec_pageAt X3 m3 d3 _ p3 M3 gs3 V h.cap h.1 h.2.2.2
  generalize pageAt M3 p3 = z at hlen hK3 hK4
  have HLz := Lib.hid hlen
  have HK3 := Lib.hid hK3
  have HK4 := Lib.hid hK4
  clear hlen hK3 hK4
  go_wp2_with fail
  refine (HK3.out _ _ hOa_9.out).mono ?_
  rintro e w10 ⟨X10, m10, d10, rfl, hx10, ho10, hb10⟩
  obtain rfl : z.length = m10 := hx10
  have hB10 := btr hB9 hb10
  have hS10 := hb10.size
  have hOM_10 := Lib.hid (hOM_9.out.below hb10 )
  have hOL_10 := Lib.hid (hOL_9.out.below hb10 )
  have hOU_10 := Lib.hid (hOU_9.out.below hb10 (by omega))
  have hOa_10 := Lib.hid (hOa_9.out.below hb10 )
  have hOb_10 := Lib.hid (hOb_9.out.below hb10 )
  have hOc_10 := Lib.hid (hOc_9.out.below hb10 )
  have hOd_10 := Lib.hid (hOd_9.out.below hb10 )
  have hOe_10 := Lib.hid (hOe_9.out.below hb10 )
  have hOz1_10 := Lib.hid (ho10.1)
  clear hOM_9 hOL_9 hOU_9 hOa_9 hOb_9 hOc_9 hOd_9 hOe_9 ho10 hb10
  (try clear hx10)
  go_wp2_with fail
  refine (HK4.out _ _ hOa_10.out).mono ?_
  rintro e w11 ⟨X11, m11, d11, rfl, hx11, ho11, hb11⟩
  obtain rfl : z.length = m11 := hx11
  have hB11 := btr hB10 hb11
  have hS11 := hb11.size
  have hOM_11 := Lib.hid (hOM_10.out.below hb11 )
  have hOL_11 := Lib.hid (hOL_10.out.below hb11 )
  have hOU_11 := Lib.hid (hOU_10.out.below hb11 (by omega))
  have hOa_11 := Lib.hid (hOa_10.out.below hb11 )
  have hOb_11 := Lib.hid (hOb_10.out.below hb11 )
  have hOc_11 := Lib.hid (hOc_10.out.below hb11 )
  have hOd_11 := Lib.hid (hOd_10.out.below hb11 )
  have hOe_11 := Lib.hid (hOe_10.out.below hb11 )
  have hOz1_11 := Lib.hid (hOz1_10.out.below hb11 (by omega))
  have hOz2_11 := Lib.hid (ho11.1)
  clear hOM_10 hOL_10 hOU_10 hOa_10 hOb_10 hOc_10 hOd_10 hOe_10 hOz1_10 ho11 hb11
  (try clear hx11)
  go_wp2_with fail
  refine (SameP.yes (law_ints X10 X11 z.length z.length d10 d11 _ _ _ _ z z _ HLz.out HLz.out rfl rfl hOz1_11.out hOz2_11.out) rfl).mono ?_
  rintro e w12 ⟨rfl, hd12⟩
  have hb12 := Drawn.below hd12
  have hB12 := btr hB11 hb12
  have hS12 := hb12.size
  have hOM_12 := Lib.hid (hOM_11.out.below hb12 )
  have hOL_12 := Lib.hid (hOL_11.out.below hb12 )
  have hOU_12 := Lib.hid (hOU_11.out.below hb12 (by omega))
  have hOa_12 := Lib.hid (hOa_11.out.below hb12 )
  have hOb_12 := Lib.hid (hOb_11.out.below hb12 )
  have hOc_12 := Lib.hid (hOc_11.out.below hb12 )
  have hOd_12 := Lib.hid (hOd_11.out.below hb12 )
  have hOe_12 := Lib.hid (hOe_11.out.below hb12 )
  have hOz1_12 := Lib.hid (hOz1_11.out.below hb12 (by omega))
  have hOz2_12 := Lib.hid (hOz2_11.out.below hb12 (by omega))
  clear hOM_11 hOL_11 hOU_11 hOa_11 hOb_11 hOc_11 hOd_11 hOe_11 hOz1_11 hOz2_11 hb12 hd12
  clear hOz1_12
  clear hOz2_12
  clear hOa_12
  have hK5 := fun (V : World) (lo : Nat) (h : Gr V lo X4 m4 M4 gs4) => impl_memOk X4 m4 d4 _ _ p4 M4 gs4 V h.cap h.1 h.2.2.2
  have hK6 := fun (V : World) (lo : Nat) (h : Gr V lo X4 m4 M4 gs4) => spec_memOk X4 m4 d4 _ _ p4 M4 gs4 V h.cap h.1 h.2.2.2
  generalize memB M4 p4 = b1 at hK5 hK6
  have HK5 := Lib.hid hK5
  have HK6 := Lib.hid hK6
  clear hK5 hK6
  go_wp2_with fail
  refine (HK5.out _ _ hOb_12.out).mono ?_
  rintro e w' ⟨rfl, rfl⟩
  go_wp2_with fail
  refine (HK6.out _ _ hOb_12.out).mono ?_
  rintro e w' ⟨rfl, rfl⟩
  clear hOb_12
  have hK7 := fun (V : World) (lo : Nat) (h : Li V lo X5 m5 l5) => impl_pageOk X5 m5 d5 _ _ l5 V (Nat.le_trans h.2.1 (by omega)) h.1 h.2.2
  have hK8 := fun (V : World) (lo : Nat) (h : Li V lo X5 m5 l5) => spec_pageOk X5 m5 d5 _ _ l5 V (Nat.le_trans h.2.1 (by omega)) h.1 h.2.2
  generalize pageB l5 = b2 at hK7 hK8
  have HK7 := Lib.hid hK7
  have HK8 := Lib.hid hK8
  clear hK7 hK8
  go_wp2_with fail
  refine (HK7.out _ _ hOc_12.out).mono ?_
  rintro e w' ⟨rfl, rfl⟩
  go_wp2_with fail
  refine (HK8.out _ _ hOc_12.out).mono ?_
  rintro e w' ⟨rfl, rfl⟩
  clear hOc_12
  have hK9 := fun (V : World) (lo : Nat) (h : Gr V lo X6 m6 M6 gs6) (lo' : Nat) (h' : Gr V lo' Y6 j6 N6 hs6s) => impl_sameMem X6 Y6 m6 j6 d6 f6 _ _ _ _ M6 N6 gs6 hs6s V h.cap h'.cap h.1 h'.1 h.2.2.2 h'.2.2.2
  have hK10 := fun (V : World) (lo : Nat) (h : Gr V lo X6 m6 M6 gs6) (lo' : Nat) (h' : Gr V lo' Y6 j6 N6 hs6s) => law_sameMem X6 Y6 m6 j6 d6 f6 _ _ _ _ M6 N6 gs6 hs6s V h.cap h'.cap h.1 h'.1 h.2.2.2 h'.2.2.2
  unfold SameP at hK9 hK10
  generalize decide (M6 = N6) = b3 at hK9 hK10
  have HK9 := Lib.hid hK9
  have HK10 := Lib.hid hK10
  clear hK9 hK10
  go_wp2_with fail
  refine (HK9.out _ _ hOd_12.out _ hOe_12.out).mono ?_
  rintro e w17 ⟨rfl, hd17⟩
  have hb17 := Drawn.below hd17
  have hB17 := btr hB12 hb17
  have hS17 := hb17.size
  have hOM_17 := Lib.hid (hOM_12.out.below hb17 )
  have hOL_17 := Lib.hid (hOL_12.out.below hb17 )
  have hOU_17 := Lib.hid (hOU_12.out.below hb17 (by omega))
  have hOd_17 := Lib.hid (hOd_12.out.below hb17 )
  have hOe_17 := Lib.hid (hOe_12.out.below hb17 )
  clear hOM_12 hOL_12 hOU_12 hOd_12 hOe_12 hb17 hd17
  go_wp2_with fail
  refine (HK10.out _ _ hOd_17.out _ hOe_17.out).mono ?_
  rintro e w18 ⟨rfl, hd18⟩
  have hb18 := Drawn.below hd18
  have hB18 := btr hB17 hb18
  have hS18 := hb18.size
  have hOM_18 := Lib.hid (hOM_17.out.below hb18 )
  have hOL_18 := Lib.hid (hOL_17.out.below hb18 )
  have hOU_18 := Lib.hid (hOU_17.out.below hb18 (by omega))
  have hOd_18 := Lib.hid (hOd_17.out.below hb18 )
  have hOe_18 := Lib.hid (hOe_17.out.below hb18 )
  clear hOM_17 hOL_17 hOU_17 hOd_17 hOe_17 hb18 hd18
  clear hOd_18
  clear hOe_18
  have hz := zeros_cap (newN xn) (newN_le xn)
  have hzl := zeros_len (newN xn)
  have hK11 := fun (V : World) => impl_memNew xn V
  have hK12 := fun (V : World) => spec_memNew xn V
  generalize zeros (newN xn) = Z at hz hzl hK11 hK12
  have HCZ := Lib.hid hz
  have HLZ := Lib.hid hzl
  have HK11 := Lib.hid hK11
  have HK12 := Lib.hid hK12
  generalize newN xn = nz at HLZ
  clear hz hzl hK11 hK12
  have HLZ2 := HLZ
  go_wp2_with fail
  refine (HK11.out _).mono ?_
  rintro e w19 ⟨X19, m19, d19, qs19, rfl, hx19, ho19, hb19⟩
  obtain rfl : nz = m19 := by have := HLZ.out; omega
  have hB19 := btr hB18 hb19
  have hS19 := hb19.size
  have hOM_19 := Lib.hid (hOM_18.out.below hb19 )
  have hOL_19 := Lib.hid (hOL_18.out.below hb19 )
  have hOU_19 := Lib.hid (hOU_18.out.below hb19 (by omega))
  have hOg1_19 := Lib.hid (ho19.rg)
  clear hOM_18 hOL_18 hOU_18 ho19 hb19
  (try clear hx19)
  go_wp2_with fail
  refine (HK12.out _).mono ?_
  rintro e w20 ⟨X20, m20, d20, qs20, rfl, hx20, ho20, hb20⟩
  obtain rfl : nz = m20 := by have := HLZ.out; omega
  have hB20 := btr hB19 hb20
  have hS20 := hb20.size
  have hOM_20 := Lib.hid (hOM_19.out.below hb20 )
  have hOL_20 := Lib.hid (hOL_19.out.below hb20 )
  have hOU_20 := Lib.hid (hOU_19.out.below hb20 (by omega))
  have hOg1_20 := Lib.hid (hOg1_19.out.below hb20 (by omega))
  have hOg2_20 := Lib.hid (ho20.rg)
  clear hOM_19 hOL_19 hOU_19 hOg1_19 ho20 hb20
  (try clear hx20)
  go_wp2_with fail
  refine (SameP.yes (law_sameMem X19 X20 nz nz d19 d20 _ _ _ _ Z Z qs19 qs20 _ HCZ.out HCZ.out HLZ.out HLZ.out hOg1_20.out hOg2_20.out) rfl).mono ?_
  rintro e w21 ⟨rfl, hd21⟩
  have hb21 := Drawn.below hd21
  have hB21 := btr hB20 hb21
  have hS21 := hb21.size
  have hOM_21 := Lib.hid (hOM_20.out.below hb21 )
  have hOL_21 := Lib.hid (hOL_20.out.below hb21 )
  have hOU_21 := Lib.hid (hOU_20.out.below hb21 (by omega))
  have hOg1_21 := Lib.hid (hOg1_20.out.below hb21 (by omega))
  have hOg2_21 := Lib.hid (hOg2_20.out.below hb21 (by omega))
  clear hOM_20 hOL_20 hOU_20 hOg1_20 hOg2_20 hb21 hd21
  clear hOg1_21
  clear hOg2_21
  go_wp2_with fail
  go_loopw [15] (fun i wr => ∃ (k : Nat), k ≤ m1 ∧ i = .int .i64 k ∧ Below w21.heap.size w21 wr) (fun i _ => m1 - (intOf i).toNat)
  case atStart => exact ⟨0, Nat.zero_le _, rfl, Below.refl _ _⟩
  case round =>
    obtain ⟨k, hk, rfl, hbr⟩ := hrel
    have HBR := Lib.hid hbr
    have hsr := hbr.size
    have hOM := Lib.hid (hOM_21.out.below hbr)
    have hOL := Lib.hid (hOL_21.out.below hbr)
    have hOU := Lib.hid (hOU_21.out.below hbr (by omega))
    clear hbr
    by_cases hlt : k < m1
    · have hkl : k < M.length := by rw [HLM.out]; exact hlt
      have hi0 : (0 : Int) ≤ (k : Int) := Int.natCast_nonneg _
      have hi1 : (k : Int) < (m1 : Int) := by omega
      by_cases hp : (k : Int) = page
      · have hp' : ((k : Int) == page) = true := by simpa using hp
        have hp'' : ((k : Int) != page) = false := by simpa using hp
        clear hp
        go_wp2_with fail
        refine Ord.wp_region_ord (fun _ => True) [(0, true), (1, true), (2, true), (3, true), (4, true), (5, true), (6, true), (7, true), (8, true), (9, true), (10, true), (11, true), (12, true), (13, true)] (by kernel_rfl) (by kernel_rfl) rfl (by kernel_rfl) (trivial) ?_
        simp only [Ord.ordOps, List.getElem?_toArray, List.getElem?_cons_zero, List.getElem?_cons_succ]
        repeat (first
          | (refine Ord.ord_plain (v := ?_) rfl (fun w' hS => ?_) ?_; rotate_left; (focus ((try dsimp only at hS); go_simp; first | done | with_reducible rfl)); simp only [Act.put, List.setIfInBounds_toArray, List.set_cons_zero, List.set_cons_succ])
          | (refine Ord.ord_skip (by rfl) ?_; simp only [Act.put, List.setIfInBounds_toArray, List.set_cons_zero, List.set_cons_succ])
          | (refine Ord.ord_take (v := ?_) (by rfl) (fun w' hS => ?_) ?_; rotate_left; (focus ((try dsimp only at hS); go_simp; first | done | with_reducible rfl)); simp only [Act.put, List.setIfInBounds_toArray, List.set_cons_zero, List.set_cons_succ]))
        refine Ord.ord_nil ?_
        go_wp2_with fail
        go_roundw
        case rel => exact ⟨k + 1, by omega, by go_num, HBR.out.drew⟩
        case measure => simp [intOf]; omega
      · have hp' : ((k : Int) == page) = false := by simpa using hp
        have hp'' : ((k : Int) != page) = true := by simpa using hp
        obtain ⟨b, off, B, c', e1, _, hbw, c1, hB⟩ := hOM.out.2.2.2.page k hkl
        have hpg := HOt.out k hkl hp
        have hcap := HCM.out.at_ hkl
        have hbnd : (k : Int) < (m1 : Int) := hi1
        have HSc := Lib.hid (show ∀ V : World, Below wr.heap.size wr V → V.cell? ⟨b, off + k, none⟩ = some (.slice B M[k].length c') ∧ Lies V w.heap.size wr.heap.size B (ncells M[k]) from fun V hV => ⟨(hV.cell (p := ⟨b, off + k, none⟩) hbw).trans c1, hB.below hV (Nat.le_refl _)⟩)
        have hKp := impl_pageAt X2 m1 d2 _ (k : Int) U qs2 wr.drew HCU.out HLU.out ((hOU.out.wide (Nat.le_refl _) (show w2.heap.size ≤ wr.heap.size by omega)).drewN 1)
        rw [hpg] at hKp
        have HKp := Lib.hid hKp
        have HE1 := Lib.hid e1
        subst e1
        clear hp hpg hKp c1 hB
        generalize M[k] = r at hcap HSc HKp
        go_wp2_with fail
        refine Ord.wp_region_ord (fun w' => w'.cell? ⟨b, off + k, none⟩ = some (.slice B r.length c')) [(0, true), (1, true), (2, true), (3, true), (4, true), (5, true), (7, true), (8, true), (9, true), (10, true), (6, false), (11, false), (12, true), (13, true)] (by kernel_rfl) (by kernel_rfl) rfl (by kernel_rfl) ((HSc.out _ (Below.refl _ _).drew).1) ?_
        simp only [Ord.ordOps, List.getElem?_toArray, List.getElem?_cons_zero, List.getElem?_cons_succ]
        repeat (first
          | (refine Ord.ord_plain (v := ?_) rfl (fun w' hS => ?_) ?_; rotate_left; (focus ((try dsimp only at hS); go_simp; first | done | with_reducible rfl)); simp only [Act.put, List.setIfInBounds_toArray, List.set_cons_zero, List.set_cons_succ])
          | (refine Ord.ord_skip (by rfl) ?_; simp only [Act.put, List.setIfInBounds_toArray, List.set_cons_zero, List.set_cons_succ])
          | (refine Ord.ord_take (v := ?_) (by rfl) (fun w' hS => ?_) ?_; rotate_left; (focus ((try dsimp only at hS); go_simp; first | done | with_reducible rfl)); simp only [Act.put, List.setIfInBounds_toArray, List.set_cons_zero, List.set_cons_succ]))
        refine Ord.ord_call (fun K hK => ?_)
        go_simp
        go_wp2_with fail
        refine (HKp.out).mono ?_
        rintro e w1 ⟨X9, m9, d9, rfl, hx9, ho9, hb9⟩
        obtain rfl : r.length = m9 := hx9
        have HO9 := Lib.hid ho9.1
        have hb9' : Below wr.heap.size wr w1 := (Below.refl _ _).drew.trans hb9
        have HB9 := Lib.hid hb9'
        have hs9 : wr.heap.size ≤ w1.heap.size := hb9'.size
        clear ho9 hb9 hb9'
        refine hK.out _ _ ((HSc.out _ HB9.out).1) ?_
        clear hK K
        repeat (first
          | (refine Ord.ord_plain (v := ?_) rfl (fun w' hS => ?_) ?_; rotate_left; (focus ((try dsimp only at hS); go_simp; first | done | with_reducible rfl)); simp only [Act.put, List.setIfInBounds_toArray, List.set_cons_zero, List.set_cons_succ])
          | (refine Ord.ord_skip (by rfl) ?_; simp only [Act.put, List.setIfInBounds_toArray, List.set_cons_zero, List.set_cons_succ])
          | (refine Ord.ord_take (v := ?_) (by rfl) (fun w' hS => ?_) ?_; rotate_left; (focus ((try dsimp only at hS); go_simp; first | done | with_reducible rfl)); simp only [Act.put, List.setIfInBounds_toArray, List.set_cons_zero, List.set_cons_succ]))
        refine Ord.ord_call (fun K hK => ?_)
        go_simp
        go_wp2_with fail
        refine (SameP.yes (law_ints X9 B r.length r.length d9 c' _ _ _ _ r r _ hcap hcap rfl rfl HO9.out (HSc.out _ HB9.out).2) rfl).mono ?_
        rintro e w2 ⟨rfl, hd2⟩
        have HB2 := Lib.hid (btr HB9.out (Drawn.below hd2))
        clear hd2
        refine hK.out _ _ ((HSc.out _ HB2.out).1) ?_
        clear hK K
        repeat (first
          | (refine Ord.ord_plain (v := ?_) rfl (fun w' hS => ?_) ?_; rotate_left; (focus ((try dsimp only at hS); go_simp; first | done | with_reducible rfl)); simp only [Act.put, List.setIfInBounds_toArray, List.set_cons_zero, List.set_cons_succ])
          | (refine Ord.ord_skip (by rfl) ?_; simp only [Act.put, List.setIfInBounds_toArray, List.set_cons_zero, List.set_cons_succ])
          | (refine Ord.ord_take (v := ?_) (by rfl) (fun w' hS => ?_) ?_; rotate_left; (focus ((try dsimp only at hS); go_simp; first | done | with_reducible rfl)); simp only [Act.put, List.setIfInBounds_toArray, List.set_cons_zero, List.set_cons_succ]))
        refine Ord.ord_nil ?_
        go_wp2_with fail
        go_roundw
        case rel => exact ⟨k + 1, by omega, by go_num, btr HBR.out HB2.out⟩
        case measure => simp [intOf]; omega
    · obtain rfl : k = m1 := by omega
      have HB0 := Lib.hid (btr hB21 HBR.out)
      have HNew := Lib.hid (show zeros (newN 3) = zeros 3 from rfl)
      go_wp2_with fail
      refine (impl_memNew 3 _).mono ?_
      rintro e w1 ⟨X8, m8, d8, q8, rfl, hx8, ho8, hb8⟩
      rw [HNew.out] at hx8 ho8
      obtain rfl : m8 = 3 := hx8.symm
      have HO8 := Lib.hid ho8
      have HB1 := Lib.hid (btr HB0.out hb8)
      have hL1 := Lib.hid (hOL.out.below hb8)
      have hU1 := Lib.hid (hOU.out.below hb8 (by omega))
      have hs8 := hb8.size
      have hK := impl_memOk X8 3 d8 _ _ 3 (zeros 3) q8 w1 (zeros_cap 3 (by omega)) rfl HO8.out.rg
      rw [zeros_ok] at hK
      have HK := Lib.hid hK
      clear hx8 ho8 hb8 hK
      go_wp2_with fail
      refine (HK.out).mono ?_
      rintro e w' ⟨rfl, rfl⟩
      by_cases h0 : 0 ≤ page
      · by_cases h1 : page < (k : Int)
        · have hKb := spec_pageOk Y1 j1 f1 _ _ l w1 hj5 HLl.out hL1.out.2.2
          cases hv : pageB l
          · rw [hv] at hKb
            have HKb := Lib.hid hKb
            clear hKb hv
            go_wp2_with fail
            refine (HKb.out).mono ?_
            rintro e w' ⟨rfl, rfl⟩
            go_wp2_with fail
            go_ret
            exact ⟨rfl, HB1.out⟩
          · rw [hv] at hKb
            have HKb := Lib.hid hKb
            have hpg := HSm.out h0 (by rw [HLM.out]; exact h1) hv
            have hKp := impl_pageAt X2 k d2 _ page U qs2 w1 HCU.out HLU.out (hU1.out.wide (Nat.le_refl _) (by omega))
            rw [hpg] at hKp
            have HKp := Lib.hid hKp
            clear hKb hv hpg hKp
            go_wp2_with fail
            refine (HKb.out).mono ?_
            rintro e w' ⟨rfl, rfl⟩
            go_wp2_with fail
            refine (HKp.out).mono ?_
            rintro e w3 ⟨X9, m9, d9, rfl, hx9, ho9, hb9⟩
            obtain rfl : j1 = m9 := by have := HLl.out; omega
            have HO9 := Lib.hid ho9.1
            have HL9 := Lib.hid (hL1.out.below hb9).2.2
            have HB9 := Lib.hid (btr HB1.out hb9)
            clear ho9 hb9
            go_wp2_with fail
            refine (SameP.yes (law_ints X9 Y1 j1 j1 d9 f1 _ _ _ _ l l _ hj5 hj5 HLl.out HLl.out HO9.out HL9.out) rfl).mono ?_
            rintro e w4 ⟨rfl, hd4⟩
            have HB4 := Lib.hid (btr HB9.out (Drawn.below hd4))
            clear hd4
            go_wp2_with fail
            go_ret
            exact ⟨rfl, HB4.out⟩
        · go_wp2_with fail
          go_ret
          exact ⟨rfl, HB1.out⟩
      · go_wp2_with fail
        go_ret
        exact ⟨rfl, HB1.out⟩

/-! ### The row's step -/
set_option maxRecDepth 100000 in
theorem lifted (os : Os) (started : os.Started) (H : Type) (enc : TypeId × Value → H) :
    ReturnsInHanded {} Try.checked os 4 .any (Rows.fnPagesSpec.pre6 enc Try.prog Try.f4 Rows.fnPagesRow.domain false) (Rows.fnPagesSpec.post enc Try.prog Try.f4 false true false false) := by
  refine returnsInHanded_of_change (C := Try.checked) Base.own started (by kernel_rfl) Try.func4
    (ChangeSpec.witness6 (enc := enc) (C := Try.checked) false ⟨#[], #[.slice none 0 0], []⟩ 8 (by kernel_rfl) (by kernel_rfl) (by kernel_rfl) (by kernel_rfl)) ?_
  intro W base args ds gs before hval0 hW hcnd _
  have hval : ∀ (j : Nat) t v, Try.f4.params[j]? = some t → args[j]? = some v → Value.okWide Try.prog W .any base t v := hval0
  have hW' := hW
  obtain ⟨p, q, hA0, hV, rfl, hfz, hnd⟩ := hW
  have hA : DataW.TrodAll enc Try.prog W 0 (fun _ => true) true Try.f4.params.toList args.toList ds p := hA0
  have hA1 := hA
  rw [Try.params4] at hA hval
  obtain ⟨v0, vs0, d0, ds0, p0, q0, hargs, rfl, rfl, h0, r0⟩ := trodAll_cons hA
  obtain ⟨rfl, rfl, rfl⟩ := trodAll_nil r0
  obtain rfl : args = #[v0] := by cases args; simp_all
  obtain ⟨rfl, rfl⟩ := trodVars_none hV
  obtain ⟨A0, n0, c0, rfl, hn0, hcode0, _⟩ := Draw.open_code (hval 0 22 v0 rfl rfl) h0
  clear hA0 hval0
  rw [List.append_nil] at hW'
  refine (walk A0 n0 c0 hn0 hcode0).mono fun e W' ⟨he, hg⟩ => ?_
  subst he
  exact ⟨_, rfl, Mem.post_args Grid.laid (by kernel_rfl) rfl rfl rfl hW' hA1 hg (fun _ _ _ => (trodAll_cons_mk (shut_bool Try.underlying4 _) trodAll_mk0)) (ok_one (by kernel_rfl) rfl (okWide_bool_mk Try.underlying4 _))⟩

theorem over : Rows.fnPagesRow.holds Try.pinned (OpenSpec.ofChange Rows.fnPagesSpec) :=
  OpenClaim.holds_of_wide 4 Try.f4 rfl rfl rfl rfl rfl rfl rfl ⟨rfl, rfl, rfl, rfl, rfl⟩ rfl rfl rfl rfl rfl (by kernel_rfl) Try.func4 (by kernel_rfl)
    (of_decide_eq_true (by kernel_rfl)) (by unfold Func.isWrapper; first | (rw [if_pos (by decide +kernel)]; kernel_rfl) | (rw [if_neg (by decide +kernel)]; exact ⟨rfl, rfl⟩))
    (fun os started H enc _ => lifted os started H enc)

/-- The given statement. -/
theorem proved : Rows.FnPagesSaid :=
  over
#print axioms proved
end Go.Proofs.Ytkbcmeachfplnaa.fnPages
