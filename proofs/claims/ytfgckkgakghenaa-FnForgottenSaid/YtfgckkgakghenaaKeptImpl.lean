/-
  Shadow tables: the project's functions of chapter 7. No condition beyond a table's length and its numbers being of an int's range.
-/
import Derived.Test.YtfgckkgakghenaaKeptPtr
namespace Go.Proofs.Ytfgckkgakghenaa.Kepts
set_option maxRecDepth 100000
open Go.ChangeShapes Go.WideShapes Go.ChangeAt Go.RowKit
open Go.Proofs.Ytfgckkgakghenaa.Base Go.Proofs.Ytfgckkgakghenaa.Mem Go.Proofs.Ytfgckkgakghenaa.Slots Go.Proofs.Ytfgckkgakghenaa.Bools Go.Proofs.Ytfgckkgakghenaa.Data
set_option linter.unusedVariables false
set_option linter.unusedSimpArgs false
section
variable (A B : Option Addr) (n m c d lo z : Nat) (k : KD) (w V : World)
set_option maxHeartbeats 2000000 in
theorem impl_forgetM (page : Int) (hn : n ≤ 1048576) (hm : m ≤ 1048576) (h : Pt w V z n m c d A B k) :
    Calls Try.prog 70 #[.pointer (some ⟨z, 0, none⟩), .int .i64 page] V (PtP w V z n m c d A B (forgetK k page)) := by
  have HE := Lib.hid (show setK k page false (-1, 0) = forgetK k page from rfl)
  have HP := Lib.hid h
  clear h
  go_enter Try.func70, Try.ntmps70
  go_wp2_with fail
  refine (impl_no _).mono ?_
  rintro e w1 ⟨rfl, hb1⟩
  have hK := impl_setK A B n m c d z k w w1 page (-1) 0 false hn hm (HP.out.below hb1)
  have HT := Lib.hid (turned_of (lo := w.heap.size) (hi := z) hb1)
  have HK := Lib.hid hK
  clear hK hb1
  go_wp2_with fail
  refine HK.out.mono ?_
  rintro e w2 ⟨rfl, hp, ht⟩
  have HP2 := Lib.hid hp
  have HT2 := Lib.hid (HT.out.trans ht)
  clear hp ht
  go_wp2_with fail
  exact bodyPost_ret (v := .tuple #[]) (by simp [results, Try.results70, go_sem]) rfl ⟨rfl, by rw [← HE.out]; exact HP2.out, HT2.out⟩

set_option maxHeartbeats 2000000 in
theorem impl_fillM (C D : Option Addr) (n2 m2 c2 d2 : Nat) (page : Int) (l o : List Sl) (hn : n ≤ 1048576) (hm : m ≤ 1048576) (hn2 : n2 ≤ 1048576) (hm2 : m2 ≤ 1048576) (hl : l.length = n2) (ho : o.length = m2)
    (h : Pt w V z n m c d A B k) (hC : Lies V 0 V.heap.size C (scells l)) (hD : Lies V 0 V.heap.size D (scells o)) (wl : wfL l) (wo : wfL o) :
    Calls Try.prog 61 #[.pointer (some ⟨z, 0, none⟩), .slice C n2 c2, .slice D m2 d2, .int .i64 page] V (PtP w V z n m c d A B (fillK k l o page)) := by
  by_cases hp : 0 ≤ page ∧ page < n2
  · obtain ⟨h0, h1⟩ := hp
    obtain ⟨j, rfl⟩ := Int.eq_ofNat_of_zero_le h0
    have hjl : j < l.length := by omega
    have HI := Lib.hid (fun W : World => impl_has_yes C n2 c2 (j : Int) W hn2 h0 h1)
    have hws := wl _ (List.getElem_mem hjl)
    obtain ⟨b, off, rfl, _, _, e0, e1⟩ := slot_at hC j hjl
    have he : fillK k l o (j : Int) = setK k (j : Int) true (compS l[j] o) := by
      unfold fillK setK
      rw [atS_at hjl]
      by_cases hh : hasK k (j : Int) = true
      · rw [if_pos ⟨hh, by omega⟩, if_pos hh]
      · rw [if_neg (fun x => hh x.1), if_neg hh]
    obtain ⟨⟨x, y⟩, hxy⟩ : ∃ s, s = l[j] := ⟨_, rfl⟩
    rw [← hxy] at e0 e1 he hws
    dsimp only at e0 e1
    clear hxy
    have hK := impl_compSlot D m2 d2 x y o V hm2 ho hws.2 wo hD
    generalize compS (x, y) o = s at hK he
    obtain ⟨cx, cy⟩ := s
    have HK := Lib.hid hK
    have HE := Lib.hid he
    have HP := Lib.hid h
    clear hK he h hC hD wl wo hws hl hjl ho
    go_enter Try.func61, Try.ntmps61
    go_wp2_with fail
    refine (HI.out _).mono ?_
    rintro e w' ⟨rfl, rfl⟩
    go_wp2_with fail
    refine HK.out.mono ?_
    rintro e w1 ⟨rfl, hb1⟩
    have hS := impl_setK A B n m c d z k w w1 (j : Int) cx cy true hn hm (HP.out.below hb1)
    have HT := Lib.hid (turned_of (lo := w.heap.size) (hi := z) hb1)
    have HS := Lib.hid hS
    clear hS hb1 e0 e1
    go_wp2_with fail
    refine HS.out.mono ?_
    rintro e w2 ⟨rfl, hp, ht⟩
    have HP2 := Lib.hid hp
    have HT2 := Lib.hid (HT.out.trans ht)
    clear hp ht
    go_wp2_with fail
    exact bodyPost_ret (v := .tuple #[]) (by simp [results, Try.results61, go_sem]) rfl ⟨rfl, by rw [HE.out]; exact HP2.out, HT2.out⟩
  · have HI := Lib.hid (fun W : World => impl_has_no C n2 c2 page W hn2 hp)
    have HE := Lib.hid (show fillK k l o page = k by
      unfold fillK
      rw [if_neg]
      rintro ⟨x, y⟩
      obtain ⟨g0, _, _⟩ := hasK_yes x
      exact hp ⟨g0, by omega⟩)
    have HP := Lib.hid h
    clear h hp hC hD hl ho
    go_enter Try.func61, Try.ntmps61
    go_wp2_with fail
    refine (HI.out _).mono ?_
    rintro e w' ⟨rfl, rfl⟩
    go_wp2_with fail
    exact bodyPost_ret (v := .tuple #[]) (by simp [results, Try.results61, go_sem]) rfl ⟨rfl, by rw [HE.out]; exact HP.out, Turned.refl _ _ _⟩

set_option maxHeartbeats 2000000 in
/-- The only slot that may be held at an index of inner. -/
theorem impl_wantM (C D : Option Addr) (n2 m2 c2 d2 j : Nat) (l o : List Sl) (hn2 : n2 ≤ 1048576) (hn : n ≤ 1048576) (hm2 : m2 ≤ 1048576) (hl : l.length = n2) (ho : o.length = m2) (hj1 : j < n) (hj2 : j < n2)
    (ht : Two V z (.slice A n c) (.slice B m d)) (h : KR V 0 V.heap.size k A B n m) (hC : Lies V 0 V.heap.size C (scells l)) (hD : Lies V 0 V.heap.size D (scells o)) (wl : wfL l) (wo : wfL o) :
    Calls Try.prog 65 #[.pointer (some ⟨z, 0, none⟩), .slice C n2 c2, .slice D m2 d2, .int .i64 j] V (AtPost V (wantK k l o j)) := by
  have hb0 : Below V.heap.size V (V.alloc (.cells #[.int .i64 0, .int .i64 0] 36)) := (Below.refl _ _).alloc (Nat.le_refl _) _
  have t1 := Two.new V (.int .i64 0) (.int .i64 0) 36
  have hi0 : (0 : Int) ≤ (j : Int) := Int.natCast_nonneg _
  have hi1 : (j : Int) < (n : Int) := by omega
  have hi2 : (j : Int) < (n2 : Int) := by omega
  have hl1 : j < k.1.length := by rw [h.l1]; exact hj1
  have hl3 : j < l.length := by rw [hl]; exact hj2
  have hws := wl _ (List.getElem_mem hl3)
  obtain ⟨b, off, rfl, f1, f2, y1⟩ := bool_at (h.r1.below hb0 (Nat.le_refl _)) j hl1
  obtain ⟨bi, oi, rfl, f3, f4, y4, y5⟩ := slot_at (hC.below hb0 (Nat.le_refl _)) j hl3
  obtain ⟨j0, j1, f5, f6, f7⟩ := ht.below hb0
  have hW : wantK k l o j = if k.1[j] = true then compS l[j] o else (-1, 0) := by
    unfold wantK
    have g1 : k.1.getD j false = k.1[j] := by rw [List.getD_eq_getElem?_getD, List.getElem?_eq_getElem hl1]; rfl
    have g2 : l.getD j (-1, 0) = l[j] := by rw [List.getD_eq_getElem?_getD, List.getElem?_eq_getElem hl3]; rfl
    rw [g1, g2]
  have hD' := (hD.below hb0 (Nat.le_refl _)).wide (Nat.le_refl _) hb0.size
  generalize k.1[j] = kb at y1 hW
  obtain ⟨⟨x, y⟩, hxy⟩ : ∃ s, s = l[j] := ⟨_, rfl⟩
  rw [← hxy] at y4 y5 hW hws
  dsimp only at y4 y5
  clear hxy hl1 hl3 f1 f2 f3 f4 f5 f6 f7 ht h hC hD wl hl
  cases kb
  · have HW := Lib.hid (show wantK k l o j = (-1, 0) by rw [hW]; rfl)
    clear hW hws hD'
    go_enter Try.func65, Try.ntmps65
    go_wp2_with fail
    generalize V.alloc (.cells #[.int .i64 0, .int .i64 0] 36) = W at *
    refine (impl_no _).mono ?_
    rintro e w1 ⟨rfl, hb1⟩
    obtain ⟨q0, q1, p0, p1, _⟩ := t1.below hb1
    have HB := Lib.hid (btr hb0 hb1)
    clear hb1 hb0
    go_wp2_with fail
    exact bodyPost_ret (v := .agg #[.int .i64 (-1), .int .i64 0]) (by simp [results, Try.results65, go_sem, q0, q1]) rfl ⟨by rw [HW.out], set_two HB.out (Nat.le_refl _) _ _⟩
  · have hK := impl_compSlot D m2 d2 x y o (V.alloc (.cells #[.int .i64 0, .int .i64 0] 36)) hm2 ho hws.2 wo hD'
    have hW' : wantK k l o j = compS (x, y) o := by rw [hW]; rfl
    generalize compS (x, y) o = s at hK hW'
    obtain ⟨cx, cy⟩ := s
    have HK := Lib.hid hK
    have HW := Lib.hid hW'
    clear hK hW hW' hws hD' wo ho
    go_enter Try.func65, Try.ntmps65
    go_wp2_with fail
    generalize V.alloc (.cells #[.int .i64 0, .int .i64 0] 36) = W at *
    refine HK.out.mono ?_
    rintro e w1 ⟨rfl, hb1⟩
    obtain ⟨q0, q1, p0, p1, _⟩ := t1.below hb1
    have HB := Lib.hid (btr hb0 hb1)
    clear hb1 hb0
    go_wp2_with fail
    exact bodyPost_ret (v := .agg #[.int .i64 cx, .int .i64 cy]) (by simp [results, Try.results65, go_sem, q0, q1]) rfl ⟨by rw [HW.out], set_two HB.out (Nat.le_refl _) _ _⟩
end

/-- What the pointer holds is handed back in the result's cells. -/
theorem Pt.done {w W V : World} {z n m c d : Nat} {A B : Option Addr} {k : KD} {u v : Value} (h : Pt W V z n m c d A B k) (hz : W.heap.size = w.heap.size + 2) (hb : Below w.heap.size w W) :
    KO ((V.setCell ⟨w.heap.size + 1, 0, none⟩ u).setCell ⟨w.heap.size + 1, 1, none⟩ v) w.heap.size ((V.setCell ⟨w.heap.size + 1, 0, none⟩ u).setCell ⟨w.heap.size + 1, 1, none⟩ v).heap.size k A B n m ∧
    Below w.heap.size w ((V.setCell ⟨w.heap.size + 1, 0, none⟩ u).setCell ⟨w.heap.size + 1, 1, none⟩ v) :=
  ⟨(copy_end h.ko (by omega)).wide (by omega) (by have := h.lt; simp; omega), set_two (btr hb h.bw) (by omega) _ _⟩
section
variable (A B : Option Addr) (n m c d lo : Nat) (k : KD) (w : World)
set_option maxHeartbeats 4000000 in
theorem impl_forget (page : Int) (hn : n ≤ 1048576) (hm : m ≤ 1048576) (h : KR w 0 w.heap.size k A B n m) (wk : wfL k.2) :
    Calls Try.prog 28 #[.agg #[.slice A n c, .slice B m d], .int .i64 page] w (KP w n m (forgetK k page)) := by
  obtain ⟨t1, t2, hb2⟩ := two_two w (.slice A n c) (.slice B m d) (.slice none 0 0) (.slice none 0 0) 27 27
  have hsz : ((w.alloc (.cells #[.slice A n c, .slice B m d] 27)).alloc (.cells #[.slice none 0 0, .slice none 0 0] 27)).heap.size = w.heap.size + 2 := by simp
  have H := Lib.hid h
  clear h
  go_enter Try.func28, Try.ntmps28
  go_wp2_with fail
  generalize (w.alloc (.cells #[.slice A n c, .slice B m d] 27)).alloc (.cells #[.slice none 0 0, .slice none 0 0] 27) = W at t1 t2 hb2 hsz ⊢
  refine (impl_copyK A B n m c d k W hn hm ((H.out.below hb2 (Nat.le_refl _)).wide (Nat.le_refl _) hb2.size)).mono ?_
  rintro e w1 ⟨z, A1, B1, c1, d1, rfl, hp1⟩
  have HP1 := Lib.hid hp1
  have HT2 := Lib.hid t2
  have HB := Lib.hid hb2
  have HZ := Lib.hid hsz
  clear t1 t2 hp1 hb2 hsz
  go_wp2_with fail
  refine (impl_forgetM A1 B1 n m c1 d1 z k W w1 page hn hm HP1.out).mono ?_
  rintro e w2 ⟨rfl, hp2, _⟩
  have HP2 := Lib.hid hp2
  clear hp2
  obtain ⟨i0, i1, _, _, _⟩ := HP2.out.bx
  obtain ⟨q0, q1, g0, g1, _⟩ := HT2.out.below HP2.out.bw
  go_wp2_with fail
  exact bodyPost_ret (v := .agg #[.slice A1 n c1, .slice B1 m d1]) (by simp [results, Try.results28, go_sem, q0, q1]) rfl ⟨_, _, _, _, rfl, (Pt.done HP2.out HZ.out HB.out).1, (Pt.done HP2.out HZ.out HB.out).2⟩

set_option maxHeartbeats 4000000 in
theorem impl_fill (C D : Option Addr) (n2 m2 c2 d2 : Nat) (page : Int) (l o : List Sl) (hn : n ≤ 1048576) (hm : m ≤ 1048576) (hn2 : n2 ≤ 1048576) (hm2 : m2 ≤ 1048576) (hl : l.length = n2) (ho : o.length = m2)
    (h : KR w 0 w.heap.size k A B n m) (hC : Lies w 0 w.heap.size C (scells l)) (hD : Lies w 0 w.heap.size D (scells o)) (wk : wfL k.2) (wl : wfL l) (wo : wfL o) :
    Calls Try.prog 16 #[.agg #[.slice A n c, .slice B m d], .slice C n2 c2, .slice D m2 d2, .int .i64 page] w (KP w n m (fillK k l o page)) := by
  obtain ⟨t1, t2, hb2⟩ := two_two w (.slice A n c) (.slice B m d) (.slice none 0 0) (.slice none 0 0) 27 27
  have hsz : ((w.alloc (.cells #[.slice A n c, .slice B m d] 27)).alloc (.cells #[.slice none 0 0, .slice none 0 0] 27)).heap.size = w.heap.size + 2 := by simp
  have H := Lib.hid h
  have HC := Lib.hid (show ∀ V, Below w.heap.size w V → Lies V 0 V.heap.size C (scells l) from fun V hb => (hC.below hb (Nat.le_refl _)).wide (Nat.le_refl _) hb.size)
  have HD := Lib.hid (show ∀ V, Below w.heap.size w V → Lies V 0 V.heap.size D (scells o) from fun V hb => (hD.below hb (Nat.le_refl _)).wide (Nat.le_refl _) hb.size)
  clear h hC hD
  go_enter Try.func16, Try.ntmps16
  go_wp2_with fail
  generalize (w.alloc (.cells #[.slice A n c, .slice B m d] 27)).alloc (.cells #[.slice none 0 0, .slice none 0 0] 27) = W at t1 t2 hb2 hsz ⊢
  refine (impl_copyK A B n m c d k W hn hm ((H.out.below hb2 (Nat.le_refl _)).wide (Nat.le_refl _) hb2.size)).mono ?_
  rintro e w1 ⟨z, A1, B1, c1, d1, rfl, hp1⟩
  have HP1 := Lib.hid hp1
  have HT2 := Lib.hid t2
  have HB := Lib.hid hb2
  have HZ := Lib.hid hsz
  clear t1 t2 hp1 hb2 hsz
  go_wp2_with fail
  refine (impl_fillM A1 B1 n m c1 d1 z k W w1 C D n2 m2 c2 d2 page l o hn hm hn2 hm2 hl ho HP1.out (HC.out _ (btr HB.out HP1.out.bw)) (HD.out _ (btr HB.out HP1.out.bw)) wl wo).mono ?_
  rintro e w2 ⟨rfl, hp2, _⟩
  have HP2 := Lib.hid hp2
  clear hp2
  obtain ⟨i0, i1, _, _, _⟩ := HP2.out.bx
  obtain ⟨q0, q1, g0, g1, _⟩ := HT2.out.below HP2.out.bw
  go_wp2_with fail
  exact bodyPost_ret (v := .agg #[.slice A1 n c1, .slice B1 m d1]) (by simp [results, Try.results16, go_sem, q0, q1]) rfl ⟨_, _, _, _, rfl, (Pt.done HP2.out HZ.out HB.out).1, (Pt.done HP2.out HZ.out HB.out).2⟩

set_option maxRecDepth 100000 in
set_option maxHeartbeats 4000000 in
theorem impl_all (hn : n ≤ 1048576) (hm : m ≤ 1048576) (h : KR w 0 w.heap.size k A B n m) (wk : wfL k.2) :
    Calls Try.prog 32 #[.agg #[.slice A n c, .slice B m d]] w (KP w n m (allK k)) := by
  obtain ⟨t1, t2, hb2⟩ := two_two w (.slice A n c) (.slice B m d) (.slice none 0 0) (.slice none 0 0) 27 27
  have hsz : ((w.alloc (.cells #[.slice A n c, .slice B m d] 27)).alloc (.cells #[.slice none 0 0, .slice none 0 0] 27)).heap.size = w.heap.size + 2 := by simp
  have HE := Lib.hid (show allK k = forgetsK k (upTo n) by unfold allK upTo; rw [h.l1])
  have H := Lib.hid h
  clear h
  go_enter Try.func32, Try.ntmps32
  go_wp2_with fail
  generalize (w.alloc (.cells #[.slice A n c, .slice B m d] 27)).alloc (.cells #[.slice none 0 0, .slice none 0 0] 27) = W at t1 t2 hb2 hsz ⊢
  refine (impl_copyK A B n m c d k W hn hm ((H.out.below hb2 (Nat.le_refl _)).wide (Nat.le_refl _) hb2.size)).mono ?_
  rintro e w1 ⟨z, A1, B1, c1, d1, rfl, hp1⟩
  have HP1 := Lib.hid hp1
  have HT2 := Lib.hid t2
  have HB := Lib.hid hb2
  have HZ := Lib.hid hsz
  obtain ⟨s0, s1, r2, r3, r4⟩ := hp1.bx
  clear t1 t2 hp1 hb2 hsz
  go_wp2_with fail
  clear s0 s1 r2 r3 r4
  go_loopw [12] (fun i wr => ∃ (j : Nat), j ≤ n ∧ i = .int .i64 j ∧ Pt W wr z n m c1 d1 A1 B1 (forgetsK k (upTo j))) (fun i _ => n - (intOf i).toNat)
  case atStart => exact ⟨0, Nat.zero_le _, rfl, HP1.out⟩
  case round =>
    obtain ⟨j, hj, rfl, hP⟩ := hrel
    by_cases hlt : j < n
    · have hi0 : (0 : Int) ≤ (j : Int) := Int.natCast_nonneg _
      have hi1 : (j : Int) < (n : Int) := by omega
      have hK := impl_forgetM A1 B1 n m c1 d1 z (forgetsK k (upTo j)) W wr (j : Int) hn hm hP
      rw [← forgetsK_snoc, ← upTo_snoc] at hK
      have HK := Lib.hid hK
      clear hK hP
      go_wp2_with fail
      refine (HK.out).mono ?_
      rintro e w5 ⟨rfl, hp5, _⟩
      have HN := Lib.hid hp5
      clear hp5
      go_wp2_with fail
      go_roundw
      case rel => exact ⟨j + 1, by omega, by go_num, HN.out⟩
      case measure => simp [intOf]; omega
    · obtain rfl : j = n := by omega
      have HP2 := Lib.hid hP
      clear hP
      obtain ⟨i0, i1, _, _, _⟩ := HP2.out.bx
      obtain ⟨q0, q1, g0, g1, _⟩ := HT2.out.below HP2.out.bw
      go_wp2_with fail
      exact bodyPost_ret (v := .agg #[.slice A1 j c1, .slice B1 m d1]) (by simp [results, Try.results32, go_sem, q0, q1]) rfl ⟨_, _, _, _, rfl, by rw [HE.out]; exact (Pt.done HP2.out HZ.out HB.out).1, (Pt.done HP2.out HZ.out HB.out).2⟩

set_option maxRecDepth 100000 in
set_option maxHeartbeats 4000000 in
theorem impl_usesK (C : Option Addr) (n2 c2 : Nat) (page : Int) (l : List Sl) (hn : n ≤ 1048576) (hm : m ≤ 1048576) (hn2 : n2 ≤ 1048576) (hl : l.length = n2) (h : KR w 0 w.heap.size k A B n m) (hC : Lies w 0 w.heap.size C (scells l)) (wk : wfL k.2) (wl : wfL l) :
    Calls Try.prog 30 #[.agg #[.slice A n c, .slice B m d], .slice C n2 c2, .int .i64 page] w (KP w n m (usesK k l page)) := by
  obtain ⟨t1, t2, hb2⟩ := two_two w (.slice A n c) (.slice B m d) (.slice none 0 0) (.slice none 0 0) 27 27
  have hsz : ((w.alloc (.cells #[.slice A n c, .slice B m d] 27)).alloc (.cells #[.slice none 0 0, .slice none 0 0] 27)).heap.size = w.heap.size + 2 := by simp
  have hus := useS_le l page
  have HU0 := Lib.hid (show ∀ V, Below w.heap.size w V → Calls Try.prog 71 #[.slice C n2 c2, .int .i64 page] V (UsesPost V (useS l page)) from fun V hb => impl_uses C n2 c2 0 page l V hn2 hl ((hC.below hb (Nat.le_refl _)).wide (Nat.le_refl _) hb.size))
  have HE := Lib.hid (show usesK k l page = forgetsK k (useS l page) from rfl)
  generalize useS l page = L at hus HU0 HE
  have H := Lib.hid h
  clear h hC
  go_enter Try.func30, Try.ntmps30
  go_wp2_with fail
  generalize (w.alloc (.cells #[.slice A n c, .slice B m d] 27)).alloc (.cells #[.slice none 0 0, .slice none 0 0] 27) = W at t1 t2 hb2 hsz ⊢
  refine (impl_copyK A B n m c d k W hn hm ((H.out.below hb2 (Nat.le_refl _)).wide (Nat.le_refl _) hb2.size)).mono ?_
  rintro e w1 ⟨z, A1, B1, c1, d1, rfl, hp1⟩
  have HP1 := Lib.hid hp1
  have HT2 := Lib.hid t2
  have HB := Lib.hid hb2
  have HZ := Lib.hid hsz
  clear t1 t2 hp1 hb2 hsz
  go_wp2_with fail
  refine (HU0.out _ (btr HB.out HP1.out.bw)).mono ?_
  rintro e w2 ⟨AL, nl, cl, rfl, hnl, ho2, hb3⟩
  have HP3 := Lib.hid (HP1.out.below hb3)
  have HU := Lib.hid (show Lies w2 z w2.heap.size AL (Ints.ncells L) from ho2.1.wide (by have := HP1.out.lt; omega) (Nat.le_refl _))
  have HUZ := Lib.hid (show Lies w2 w1.heap.size w2.heap.size AL (Ints.ncells L) from ho2.1)
  have HLZ := Lib.hid HP1.out.lt
  have HNL := Lib.hid hnl
  have HLE := Lib.hid hus
  clear ho2 hb3 hus hnl HU
  go_wp2_with fail
  go_loopw [16] (fun i wr => ∃ (j : Nat), j ≤ nl ∧ i = .int .i64 j ∧ Pt W wr z n m c1 d1 A1 B1 (forgetsK k (L.take j)) ∧ Lies wr w1.heap.size w2.heap.size AL (Ints.ncells L) ∧ w2.heap.size ≤ wr.heap.size) (fun i _ => nl - (intOf i).toNat)
  case atStart => exact ⟨0, Nat.zero_le _, rfl, HP3.out, HUZ.out, Nat.le_refl _⟩
  case round =>
    obtain ⟨j, hj, rfl, hP, hU, hsz2⟩ := hrel
    by_cases hlt : j < nl
    · have hi0 : (0 : Int) ≤ (j : Int) := Int.natCast_nonneg _
      have hi1 : (j : Int) < (nl : Int) := by omega
      have hjl : j < L.length := by have := HNL.out; omega
      have hnlb : nl ≤ 1048576 := by have := HNL.out; have := HLE.out; omega
      obtain ⟨bl, ol, rfl, e5, e6, lc⟩ := Ints.int_at hU j hjl
      have hK := impl_forgetM A1 B1 n m c1 d1 z (forgetsK k (L.take j)) W wr L[j] hn hm hP
      rw [← forgetsK_snoc, ← take_snoc_int hjl] at hK
      generalize L[j] = p at lc hK
      have HK := Lib.hid hK
      have HUr := Lib.hid hU
      clear hK hP hU
      go_wp2_with fail
      refine (HK.out).mono ?_
      rintro e w5 ⟨rfl, hp5, ht5⟩
      have HN := Lib.hid hp5
      have HUn := Lib.hid (show Lies w5 w1.heap.size w2.heap.size (some ⟨bl, ol, none⟩) (Ints.ncells L) from HUr.out.kept fun q h1 h2 => ht5.block q (by omega) (.inr (by have := HLZ.out; omega)))
      have HSZ := Lib.hid (show w2.heap.size ≤ w5.heap.size from Nat.le_trans hsz2 ht5.size)
      clear hp5 ht5
      go_wp2_with fail
      go_roundw
      case rel => exact ⟨j + 1, by omega, by go_num, HN.out, HUn.out, HSZ.out⟩
      case measure => simp [intOf]; omega
    · obtain rfl : j = nl := by omega
      have HP2 := Lib.hid (show Pt W wr z n m c1 d1 A1 B1 (forgetsK k L) by rw [← List.take_of_length_le (l := L) (i := j) (by have := HNL.out; omega)]; exact hP)
      clear hP hU
      obtain ⟨i0, i1, _, _, _⟩ := HP2.out.bx
      obtain ⟨q0, q1, g0, g1, _⟩ := HT2.out.below HP2.out.bw
      go_wp2_with fail
      exact bodyPost_ret (v := .agg #[.slice A1 n c1, .slice B1 m d1]) (by simp [results, Try.results30, go_sem, q0, q1]) rfl ⟨_, _, _, _, rfl, by rw [HE.out]; exact (Pt.done HP2.out HZ.out HB.out).1, (Pt.done HP2.out HZ.out HB.out).2⟩

set_option maxHeartbeats 1000000 in
theorem impl_known (hn : n ≤ 1048576) (h : KR w lo w.heap.size k A B n m) :
    Calls Try.prog 34 #[.agg #[.slice A n c, .slice B m d]] w fun e w' => e = .returned (.int .i64 (knownK k)) ∧ Below w.heap.size w w' := by
  have hb0 : Below w.heap.size w (w.alloc (.cells #[.slice A n c, .slice B m d] 27)) := (Below.refl _ _).alloc (Nat.le_refl _) _
  obtain ⟨j0, j1, _, _, _⟩ := Two.new w (.slice A n c) (.slice B m d) 27
  have H := Lib.hid (h.below hb0 (Nat.le_refl _))
  have HB := Lib.hid hb0
  clear h hb0
  go_enter Try.func34, Try.ntmps34
  go_wp2_with fail
  generalize w.alloc (.cells #[.slice A n c, .slice B m d] 27) = W at j0 j1 H HB ⊢
  go_loop [3, 9] (fun q i => ∃ (j : Nat), j ≤ n ∧ i = .int .i64 j ∧ q = .int .i64 ((k.1.take j).countP id : Nat)) (fun _ i => n - (intOf i).toNat)
  case atStart => exact ⟨0, Nat.zero_le _, rfl, rfl⟩
  case round =>
    obtain ⟨j, hj, rfl, rfl⟩ := hrel
    by_cases hlt : j < n
    · have hjl : j < k.1.length := by have := H.out.l1; omega
      obtain ⟨b, off, rfl, _, hbw, c1⟩ := bool_at H.out.r1 j hjl
      have hi0 : (0 : Int) ≤ (j : Int) := Int.natCast_nonneg _
      have hi1 : (j : Int) < (n : Int) := by omega
      have hm : (k.1.take j).countP id ≤ 1048576 := by
        have := List.countP_le_length (p := id) (l := k.1.take j)
        simp at this; omega
      have HS := Lib.hid (known_snoc k.1 j hjl)
      cases hx : k.1[j]
      · rw [hx] at c1
        rw [hx] at HS
        go_wp2
        go_round
        case rel => exact ⟨j + 1, by omega, by go_num, by rw [HS.out]; simp⟩
        case measure => simp [intOf]; omega
      · rw [hx] at c1
        rw [hx] at HS
        go_wp2
        go_round
        case rel => exact ⟨j + 1, by omega, by go_num, by rw [HS.out, if_pos rfl]; go_num⟩
        case measure => simp [intOf]; omega
    · obtain rfl : j = n := by omega
      go_wp2
      go_ret
      exact ⟨by rw [List.take_of_length_le (by have := H.out.l1; omega)]; rfl, HB.out⟩

set_option maxHeartbeats 1000000 in
theorem impl_newKc (x : Int) : Calls Try.prog 36 #[.int .i64 x] w (KPc w (newN x) (newN x) (newK (newN x))) := by
  obtain ⟨i0, hi0, hz0, hz1, hz2⟩ := info_parts Try.infoBool
  have hb0 : Below w.heap.size w (w.alloc (.cells #[.slice none 0 0, .slice none 0 0] 27)) := (Below.refl _ _).alloc (Nat.le_refl _) _
  have t0 := Two.new w (.slice none 0 0) (.slice none 0 0) 27
  have hz : (w.alloc (.cells #[.slice none 0 0, .slice none 0 0] 27)).heap.size = w.heap.size + 1 := by simp
  have hq : newN x ≤ 24 := newN_le x
  have HQ := Lib.hid (show ∀ V, Calls Try.prog 72 #[.int .i64 x] V (RowPost V (newN x) (nosL (newN x))) from fun V => impl_new x V)
  generalize newN x = q at HQ hq ⊢
  go_enter Try.func36, Try.ntmps36
  go_wp2_with fail
  generalize w.alloc (.cells #[.slice none 0 0, .slice none 0 0] 27) = W at t0 hb0 hz ⊢
  refine (HQ.out _).mono ?_
  rintro e w1 ⟨ad, c1, rfl, hc1, ho1, hb1⟩
  have t1 := t0.below hb1
  have hx1 := hb1.size
  obtain ⟨wm, hmk, hown, hgm⟩ := run_make_full w1 w1.heap.size 24 4 i0 _ 1 Try.underlying24 hi0 hz0 hz1 .i64 .i64 q (by rw [hz2]; omega) (by simp only [maxLen]; omega) (Nat.le_refl _)
  rw [made_bools] at hown
  have hb2 : Below w1.heap.size w1 wm := (Below.refl _ _).grown hgm (Nat.le_refl _) (fun _ h => by cases h)
  obtain ⟨q0, q1, f0, f1, _⟩ := t1.below hb2
  have hx2 := hb2.size
  have hK : KO wm W.heap.size wm.heap.size (newK q) (some ⟨w1.heap.size, 0, none⟩) (some ad) q q :=
    ⟨by simp [newK], by simp [newK], (Owned.of_row hown).wide hx1 (Nat.le_refl _), (ho1.below hb2 (Nat.le_refl _)).wide (Nat.le_refl _) hx2, fun b h1 h2 => by
        have a1 := blks_in (Owned.of_row hown) (k := b) h1
        have a2 := blks_in ho1 h2
        omega⟩
  have HK := Lib.hid hK
  have HB := Lib.hid (show Below w.heap.size w wm from (hb0.trans (hb1.mono hb0.size)).trans (hb2.mono (by omega)))
  clear t0 t1 hb0 hb1 hb2 ho1 hown hgm hK hc1
  go_wp2_with fail
  exact bodyPost_ret (v := .agg #[.slice (some ⟨w1.heap.size, 0, none⟩) q q, .slice (some ad) q c1]) (by simp [results, Try.results36, go_sem, q0, q1]) rfl ⟨_, _, _, _, rfl, Nat.le_refl _, (copy_end HK.out (by omega)).wide (by omega) (by simp), set_two HB.out (by omega) _ _⟩
theorem impl_newK (x : Int) (hx : (Lit.int .i64 x).wf = true) : Calls Try.prog 36 #[.int .i64 x] w (KP w (newN x) (newN x) (newK (newN x))) := (impl_newKc w x).mono KPc.kp

set_option maxRecDepth 100000 in
set_option maxHeartbeats 2000000 in
theorem impl_ask (page : Int) (hn : n ≤ 1048576) (hm : m ≤ 1048576) (h : KR w 0 w.heap.size k A B n m) (wk : wfL k.2) :
    Calls Try.prog 22 #[.agg #[.slice A n c, .slice B m d], .int .i64 page] w (AskP w (askK k page)) := by
  obtain ⟨t1, t2, hb2⟩ := two_two w (.slice A n c) (.slice B m d) (.int .i64 0) (.int .i64 0) 27 36
  have H := Lib.hid h
  clear h
  go_enter Try.func22, Try.ntmps22
  go_wp2_with fail
  generalize (w.alloc (.cells #[.slice A n c, .slice B m d] 27)).alloc (.cells #[.int .i64 0, .int .i64 0] 36) = W at t1 t2 hb2 ⊢
  have hH := impl_hasK A B n m c d w.heap.size k W page hn hm H.out.l1 H.out.l2 t1
  cases hp : hasK k page
  · rw [hp] at hH
    have HH := Lib.hid hH
    have HE := Lib.hid (askK_no hp)
    clear hH hp
    have HB1 := Lib.hid hb2
    have HT1 := Lib.hid t2
    refine (HH.out).mono ?_
    rintro e w1 ⟨rfl, rfl⟩
    clear hb2
    go_wp2_with fail
    refine (impl_no _).mono ?_
    rintro e w2 ⟨rfl, hb2⟩
    obtain ⟨q0, q1, g0, g1, _⟩ := HT1.out.below hb2
    have HB2 := Lib.hid (btr HB1.out hb2)
    clear hb2
    go_wp2_with fail
    exact bodyPost_ret (v := .tuple #[.agg #[.int .i64 (-1), .int .i64 0], .bool false]) (by simp [results, Try.results22, go_sem, q0, q1]) rfl ⟨by rw [HE.out], set_two HB2.out (by omega) _ _⟩
  · obtain ⟨h0, h1, h2⟩ := hasK_yes hp
    obtain ⟨j, rfl⟩ := Int.eq_ofNat_of_zero_le h0
    have hj1 : j < n := by have := H.out.l1; omega
    have hj2 : j < m := by have := H.out.l2; omega
    have hi0 : (0 : Int) ≤ (j : Int) := Int.natCast_nonneg _
    have hi1 : (j : Int) < (n : Int) := by omega
    have hi2 : (j : Int) < (m : Int) := by omega
    have hl1 : j < k.1.length := by rw [H.out.l1]; exact hj1
    have hl2 : j < k.2.length := by rw [H.out.l2]; exact hj2
    obtain ⟨b, off, e0, _, hb, y1⟩ := bool_at H.out.r1 j hl1
    obtain ⟨b', off', e1, _, hb', y2, y3⟩ := slot_at H.out.r2 j hl2
    subst e0
    subst e1
    have hE : askK k (j : Int) = if k.1[j] = true then (k.2[j], true) else ((-1, 0), false) := by
      unfold askK
      rw [hp]
      simp [List.getD_eq_getElem?_getD, List.getElem?_eq_getElem hl1, List.getElem?_eq_getElem hl2]
    rw [hp] at hH
    have HH := Lib.hid hH
    clear hH hp h0 h1 h2
    have HI := Lib.hid (show ∀ V, Below w.heap.size w V → V.cell? ⟨b, off + j, none⟩ = some (.bool k.1[j]) ∧ V.cell? ⟨b', off' + j * 2, none⟩ = some (.int .i64 k.2[j].1) ∧ V.cell? ⟨b', off' + j * 2 + 1, none⟩ = some (.int .i64 k.2[j].2) from fun V hV => ⟨(hV.cell hb).trans y1, (hV.cell hb').trans y2, (hV.cell hb').trans y3⟩)
    clear y1 y2 y3
    generalize k.1[j] = kb at HI hE
    obtain ⟨⟨x, y⟩, hxy⟩ : ∃ s, s = k.2[j] := ⟨_, rfl⟩
    rw [← hxy] at HI hE
    clear hxy
    have HB1 := Lib.hid hb2
    have HT1 := Lib.hid t2
    refine (HH.out).mono ?_
    rintro e w1 ⟨rfl, rfl⟩
    obtain ⟨i0, i1, _, _, _⟩ := t1
    obtain ⟨q0, q1, g0, g1, _⟩ := t2
    obtain ⟨z1, z2, z3⟩ := HI.out _ HB1.out
    clear hb2
    cases kb
    · have HE := Lib.hid hE
      clear hE q0 q1 g0 g1 z2 z3
      go_wp2_with fail
      refine (impl_no _).mono ?_
      rintro e w2 ⟨rfl, hb2⟩
      obtain ⟨q0, q1, g0, g1, _⟩ := HT1.out.below hb2
      have HB2 := Lib.hid (btr HB1.out hb2)
      clear hb2
      go_wp2_with fail
      exact bodyPost_ret (v := .tuple #[.agg #[.int .i64 (-1), .int .i64 0], .bool false]) (by simp [results, Try.results22, go_sem, q0, q1]) rfl ⟨by rw [HE.out]; rfl, set_two HB2.out (by omega) _ _⟩
    · have HE := Lib.hid hE
      clear hE
      go_wp2_with fail
      exact bodyPost_ret (v := .tuple #[.agg #[.int .i64 x, .int .i64 y], .bool true]) (by simp [results, Try.results22, go_sem, q0, q1]) rfl ⟨by rw [HE.out]; rfl, set_two HB1.out (by omega) _ _⟩

set_option maxRecDepth 100000 in
set_option maxHeartbeats 8000000 in
theorem impl_okK (C D : Option Addr) (n2 m2 c2 d2 : Nat) (l o : List Sl) (hn : n ≤ 1048576) (hm : m ≤ 1048576) (hn2 : n2 ≤ 1048576) (hm2 : m2 ≤ 1048576) (hl : l.length = n2) (ho : o.length = m2)
    (h : KR w 0 w.heap.size k A B n m) (hC : Lies w 0 w.heap.size C (scells l)) (hD : Lies w 0 w.heap.size D (scells o)) (wk : wfL k.2) (wl : wfL l) (wo : wfL o) :
    Calls Try.prog 19 #[.agg #[.slice A n c, .slice B m d], .slice C n2 c2, .slice D m2 d2] w fun e w' => e = .returned (.bool (okK k l o)) ∧ Below w.heap.size w w' := by
  have hb0 : Below w.heap.size w (w.alloc (.cells #[.slice A n c, .slice B m d] 27)) := (Below.refl _ _).alloc (Nat.le_refl _) _
  by_cases h1 : n = n2
  · by_cases h2 : m = n2
    · subst h1
      subst h2
      have t0 := Two.new w (.slice A m c) (.slice B m d) 27
      have hK := fun (V : World) (j : Nat) (hj : j < m) (ht : Two V w.heap.size (.slice A m c) (.slice B m d)) (hb : Below w.heap.size w V) =>
        impl_wantM A B m m c d w.heap.size k V C D m m2 c2 d2 j l o hm hm hm2 hl ho hj hj ht ((h.below hb (Nat.le_refl _)).wide (Nat.le_refl _) hb.size) ((hC.below hb (Nat.le_refl _)).wide (Nat.le_refl _) hb.size) ((hD.below hb (Nat.le_refl _)).wide (Nat.le_refl _) hb.size) wl wo
      have H := Lib.hid h
      have HL := Lib.hid hl
      have HKK := Lib.hid hK
      have HB := Lib.hid hb0
      clear h hC hD hb0 hl ho hK wk wl wo
      go_enter Try.func19, Try.ntmps19
      go_wp2_with fail
      generalize w.alloc (.cells #[.slice A m c, .slice B m d] 27) = W at t0 HB ⊢
      have T0 := Lib.hid t0
      clear t0
      go_loopw [26] (fun i wr => ∃ (j : Nat), j ≤ m ∧ i = .int .i64 j ∧ holdK k l o j ∧ Below W.heap.size W wr) (fun i _ => m - (intOf i).toNat)
      case atStart => exact ⟨0, Nat.zero_le _, rfl, fun i hi => by omega, Below.refl _ _⟩
      case round =>
        obtain ⟨j, hj, rfl, hh, hbr⟩ := hrel
        have HH := Lib.hid hh
        clear hh
        by_cases hlt : j < m
        · have hi0 : (0 : Int) ≤ (j : Int) := Int.natCast_nonneg _
          have hi1 : (j : Int) < (m : Int) := by omega
          have hl2 : j < k.2.length := by rw [H.out.l2]; exact hlt
          have hl3 : j < l.length := by rw [HL.out]; exact hlt
          have HJ := Lib.hid hl3
          obtain ⟨b', off', rfl, g1, hb', y2, y3⟩ := slot_at H.out.r2 j hl2
          have hbw := HB.out.trans (hbr.mono HB.out.size)
          have z2 := (hbw.cell (p := ⟨b', off' + j * 2, none⟩) hb').trans y2
          have z3 := (hbw.cell (p := ⟨b', off' + j * 2 + 1, none⟩) hb').trans y3
          have hS : k.2.getD j (-1, 0) = k.2[j] := by simp [List.getD_eq_getElem?_getD, List.getElem?_eq_getElem hl2]
          have hK := HKK.out
          obtain ⟨⟨sx, sy⟩, hxy⟩ : ∃ s, s = k.2[j] := ⟨_, rfl⟩
          rw [← hxy] at z2 z3 hS
          dsimp only at z2 z3
          clear hxy y2 y3 hl2 hl3 g1
          have HS := Lib.hid hS
          have hK := fun (V : World) (hq : Below W.heap.size W V) => HKK.out V j hlt (T0.out.below hq) (HB.out.trans (hq.mono HB.out.size))
          obtain ⟨⟨cx, cy⟩, hxy⟩ : ∃ s, s = wantK k l o j := ⟨_, rfl⟩
          rw [← hxy] at hK
          have HW := Lib.hid hxy.symm
          have HK := Lib.hid hK
          clear hS hK hxy
          have t2 := Two.new wr (.int .i64 sx) (.int .i64 sy) 36
          have hb2 := hbr.alloc hbr.size (.cells #[.int .i64 sx, .int .i64 sy] 36)
          go_wp2_with fail
          generalize wr.alloc (.cells #[.int .i64 sx, .int .i64 sy] 36) = W3 at t2 hb2 ⊢
          generalize wr.heap.size = zs at t2 ⊢
          have HT2 := Lib.hid t2
          have HB2 := Lib.hid hb2
          clear t2 hb2 z2 z3 hbw hbr
          by_cases hx : sx = cx
          · by_cases hy : sy = cy
            · subst hx
              subst hy
              refine Ord.wp_region_ord (fun w' => w'.cell? ⟨zs, 0, none⟩ = some (.int .i64 sx) ∧ w'.cell? ⟨zs, 1, none⟩ = some (.int .i64 sy)) [(0, true), (1, true), (2, true), (3, true), (4, false), (5, true)] (by kernel_rfl) (by kernel_rfl) rfl (by kernel_rfl) (⟨HT2.out.1, HT2.out.2.1⟩) ?_
              simp only [Ord.ordOps, List.getElem?_toArray, List.getElem?_cons_zero, List.getElem?_cons_succ]
              repeat (first
                | (refine Ord.ord_plain (v := ?_) rfl (fun w' hS => ?_) ?_; rotate_left; (focus ((try dsimp only at hS); go_simp; first | done | with_reducible rfl)); simp only [Act.put, List.setIfInBounds_toArray, List.set_cons_zero, List.set_cons_succ])
                | (refine Ord.ord_skip (by rfl) ?_; simp only [Act.put, List.setIfInBounds_toArray, List.set_cons_zero, List.set_cons_succ])
                | (refine Ord.ord_take (v := ?_) (by rfl) (fun w' hS => ?_) ?_; rotate_left; (focus ((try dsimp only at hS); go_simp; first | done | with_reducible rfl)); simp only [Act.put, List.setIfInBounds_toArray, List.set_cons_zero, List.set_cons_succ]))
              refine Ord.ord_call (fun K hK => ?_)
              go_simp
              refine (HK.out _ HB2.out.drew).mono ?_
              rintro e w5 ⟨rfl, hb5⟩
              have ht5 := Two.below (show Two W3.drew zs (.int .i64 sx) (.int .i64 sy) from HT2.out) hb5
              refine hK.out _ _ ⟨ht5.1, ht5.2.1⟩ ?_
              clear hK K
              have HB5 := Lib.hid (btr HB2.out.drew hb5)
              clear ht5 hb5
              repeat (first
                | (refine Ord.ord_plain (v := ?_) rfl (fun w' hS => ?_) ?_; rotate_left; (focus ((try dsimp only at hS); go_simp; first | done | with_reducible rfl)); simp only [Act.put, List.setIfInBounds_toArray, List.set_cons_zero, List.set_cons_succ])
                | (refine Ord.ord_skip (by rfl) ?_; simp only [Act.put, List.setIfInBounds_toArray, List.set_cons_zero, List.set_cons_succ])
                | (refine Ord.ord_take (v := ?_) (by rfl) (fun w' hS => ?_) ?_; rotate_left; (focus ((try dsimp only at hS); go_simp; first | done | with_reducible rfl)); simp only [Act.put, List.setIfInBounds_toArray, List.set_cons_zero, List.set_cons_succ]))
              refine Ord.ord_nil ?_
              go_wp2_with fail
              go_roundw
              case rel => exact ⟨j + 1, by omega, by go_num, holdK_step HH.out (by rw [HS.out, HW.out]), HB5.out⟩
              case measure => simp [intOf]; omega
            · have hy' : (sy == cy) = false := by simpa using hy
              have HN := Lib.hid (okK_no (j := j) HJ.out (by rw [HS.out, HW.out]; simp; exact fun _ => hy))
              subst hx
              clear hy
              refine Ord.wp_region_ord (fun w' => w'.cell? ⟨zs, 0, none⟩ = some (.int .i64 sx) ∧ w'.cell? ⟨zs, 1, none⟩ = some (.int .i64 sy)) [(0, true), (1, true), (2, true), (3, true), (4, false), (5, true)] (by kernel_rfl) (by kernel_rfl) rfl (by kernel_rfl) (⟨HT2.out.1, HT2.out.2.1⟩) ?_
              simp only [Ord.ordOps, List.getElem?_toArray, List.getElem?_cons_zero, List.getElem?_cons_succ]
              repeat (first
                | (refine Ord.ord_plain (v := ?_) rfl (fun w' hS => ?_) ?_; rotate_left; (focus ((try dsimp only at hS); go_simp; first | done | with_reducible rfl)); simp only [Act.put, List.setIfInBounds_toArray, List.set_cons_zero, List.set_cons_succ])
                | (refine Ord.ord_skip (by rfl) ?_; simp only [Act.put, List.setIfInBounds_toArray, List.set_cons_zero, List.set_cons_succ])
                | (refine Ord.ord_take (v := ?_) (by rfl) (fun w' hS => ?_) ?_; rotate_left; (focus ((try dsimp only at hS); go_simp; first | done | with_reducible rfl)); simp only [Act.put, List.setIfInBounds_toArray, List.set_cons_zero, List.set_cons_succ]))
              refine Ord.ord_call (fun K hK => ?_)
              go_simp
              refine (HK.out _ HB2.out.drew).mono ?_
              rintro e w5 ⟨rfl, hb5⟩
              have ht5 := Two.below (show Two W3.drew zs (.int .i64 sx) (.int .i64 sy) from HT2.out) hb5
              refine hK.out _ _ ⟨ht5.1, ht5.2.1⟩ ?_
              clear hK K
              have HB5 := Lib.hid (btr HB2.out.drew hb5)
              clear ht5 hb5
              repeat (first
                | (refine Ord.ord_plain (v := ?_) rfl (fun w' hS => ?_) ?_; rotate_left; (focus ((try dsimp only at hS); go_simp; first | done | with_reducible rfl)); simp only [Act.put, List.setIfInBounds_toArray, List.set_cons_zero, List.set_cons_succ])
                | (refine Ord.ord_skip (by rfl) ?_; simp only [Act.put, List.setIfInBounds_toArray, List.set_cons_zero, List.set_cons_succ])
                | (refine Ord.ord_take (v := ?_) (by rfl) (fun w' hS => ?_) ?_; rotate_left; (focus ((try dsimp only at hS); go_simp; first | done | with_reducible rfl)); simp only [Act.put, List.setIfInBounds_toArray, List.set_cons_zero, List.set_cons_succ]))
              refine Ord.ord_nil ?_
              go_wp2_with fail
              go_ret
              exact ⟨by rw [HN.out]; rfl, HB.out.trans (HB5.out.mono HB.out.size)⟩
          · have hx' : (sx == cx) = false := by simpa using hx
            have HN := Lib.hid (okK_no (j := j) HJ.out (by rw [HS.out, HW.out]; simp; intro hh; exact absurd hh hx))
            clear hx
            refine Ord.wp_region_ord (fun w' => w'.cell? ⟨zs, 0, none⟩ = some (.int .i64 sx) ∧ w'.cell? ⟨zs, 1, none⟩ = some (.int .i64 sy)) [(0, true), (1, true), (2, true), (3, true), (4, false), (5, true)] (by kernel_rfl) (by kernel_rfl) rfl (by kernel_rfl) (⟨HT2.out.1, HT2.out.2.1⟩) ?_
            simp only [Ord.ordOps, List.getElem?_toArray, List.getElem?_cons_zero, List.getElem?_cons_succ]
            repeat (first
              | (refine Ord.ord_plain (v := ?_) rfl (fun w' hS => ?_) ?_; rotate_left; (focus ((try dsimp only at hS); go_simp; first | done | with_reducible rfl)); simp only [Act.put, List.setIfInBounds_toArray, List.set_cons_zero, List.set_cons_succ])
              | (refine Ord.ord_skip (by rfl) ?_; simp only [Act.put, List.setIfInBounds_toArray, List.set_cons_zero, List.set_cons_succ])
              | (refine Ord.ord_take (v := ?_) (by rfl) (fun w' hS => ?_) ?_; rotate_left; (focus ((try dsimp only at hS); go_simp; first | done | with_reducible rfl)); simp only [Act.put, List.setIfInBounds_toArray, List.set_cons_zero, List.set_cons_succ]))
            refine Ord.ord_call (fun K hK => ?_)
            go_simp
            refine (HK.out _ HB2.out.drew).mono ?_
            rintro e w5 ⟨rfl, hb5⟩
            have ht5 := Two.below (show Two W3.drew zs (.int .i64 sx) (.int .i64 sy) from HT2.out) hb5
            refine hK.out _ _ ⟨ht5.1, ht5.2.1⟩ ?_
            clear hK K
            have HB5 := Lib.hid (btr HB2.out.drew hb5)
            clear ht5 hb5
            repeat (first
              | (refine Ord.ord_plain (v := ?_) rfl (fun w' hS => ?_) ?_; rotate_left; (focus ((try dsimp only at hS); go_simp; first | done | with_reducible rfl)); simp only [Act.put, List.setIfInBounds_toArray, List.set_cons_zero, List.set_cons_succ])
              | (refine Ord.ord_skip (by rfl) ?_; simp only [Act.put, List.setIfInBounds_toArray, List.set_cons_zero, List.set_cons_succ])
              | (refine Ord.ord_take (v := ?_) (by rfl) (fun w' hS => ?_) ?_; rotate_left; (focus ((try dsimp only at hS); go_simp; first | done | with_reducible rfl)); simp only [Act.put, List.setIfInBounds_toArray, List.set_cons_zero, List.set_cons_succ]))
            refine Ord.ord_nil ?_
            go_wp2_with fail
            go_ret
            exact ⟨by rw [HN.out]; rfl, HB.out.trans (HB5.out.mono HB.out.size)⟩
        · obtain rfl : j = m := by omega
          have HE := Lib.hid (okK_yes H.out.l1 H.out.l2 HL.out HH.out)
          have HBR := Lib.hid (HB.out.trans (hbr.mono HB.out.size))
          clear hbr
          go_wp2_with fail
          go_ret
          exact ⟨by rw [HE.out]; rfl, HBR.out⟩
    · have hE := Lib.hid (okK_len (k := k) (l := l) (o := o) (by rw [h.l1, h.l2, hl]; omega))
      have HB := Lib.hid hb0
      have h2' : ((m : Int) != (n2 : Int)) = true := by simp; omega
      subst h1
      clear h2 h hl ho hb0
      go_enter Try.func19, Try.ntmps19
      go_wp2_with fail
      go_ret
      exact ⟨by rw [hE.out]; rfl, HB.out⟩
  · have hE := Lib.hid (okK_len (k := k) (l := l) (o := o) (by rw [h.l1, h.l2, hl]; omega))
    have HB := Lib.hid hb0
    have h1' : ((n : Int) != (n2 : Int)) = true := by simp; omega
    clear h1 h hl ho hb0
    go_enter Try.func19, Try.ntmps19
    go_wp2_with fail
    go_ret
    exact ⟨by rw [hE.out]; rfl, HB.out⟩
end
end Go.Proofs.Ytfgckkgakghenaa.Kepts
