/-
  Shadow tables: the given model's Ask, ForgetUses, ForgetAll and KeptOk. No condition beyond a table's length.
-/
import Derived.Test.YtfgckkgakghenaaKeptS2
namespace Go.Proofs.Ytfgckkgakghenaa.Kepts
set_option maxRecDepth 100000
open Go.ChangeShapes Go.WideShapes Go.ChangeAt Go.RowKit
open Go.Proofs.Ytfgckkgakghenaa.Base Go.Proofs.Ytfgckkgakghenaa.Mem Go.Proofs.Ytfgckkgakghenaa.Slots Go.Proofs.Ytfgckkgakghenaa.Bools Go.Proofs.Ytfgckkgakghenaa.Data
set_option linter.unusedVariables false
set_option linter.unusedSimpArgs false

def AskP (w : World) (s : Sl × Bool) (e : Ending) (w' : World) : Prop := e = .returned (.tuple #[.agg #[.int .i64 s.1.1, .int .i64 s.1.2], .bool s.2]) ∧ Below w.heap.size w w'
theorem askK_no {k : KD} {page : Int} (h : hasK k page = false) : askK k page = ((-1, 0), false) := by unfold askK; rw [h]; simp
def holdK (k : KD) (l o : List Sl) (j : Nat) : Prop := ∀ i, i < j → k.2.getD i (-1, 0) = wantK k l o i
theorem holdK_step {k : KD} {l o : List Sl} {j : Nat} (h : holdK k l o j) (hj : k.2.getD j (-1, 0) = wantK k l o j) : holdK k l o (j + 1) := fun i hi => by
  rcases Nat.lt_succ_iff_lt_or_eq.1 hi with h1 | rfl
  · exact h i h1
  · exact hj
theorem okK_yes {k : KD} {l o : List Sl} {n : Nat} (h1 : k.1.length = n) (h2 : k.2.length = n) (h3 : l.length = n) (h : holdK k l o n) : okK k l o = true := by
  unfold okK
  rw [h1, h2, h3]
  simp only [and_self, decide_true, Bool.true_and, List.all_eq_true, List.mem_range, decide_eq_true_eq]
  exact h
theorem okK_no {k : KD} {l o : List Sl} {j : Nat} (hj : j < l.length) (h : k.2.getD j (-1, 0) ≠ wantK k l o j) : okK k l o = false := by
  unfold okK
  rw [Bool.and_eq_false_iff]
  right
  rw [List.all_eq_false]
  exact ⟨j, List.mem_range.2 hj, by simpa using h⟩
theorem okK_len {k : KD} {l o : List Sl} (h : ¬ (k.1.length = l.length ∧ k.2.length = l.length)) : okK k l o = false := by
  unfold okK
  rw [Bool.and_eq_false_iff]
  left
  simpa using h
section
variable (A B : Option Addr) (n m c d lo : Nat) (k : KD) (w : World)

set_option maxRecDepth 100000 in
set_option maxHeartbeats 2000000 in
theorem spec_ask (page : Int) (hn : n ≤ 1048576) (hm : m ≤ 1048576) (h : KR w 0 w.heap.size k A B n m) :
    Calls Try.prog 23 #[.agg #[.slice A n c, .slice B m d], .int .i64 page] w (AskP w (askK k page)) := by
  obtain ⟨t1, t2, hb2⟩ := two_two w (.slice A n c) (.slice B m d) (.int .i64 0) (.int .i64 0) 27 36
  have hH := fun V : World => spec_has A B n m c d k V page hn hm h.l1 h.l2
  have H := Lib.hid h
  clear h
  go_enter Try.func23, Try.ntmps23
  go_wp2_with fail
  generalize (w.alloc (.cells #[.slice A n c, .slice B m d] 27)).alloc (.cells #[.int .i64 0, .int .i64 0] 36) = W at t1 t2 hb2 ⊢
  cases hp : hasK k page
  · rw [hp] at hH
    have HH := Lib.hid hH
    have HE := Lib.hid (askK_no hp)
    clear hH hp
    refine (HH.out _).mono ?_
    rintro e w1 ⟨rfl, hb1⟩
    have HB1 := Lib.hid (hb2.trans (hb1.mono hb2.size))
    have HT1 := Lib.hid (t2.below hb1)
    clear hb1 hb2 t1 t2
    go_wp2_with fail
    refine (spec_no _).mono ?_
    rintro e w2 ⟨rfl, hb2⟩
    obtain ⟨q0, q1, g0, g1, _⟩ := HT1.out.below hb2
    have HB2 := Lib.hid (btr HB1.out hb2)
    clear hb2
    go_wp2_with fail
    exact bodyPost_ret (v := .tuple #[.agg #[.int .i64 (-1), .int .i64 0], .bool false]) (by simp [results, Try.results23, go_sem, q0, q1]) rfl ⟨by rw [HE.out], set_two HB2.out (by omega) _ _⟩
  · obtain ⟨h0, h1, h2⟩ := hasK_yes hp
    obtain ⟨j, rfl⟩ := Int.eq_ofNat_of_zero_le h0
    have hj1 : j < n := by have := H.out.l1; omega
    have hj2 : j < m := by have := H.out.l2; omega
    have hi0 : (0 : Int) ≤ (j : Int) := Int.natCast_nonneg _
    have hi1 : (j : Int) < (n : Int) := by omega
    have hi2 : (j : Int) < (m : Int) := by omega
    have hl1 : j < k.1.length := by rw [H.out.l1]; exact hj1
    have hl2 : j < k.2.length := by rw [H.out.l2]; exact hj2
    obtain ⟨b, off, e0, _, hb, y1⟩ := bool_at H.out.r1 j hl1
    obtain ⟨b', off', e1, _, hb', y2, y3⟩ := slot_at H.out.r2 j hl2
    subst e0
    subst e1
    have hE : askK k (j : Int) = if k.1[j] = true then (k.2[j], true) else ((-1, 0), false) := by
      unfold askK
      rw [hp]
      simp [List.getD_eq_getElem?_getD, List.getElem?_eq_getElem hl1, List.getElem?_eq_getElem hl2]
    rw [hp] at hH
    have HH := Lib.hid hH
    clear hH hp h0 h1 h2
    have HI := Lib.hid (show ∀ V, Below w.heap.size w V → V.cell? ⟨b, off + j, none⟩ = some (.bool k.1[j]) ∧ V.cell? ⟨b', off' + j * 2, none⟩ = some (.int .i64 k.2[j].1) ∧ V.cell? ⟨b', off' + j * 2 + 1, none⟩ = some (.int .i64 k.2[j].2) from fun V hV => ⟨(hV.cell hb).trans y1, (hV.cell hb').trans y2, (hV.cell hb').trans y3⟩)
    clear y1 y2 y3
    generalize k.1[j] = kb at HI hE
    obtain ⟨⟨x, y⟩, hxy⟩ : ∃ s, s = k.2[j] := ⟨_, rfl⟩
    rw [← hxy] at HI hE
    clear hxy
    refine (HH.out _).mono ?_
    rintro e w1 ⟨rfl, hb1⟩
    have HB1 := Lib.hid (hb2.trans (hb1.mono hb2.size))
    have HT1 := Lib.hid (t2.below hb1)
    obtain ⟨i0, i1, _, _, _⟩ := t1.below hb1
    obtain ⟨q0, q1, g0, g1, _⟩ := t2.below hb1
    obtain ⟨z1, z2, z3⟩ := HI.out _ HB1.out
    clear hb1 hb2 t1 t2
    cases kb
    · have HE := Lib.hid hE
      clear hE q0 q1 g0 g1 z2 z3
      go_wp2_with fail
      refine (spec_no _).mono ?_
      rintro e w2 ⟨rfl, hb2⟩
      obtain ⟨q0, q1, g0, g1, _⟩ := HT1.out.below hb2
      have HB2 := Lib.hid (btr HB1.out hb2)
      clear hb2
      go_wp2_with fail
      exact bodyPost_ret (v := .tuple #[.agg #[.int .i64 (-1), .int .i64 0], .bool false]) (by simp [results, Try.results23, go_sem, q0, q1]) rfl ⟨by rw [HE.out]; rfl, set_two HB2.out (by omega) _ _⟩
    · have HE := Lib.hid hE
      clear hE
      go_wp2_with fail
      exact bodyPost_ret (v := .tuple #[.agg #[.int .i64 x, .int .i64 y], .bool true]) (by simp [results, Try.results23, go_sem, q0, q1]) rfl ⟨by rw [HE.out]; rfl, set_two HB1.out (by omega) _ _⟩

theorem Fr.next {V V' : World} {z : Nat} {u v u' v' : Value} {k k' : KD} {A B A' B' : Option Addr} {n m : Nat} {w : World} (h : Fr w z V u v k A B n m) (hk : KO V' V.heap.size V'.heap.size k' A' B' n m) (hb : Below V.heap.size V V') :
    Fr w z ((V'.setCell ⟨z, 0, none⟩ u').setCell ⟨z, 1, none⟩ v') u' v' k' A' B' n m := by
  have hz := h.rs.2.2.2.2
  exact Fr.keep (u := u) (v := v) ⟨h.bx.below hb, h.rs.below hb, hk.wide (by omega) (Nat.le_refl _), h.bw.trans (hb.mono (by omega))⟩
def upTo (j : Nat) : List Int := (List.range j).map fun (i : Nat) => (i : Int)
theorem upTo_snoc (j : Nat) : upTo (j + 1) = upTo j ++ [(j : Int)] := by simp [upTo, List.range_succ]

set_option maxRecDepth 100000 in
set_option maxHeartbeats 4000000 in
theorem spec_all (hn : n ≤ 1048576) (hm : m ≤ 1048576) (h : KR w 0 w.heap.size k A B n m) :
    Calls Try.prog 33 #[.agg #[.slice A n c, .slice B m d]] w (KP w n m (allK k)) := by
  obtain ⟨t1, t2, hb2⟩ := two_two w (.slice A n c) (.slice B m d) (.slice none 0 0) (.slice none 0 0) 27 27
  have hsz : ((w.alloc (.cells #[.slice A n c, .slice B m d] 27)).alloc (.cells #[.slice none 0 0, .slice none 0 0] 27)).heap.size = w.heap.size + 2 := by simp
  have HE := Lib.hid (show allK k = forgetsK k (upTo n) by unfold allK upTo; rw [h.l1])
  have H := Lib.hid h
  clear h
  go_enter Try.func33, Try.ntmps33
  go_wp2_with fail
  generalize (w.alloc (.cells #[.slice A n c, .slice B m d] 27)).alloc (.cells #[.slice none 0 0, .slice none 0 0] 27) = W at t1 t2 hb2 hsz ⊢
  refine (spec_copy A B n m c d k W hn hm ((H.out.below hb2 (Nat.le_refl _)).wide (Nat.le_refl _) hb2.size)).mono ?_
  rintro e w1 ⟨A1, c1, B1, d1, rfl, hk1, hb1⟩
  have F1 : Fr w w.heap.size w1 (.slice A n c) (.slice B m d) k A1 B1 n m := ⟨t1.below hb1, t2.below hb1, hk1.wide (by omega) (Nat.le_refl _), hb2.trans (hb1.mono hb2.size)⟩
  have F2 := F1.keep (u' := .slice A1 n c1) (v' := .slice B1 m d1)
  obtain ⟨j0, j1, f0, f1, _⟩ := F1.bx
  have HF := Lib.hid F2
  clear t1 t2 hb2 hb1 hk1 F1 F2
  go_wp2_with fail
  generalize ((w1.setCell ⟨w.heap.size, 0, none⟩ (.slice A1 n c1)).setCell ⟨w.heap.size, 1, none⟩ (.slice B1 m d1)) = W2 at HF ⊢
  clear j0 j1 f0 f1
  go_loopw [3] (fun i wr => ∃ (j : Nat) (A' B' : Option Addr) (c' d' : Nat), j ≤ n ∧ i = .int .i64 j ∧ Fr w w.heap.size wr (.slice A' n c') (.slice B' m d') (forgetsK k (upTo j)) A' B' n m) (fun i _ => n - (intOf i).toNat)
  case atStart => exact ⟨0, A1, B1, c1, d1, Nat.zero_le _, rfl, HF.out⟩
  case round =>
    obtain ⟨j, A', B', c', d', hj, rfl, hF⟩ := hrel
    obtain ⟨i0, i1, g0, g1, _⟩ := hF.bx
    by_cases hlt : j < n
    · have hi0 : (0 : Int) ≤ (j : Int) := Int.natCast_nonneg _
      have hi1 : (j : Int) < (n : Int) := by omega
      have hK := spec_forget A' B' n m c' d' (forgetsK k (upTo j)) wr (j : Int) hn hm (hF.ko.reads.wide (Nat.zero_le _) (Nat.le_refl _))
      rw [← forgetsK_snoc, ← upTo_snoc] at hK
      have HK := Lib.hid hK
      have HF := Lib.hid hF
      clear hK hF
      go_wp2_with fail
      refine (HK.out).mono ?_
      rintro e w5 ⟨A2, c2, B2, d2, rfl, hk2, hb2⟩
      obtain ⟨y0, y1, p0, p1, _⟩ := HF.out.bx.below hb2
      have HN := Lib.hid (HF.out.next (u' := .slice A2 n c2) (v' := .slice B2 m d2) hk2 hb2)
      clear hk2 hb2
      go_wp2_with fail
      go_roundw
      case rel => exact ⟨j + 1, A2, B2, c2, d2, by omega, by go_num, HN.out⟩
      case measure => simp [intOf]; omega
    · obtain rfl : j = n := by omega
      obtain ⟨q0, q1, r0, r1, _⟩ := hF.rs
      have HF := Lib.hid hF
      clear hF
      go_wp2_with fail
      exact bodyPost_ret (v := .agg #[.slice A' j c', .slice B' m d']) (by simp [results, Try.results33, go_sem, q0, q1]) rfl ⟨_, _, _, _, rfl, by rw [HE.out]; exact HF.out.done.1, HF.out.done.2⟩

theorem list_kept {V V' : World} {AL : Option Addr} {L : List Int} {z : Nat} {u v : Value} (h : Lies V (z + 2) V.heap.size AL (Ints.ncells L)) (hb : Below V.heap.size V V') : Lies ((V'.setCell ⟨z, 0, none⟩ u).setCell ⟨z, 1, none⟩ v) (z + 2) ((V'.setCell ⟨z, 0, none⟩ u).setCell ⟨z, 1, none⟩ v).heap.size AL (Ints.ncells L) :=
  ((h.kept fun q h1 h2 => (Below.heap_setCell _ ⟨z, 1, none⟩ v q (by show q ≠ z; omega)).trans ((Below.heap_setCell _ ⟨z, 0, none⟩ u q (by show q ≠ z; omega)).trans (hb.block q h2))).wide (Nat.le_refl _) (by simp; exact hb.size))
theorem take_snoc_int {L : List Int} {j : Nat} (h : j < L.length) : L.take (j + 1) = L.take j ++ [L[j]] := List.take_succ_eq_append_getElem h

set_option maxRecDepth 100000 in
set_option maxHeartbeats 4000000 in
theorem spec_usesK (C : Option Addr) (n2 c2' : Nat) (page : Int) (l : List Sl) (hn : n ≤ 1048576) (hm : m ≤ 1048576) (hn2 : n2 ≤ 1048576) (hl : l.length = n2) (h : KR w 0 w.heap.size k A B n m) (hC : Lies w 0 w.heap.size C (scells l)) :
    Calls Try.prog 31 #[.agg #[.slice A n c, .slice B m d], .slice C n2 c2', .int .i64 page] w (KP w n m (usesK k l page)) := by
  obtain ⟨t1, t2, hb2⟩ := two_two w (.slice A n c) (.slice B m d) (.slice none 0 0) (.slice none 0 0) 27 27
  have hsz : ((w.alloc (.cells #[.slice A n c, .slice B m d] 27)).alloc (.cells #[.slice none 0 0, .slice none 0 0] 27)).heap.size = w.heap.size + 2 := by simp
  have hus := useS_le l page
  have HU0 := Lib.hid (show ∀ V, Below w.heap.size w V → Calls Try.prog 43 #[.slice C n2 c2', .int .i64 page] V (UsesPost V (useS l page)) from fun V hb => spec_uses C n2 c2' 0 page l V hn2 hl ((hC.below hb (Nat.le_refl _)).wide (Nat.le_refl _) hb.size))
  have H := Lib.hid h
  clear h hC
  unfold usesK
  generalize useS l page = L at HU0 hus ⊢
  have hL : L.length ≤ 1048576 := by omega
  clear hus hl
  go_enter Try.func31, Try.ntmps31
  go_wp2_with fail
  generalize (w.alloc (.cells #[.slice A n c, .slice B m d] 27)).alloc (.cells #[.slice none 0 0, .slice none 0 0] 27) = W at t1 t2 hb2 hsz ⊢
  refine (spec_copy A B n m c d k W hn hm ((H.out.below hb2 (Nat.le_refl _)).wide (Nat.le_refl _) hb2.size)).mono ?_
  rintro e w1 ⟨A1, c1, B1, d1, rfl, hk1, hb1⟩
  have F1 : Fr w w.heap.size w1 (.slice A n c) (.slice B m d) k A1 B1 n m := ⟨t1.below hb1, t2.below hb1, hk1.wide (by omega) (Nat.le_refl _), hb2.trans (hb1.mono hb2.size)⟩
  have F2 := F1.keep (u' := .slice A1 n c1) (v' := .slice B1 m d1)
  obtain ⟨j0, j1, f0, f1, _⟩ := F1.bx
  have HF := Lib.hid F2
  have hz2 : w.heap.size + 2 ≤ w1.heap.size := by have := hb1.size; omega
  clear t1 t2 hb2 hb1 hk1 F1 F2
  go_wp2_with fail
  have hzw : ((w1.setCell ⟨w.heap.size, 0, none⟩ (.slice A1 n c1)).setCell ⟨w.heap.size, 1, none⟩ (.slice B1 m d1)).heap.size = w1.heap.size := by simp
  generalize ((w1.setCell ⟨w.heap.size, 0, none⟩ (.slice A1 n c1)).setCell ⟨w.heap.size, 1, none⟩ (.slice B1 m d1)) = W2 at HF hzw ⊢
  clear j0 j1 f0 f1
  refine (HU0.out _ HF.out.bw).mono ?_
  rintro e w3 ⟨AL, nl, cl, rfl, hnl, hol, hb3⟩
  have HF3 := Lib.hid (HF.out.below hb3)
  have HU3 := Lib.hid (hol.1.wide (show w.heap.size + 2 ≤ W2.heap.size by omega) (Nat.le_refl _))
  have HNL := Lib.hid hnl
  have hnl2 : nl ≤ 1048576 := by omega
  clear hol hb3 HF hL hnl
  go_wp2_with fail
  go_loopw [8] (fun i wr => ∃ (j : Nat) (A' B' : Option Addr) (c' d' : Nat), j ≤ nl ∧ i = .int .i64 j ∧ Fr w w.heap.size wr (.slice A' n c') (.slice B' m d') (forgetsK k (L.take j)) A' B' n m ∧ Lies wr (w.heap.size + 2) wr.heap.size AL (Ints.ncells L)) (fun i _ => nl - (intOf i).toNat)
  case atStart => exact ⟨0, A1, B1, c1, d1, Nat.zero_le _, rfl, HF3.out, HU3.out⟩
  case round =>
    obtain ⟨j, A', B', c', d', hj, rfl, hF, hU⟩ := hrel
    obtain ⟨i0, i1, g0, g1, _⟩ := hF.bx
    by_cases hlt : j < nl
    · have hi0 : (0 : Int) ≤ (j : Int) := Int.natCast_nonneg _
      have hi1 : (j : Int) < (nl : Int) := by omega
      have hjl : j < L.length := by have := HNL.out; omega
      obtain ⟨bl, ol, e0, hbl0, hbl, lc⟩ := Ints.int_at hU j hjl
      subst e0
      have hK := spec_forget A' B' n m c' d' (forgetsK k (L.take j)) wr.drew L[j] hn hm ((hF.below ((Below.refl _ _).drew)).ko.reads.wide (Nat.zero_le _) (Nat.le_refl _))
      rw [← forgetsK_snoc, ← take_snoc_int hjl] at hK
      generalize L[j] = p at lc hK
      have HK := Lib.hid hK
      have HF := Lib.hid (hF.below ((Below.refl _ _).drew))
      have HU := Lib.hid (show Lies wr.drew (w.heap.size + 2) wr.drew.heap.size (some ⟨bl, ol, none⟩) (Ints.ncells L) from hU)
      clear hK hF hU
      go_wp2_with fail
      refine Ord.wp_region_ord (fun w' => w'.cell? ⟨bl, ol + j, none⟩ = some (.int .i64 p)) [(1, true), (2, true), (3, true), (4, true), (0, false), (5, false), (6, false)] (by kernel_rfl) (by kernel_rfl) rfl (by kernel_rfl) (lc) ?_
      simp only [Ord.ordOps, List.getElem?_toArray, List.getElem?_cons_zero, List.getElem?_cons_succ]
      repeat (first
        | (refine Ord.ord_plain (v := ?_) rfl (fun w' hS => ?_) ?_; rotate_left; (focus ((try dsimp only at hS); go_simp; first | done | with_reducible rfl)); simp only [Act.put, List.setIfInBounds_toArray, List.set_cons_zero, List.set_cons_succ])
        | (refine Ord.ord_skip (by rfl) ?_; simp only [Act.put, List.setIfInBounds_toArray, List.set_cons_zero, List.set_cons_succ])
        | (refine Ord.ord_take (v := ?_) (by rfl) (fun w' hS => ?_) ?_; rotate_left; (focus ((try dsimp only at hS); go_simp; first | done | with_reducible rfl)); simp only [Act.put, List.setIfInBounds_toArray, List.set_cons_zero, List.set_cons_succ]))
      refine Ord.ord_call (fun K hK => ?_)
      go_simp
      refine hK.out _ _ (lc) ?_
      clear hK K
      repeat (first
        | (refine Ord.ord_plain (v := ?_) rfl (fun w' hS => ?_) ?_; rotate_left; (focus ((try dsimp only at hS); go_simp; first | done | with_reducible rfl)); simp only [Act.put, List.setIfInBounds_toArray, List.set_cons_zero, List.set_cons_succ])
        | (refine Ord.ord_skip (by rfl) ?_; simp only [Act.put, List.setIfInBounds_toArray, List.set_cons_zero, List.set_cons_succ])
        | (refine Ord.ord_take (v := ?_) (by rfl) (fun w' hS => ?_) ?_; rotate_left; (focus ((try dsimp only at hS); go_simp; first | done | with_reducible rfl)); simp only [Act.put, List.setIfInBounds_toArray, List.set_cons_zero, List.set_cons_succ]))
      refine Ord.ord_call (fun K hK => ?_)
      go_simp
      refine (HK.out).mono ?_
      rintro e w5 ⟨A2, c2, B2, d2, rfl, hk2, hb2⟩
      obtain ⟨y0, y1, p0, p1, _⟩ := HF.out.bx.below hb2
      have HN := Lib.hid (HF.out.next (u' := .slice A2 n c2) (v' := .slice B2 m d2) hk2 hb2)
      have lc5 : w5.cell? ⟨bl, ol + j, none⟩ = some (.int .i64 p) := (hb2.cell (p := ⟨bl, ol + j, none⟩) hbl).trans lc
      have lc6 : ((w5.setCell ⟨w.heap.size, 0, none⟩ (.slice A2 n c2)).setCell ⟨w.heap.size, 1, none⟩ (.slice B2 m d2)).cell? ⟨bl, ol + j, none⟩ = some (.int .i64 p) := keep_set lc5 (by omega)
      have HS := Lib.hid (list_kept HU.out hb2 (u := .slice A2 n c2) (v := .slice B2 m d2))
      clear hk2 hb2
      refine hK.out _ _ (lc5) ?_
      clear hK K
      repeat (first
        | (refine Ord.ord_plain (v := ?_) rfl (fun w' hS => ?_) ?_; rotate_left; (focus ((try dsimp only at hS); go_simp; first | done | with_reducible rfl)); simp only [Act.put, List.setIfInBounds_toArray, List.set_cons_zero, List.set_cons_succ])
        | (refine Ord.ord_skip (by rfl) ?_; simp only [Act.put, List.setIfInBounds_toArray, List.set_cons_zero, List.set_cons_succ])
        | (refine Ord.ord_take (v := ?_) (by rfl) (fun w' hS => ?_) ?_; rotate_left; (focus ((try dsimp only at hS); go_simp; first | done | with_reducible rfl)); simp only [Act.put, List.setIfInBounds_toArray, List.set_cons_zero, List.set_cons_succ]))
      refine Ord.ord_call (fun K hK => ?_)
      go_simp
      refine hK.out _ _ (lc6) ?_
      clear hK K
      refine Ord.ord_nil ?_
      clear lc lc5 lc6 y0 y1 p0 p1 i0 i1 g0 g1
      go_wp2_with fail
      go_roundw
      case rel => exact ⟨j + 1, A2, B2, c2, d2, by omega, by go_num, HN.out, HS.out⟩
      case measure => simp [intOf]; omega
    · obtain rfl : j = nl := by omega
      obtain ⟨q0, q1, r0, r1, _⟩ := hF.rs
      have HE := Lib.hid (show L.take j = L from List.take_of_length_le (by have := HNL.out; omega))
      have HF := Lib.hid hF
      clear hF hU
      go_wp2_with fail
      exact bodyPost_ret (v := .agg #[.slice A' n c', .slice B' m d']) (by simp [results, Try.results31, go_sem, q0, q1]) rfl ⟨_, _, _, _, rfl, by rw [← HE.out]; exact HF.out.done.1, HF.out.done.2⟩

set_option maxRecDepth 100000 in
set_option maxHeartbeats 8000000 in
theorem spec_okK (C D : Option Addr) (n2 m2 c2 d2 : Nat) (l o : List Sl) (hn : n ≤ 1048576) (hm : m ≤ 1048576) (hn2 : n2 ≤ 1048576) (hm2 : m2 ≤ 1048576) (hl : l.length = n2) (ho : o.length = m2)
    (h : KR w 0 w.heap.size k A B n m) (hC : Lies w 0 w.heap.size C (scells l)) (hD : Lies w 0 w.heap.size D (scells o)) :
    Calls Try.prog 20 #[.agg #[.slice A n c, .slice B m d], .slice C n2 c2, .slice D m2 d2] w fun e w' => e = .returned (.bool (okK k l o)) ∧ Below w.heap.size w w' := by
  have hb0 : Below w.heap.size w (w.alloc (.cells #[.slice A n c, .slice B m d] 27)) := (Below.refl _ _).alloc (Nat.le_refl _) _
  by_cases h1 : n = n2
  · by_cases h2 : m = n2
    · subst h1
      subst h2
      have t0 := Two.new w (.slice A m c) (.slice B m d) 27
      have H := Lib.hid h
      have HL := Lib.hid hl
      have HO := Lib.hid ho
      have HD := Lib.hid (show ∀ V, Below w.heap.size w V → Lies V 0 V.heap.size D (scells o) from fun V hb => (hD.below hb (Nat.le_refl _)).wide (Nat.le_refl _) hb.size)
      have HC := Lib.hid hC
      have HB := Lib.hid hb0
      clear h hC hD hb0 hl ho
      go_enter Try.func20, Try.ntmps20
      go_wp2_with fail
      generalize w.alloc (.cells #[.slice A m c, .slice B m d] 27) = W at t0 HB ⊢
      go_loopw [7] (fun i wr => ∃ (j : Nat), j ≤ m ∧ i = .int .i64 j ∧ holdK k l o j ∧ Below W.heap.size W wr) (fun i _ => m - (intOf i).toNat)
      case atStart => exact ⟨0, Nat.zero_le _, rfl, fun i hi => by omega, Below.refl _ _⟩
      case round =>
        obtain ⟨j, hj, rfl, hh, hbr⟩ := hrel
        have HH := Lib.hid hh
        clear hh
        by_cases hlt : j < m
        · have hi0 : (0 : Int) ≤ (j : Int) := Int.natCast_nonneg _
          have hi1 : (j : Int) < (m : Int) := by omega
          have hl1 : j < k.1.length := by rw [H.out.l1]; exact hlt
          have hl2 : j < k.2.length := by rw [H.out.l2]; exact hlt
          have hl3 : j < l.length := by rw [HL.out]; exact hlt
          obtain ⟨b, off, e0, _, hb, y1⟩ := bool_at H.out.r1 j hl1
          obtain ⟨b', off', e1, _, hb', y2, y3⟩ := slot_at H.out.r2 j hl2
          obtain ⟨bi, oi, e2, _, hbi, y4, y5⟩ := slot_at HC.out j hl3
          subst e0
          subst e1
          subst e2
          have HJ := Lib.hid hl3
          have hW : wantK k l o j = if k.1[j] = true then compS l[j] o else (-1, 0) := by
            unfold wantK
            have g1 : k.1.getD j false = k.1[j] := by rw [List.getD_eq_getElem?_getD, List.getElem?_eq_getElem hl1]; rfl
            have g2 : l.getD j (-1, 0) = l[j] := by rw [List.getD_eq_getElem?_getD, List.getElem?_eq_getElem hl3]; rfl
            rw [g1, g2]
          have hS : k.2.getD j (-1, 0) = k.2[j] := by simp [List.getD_eq_getElem?_getD, List.getElem?_eq_getElem hl2]
          have HI := Lib.hid (show ∀ V, Below w.heap.size w V → V.cell? ⟨b, off + j, none⟩ = some (.bool k.1[j]) ∧ V.cell? ⟨b', off' + j * 2, none⟩ = some (.int .i64 k.2[j].1) ∧ V.cell? ⟨b', off' + j * 2 + 1, none⟩ = some (.int .i64 k.2[j].2) ∧ V.cell? ⟨bi, oi + j * 2, none⟩ = some (.int .i64 l[j].1) ∧ V.cell? ⟨bi, oi + j * 2 + 1, none⟩ = some (.int .i64 l[j].2) from
            fun V hV => ⟨(hV.cell hb).trans y1, (hV.cell hb').trans y2, (hV.cell hb').trans y3, (hV.cell hbi).trans y4, (hV.cell hbi).trans y5⟩)
          clear y1 y2 y3 y4 y5
          generalize k.1[j] = kb at HI hW
          obtain ⟨⟨sx, sy⟩, hxy⟩ : ∃ s, s = k.2[j] := ⟨_, rfl⟩
          rw [← hxy] at HI hS
          clear hxy
          obtain ⟨⟨x, y⟩, hxy⟩ : ∃ s, s = l[j] := ⟨_, rfl⟩
          rw [← hxy] at HI hW
          clear hxy hl1 hl2 hl3
          have HS := Lib.hid hS
          clear hS
          have HBR := Lib.hid hbr
          go_wp2_with fail
          refine (spec_no _).mono ?_
          rintro e w1 ⟨rfl, hb1⟩
          have hbv : Below W.heap.size W (w1.alloc (.cells #[.int .i64 (-1), .int .i64 0] 36)) := (hbr.trans (hb1.mono hbr.size)).alloc (by have := hbr.size; have := hb1.size; omega) _
          have t1 := Two.new w1 (.int .i64 (-1)) (.int .i64 0) 36
          have hzz : W.heap.size ≤ w1.heap.size := by have := hbr.size; have := hb1.size; omega
          obtain ⟨i0, i1, _, _, _⟩ := t0.below hbv
          have hbw := HB.out.trans (hbv.mono HB.out.size)
          obtain ⟨z1, z2, z3, z4, z5⟩ := HI.out _ hbw
          clear hb1 hbr
          cases kb
          · have HW := Lib.hid (show wantK k l o j = (-1, 0) by rw [hW]; rfl)
            have HBV := Lib.hid (HB.out.trans (hbv.mono HB.out.size))
            have HBQ := Lib.hid hbv
            obtain ⟨r0, r1, _, _, _⟩ := t1
            clear hW hbv hbw
            go_wp2_with fail
            generalize (w1.alloc (.cells #[.int .i64 (-1), .int .i64 0] 36)) = V at HBV HBQ i0 i1 z1 z2 z3 z4 z5 r0 r1 ⊢
            by_cases hx : sx = (-1)
            · subst hx
              by_cases hy : sy = 0
              · subst hy
                go_wp2_with fail
                go_quiet (fail)
                go_wp2_with fail
                go_roundw
                case rel => exact ⟨j + 1, by omega, by go_num, holdK_step HH.out (by rw [HS.out, HW.out]), below_drewN HBQ.out _⟩
                case measure => simp [intOf]; omega
              · have hy' : (sy == 0) = false := by simpa using hy
                go_wp2_with fail
                go_quiet (fail)
                go_wp2_with fail
                go_ret
                exact ⟨by rw [okK_no (j := j) HJ.out (by rw [HS.out, HW.out]; simp; exact hy)]; rfl, below_drewN HBV.out _⟩
            · have hx' : (sx == (-1)) = false := by simpa using hx
              go_wp2_with fail
              go_quiet (fail)
              go_wp2_with fail
              go_ret
              exact ⟨by rw [okK_no (j := j) HJ.out (by rw [HS.out, HW.out]; simp; intro hh; exact absurd hh hx)]; rfl, below_drewN HBV.out _⟩
          · have hK := fun V (h : Lies V 0 V.heap.size D (scells o)) => spec_compSlot D m2 d2 x y o V hm2 HO.out h
            have hW' : wantK k l o j = compS (x, y) o := by rw [hW]; rfl
            generalize compS (x, y) o = s at hK hW'
            obtain ⟨cx, cy⟩ := s
            have HK := Lib.hid hK
            have HW := Lib.hid hW'
            have HBV := Lib.hid hbw
            have HBQ := Lib.hid hbv
            have HT1 := Lib.hid t1
            clear hW hW' hK hbv hbw t1
            go_wp2_with fail
            generalize (w1.alloc (.cells #[.int .i64 (-1), .int .i64 0] 36)) = V at HBV HBQ HT1 i0 i1 z1 z2 z3 z4 z5 ⊢
            refine (HK.out _ (HD.out _ HBV.out)).mono ?_
            rintro e w2 ⟨rfl, hb2⟩
            have hT2 := HT1.out.below hb2
            have hx2 := hb2.size
            have hzv := hT2.2.2.2.2
            have hb3 : Below W.heap.size W ((w2.setCell ⟨w1.heap.size, 0, none⟩ (.int .i64 cx)).setCell ⟨w1.heap.size, 1, none⟩ (.int .i64 cy)) := set_two (HBQ.out.trans (hb2.mono HBQ.out.size)) hzz _ _
            obtain ⟨r0, r1, r2, r3, _⟩ := Two.set1 (x := .int .i64 cy) (Two.set0 (x := .int .i64 cx) hT2)
            obtain ⟨p0, p1, p2, p3, _⟩ := hT2
            obtain ⟨i0, i1, _, _, _⟩ := t0.below hb3
            have hb4 := HB.out.trans (hb3.mono HB.out.size)
            obtain ⟨z1, z2, z3, z4, z5⟩ := HI.out _ hb4
            have HBV := Lib.hid hb4
            have HBQ := Lib.hid hb3
            clear hb2 hb3 hb4
            go_wp2_with fail
            generalize ((w2.setCell ⟨w1.heap.size, 0, none⟩ (.int .i64 cx)).setCell ⟨w1.heap.size, 1, none⟩ (.int .i64 cy)) = V3 at HBV HBQ i0 i1 z1 z2 z3 z4 z5 r0 r1 r2 r3 ⊢
            by_cases hx : sx = cx
            · subst hx
              by_cases hy : sy = cy
              · subst hy
                go_wp2_with fail
                go_quiet (fail)
                go_wp2_with fail
                go_roundw
                case rel => exact ⟨j + 1, by omega, by go_num, holdK_step HH.out (by rw [HS.out, HW.out]), below_drewN HBQ.out _⟩
                case measure => simp [intOf]; omega
              · have hy' : (sy == cy) = false := by simpa using hy
                go_wp2_with fail
                go_quiet (fail)
                go_wp2_with fail
                go_ret
                exact ⟨by rw [okK_no (j := j) HJ.out (by rw [HS.out, HW.out]; simp; exact hy)]; rfl, below_drewN HBV.out _⟩
            · have hx' : (sx == cx) = false := by simpa using hx
              go_wp2_with fail
              go_quiet (fail)
              go_wp2_with fail
              go_ret
              exact ⟨by rw [okK_no (j := j) HJ.out (by rw [HS.out, HW.out]; simp; intro hh; exact absurd hh hx)]; rfl, below_drewN HBV.out _⟩
        · obtain rfl : j = m := by omega
          obtain ⟨i0, i1, _, _, _⟩ := t0.below hbr
          have HE := Lib.hid (okK_yes H.out.l1 H.out.l2 HL.out HH.out)
          have HBR := Lib.hid (HB.out.trans (hbr.mono HB.out.size))
          clear hbr
          go_wp2_with fail
          go_ret
          exact ⟨by rw [HE.out]; rfl, HBR.out⟩
    · have hE := Lib.hid (okK_len (k := k) (l := l) (o := o) (by rw [h.l1, h.l2, hl]; omega))
      have HB := Lib.hid hb0
      have h2' : ((m : Int) == (n2 : Int)) = false := by simp; omega
      subst h1
      clear h2 h hl ho hb0
      go_enter Try.func20, Try.ntmps20
      go_wp2_with fail
      go_ret
      exact ⟨by rw [hE.out]; rfl, HB.out⟩
  · have hE := Lib.hid (okK_len (k := k) (l := l) (o := o) (by rw [h.l1, h.l2, hl]; omega))
    have HB := Lib.hid hb0
    have h1' : ((n : Int) == (n2 : Int)) = false := by simp; omega
    clear h1 h hl ho hb0
    go_enter Try.func20, Try.ntmps20
    go_wp2_with fail
    go_ret
    exact ⟨by rw [hE.out]; rfl, HB.out⟩
end
end Go.Proofs.Ytfgckkgakghenaa.Kepts
