/-
  The buffer of entries: the given model's PutEntry and BufferOk. No condition beyond a buffer's length.
-/
import Derived.Test.YteoddppeajlekaaEntSpec
import Derived.Test.YteoddppeajlekaaOrdT
namespace Go.Proofs.Yteoddppeajlekaa.Ents
set_option maxRecDepth 100000
open Go.ChangeShapes Go.WideShapes Go.ChangeAt Go.RowKit
open Go.Proofs.Yteoddppeajlekaa.Base Go.Proofs.Yteoddppeajlekaa.Mem Go.Proofs.Yteoddppeajlekaa.Data
set_option linter.unusedVariables false
set_option linter.unusedSimpArgs false

theorem e_drop {w : World} {lo hi : Nat} {b off : Nat} {l : List ET} (h : Lies w lo hi (some ⟨b, off, none⟩) (ecells l)) (k : Nat) (hk : k ≤ l.length) : Lies w lo hi (some ⟨b, off + k * 4, none⟩) (ecells (l.drop k)) := fun j u hu => by
  have hl : ecells l = ecells (l.take k) ++ ecells (l.drop k) := by rw [← ecells_append, List.take_append_drop]
  have hlen : (ecells (l.take k)).length = k * 4 := by rw [ecells_len, List.length_take, Nat.min_eq_left hk]; omega
  obtain ⟨b', off', e, h1, h2, h3⟩ := h (k * 4 + j) u (by rw [hl, List.getElem?_append_right (by omega), hlen]; simpa using hu)
  cases e
  exact ⟨b, off + k * 4, rfl, h1, h2, by rw [Nat.add_assoc]; exact h3⟩
theorem row_mono {w : World} {base base' size n : Nat} {e : TypeId} {v : Value} {xs : List Value} (h : w.ownsRow base e size v n xs) (hb : base' ≤ base) : w.ownsRow base' e size v n xs := by
  obtain ⟨h1, h2⟩ := h
  refine ⟨h1, ?_⟩
  rcases h2 with h2 | ⟨g, cap, cur, h3, h4, h5⟩
  · exact .inl h2
  · exact .inr ⟨g, cap, cur, h3, Nat.le_trans hb h4, h5⟩
theorem e_cap {w : World} {base n size g cap : Nat} {e : TypeId} {xs : List Value} (h : w.ownsRow base e size (.slice (some ⟨g, 0, none⟩) n cap) n xs) : n ≤ cap ∧ cap ≤ 9223372036854775807 := by
  rcases h.2 with ⟨h', _⟩ | ⟨g1, cap1, cur, h', _, _, hnc, hm, _⟩
  · simp at h'
  · injection h' with h1 h2 h3; simp only [maxLen] at hm; omega
theorem fresh_row {w w1 : World} {T : TypeId} {s : Nat} {cs : List Value} {g cap n : Nat} (hown : w1.ownsRow w.heap.size T s (.slice (some ⟨g, 0, none⟩) n cap) n cs) (hg : (w.alloc (.cells #[] T)).grownBy w1 (some w.heap.size)) :
    Owned w1 w.heap.size w1.heap.size (some ⟨g, 0, none⟩) cs ∧ Below w.heap.size w w1 :=
  ⟨Owned.of_row hown, ((Below.refl _ _).alloc (Nat.le_refl _) _).grown hg (by simp) (fun j hj => by cases hj; exact Nat.le_refl _)⟩
theorem row_src {w : World} {lo : Nat} {A : Option Addr} {cs : List Value} (h : Lies w lo w.heap.size A cs) (o : Obj) : ∀ j u, cs[j]? = some u → ∃ ad, A = some ad ∧ (w.alloc o).cell? (ad.add j) = some u :=
  App.Lies.src (h.below ((Below.refl w.heap.size w).alloc (Nat.le_refl _) o) (Nat.le_refl _))
/-- What is behind the append: the row, and that nothing below the base has turned. -/
def PutP (w V : World) (l : List ET) (g m cap : Nat) : Prop := l.length = m ∧ V.ownsRow (w.heap.size + 1) 37 4 (.slice (some ⟨g, 0, none⟩) m cap) m (ecells l) ∧ Below w.heap.size w V

set_option maxRecDepth 100000 in
set_option maxHeartbeats 8000000 in
theorem spec_putr (A : Option Addr) (n c lo : Nat) (e0 e1 e2 e3 : Int) (l : List ET) (w : World) (hn : n ≤ 1048576) (hl : l.length = n) (h1 : Lies w lo w.heap.size A (ecells l)) :
    Calls Try.prog 50 #[.slice A n c, .agg #[.int .i64 e0, .int .i64 e1, .int .i64 e2, .int .i64 e3]] w (EntRow w (putE l (e0, e1, e2, e3))) := by
  obtain ⟨i0, hi0, hz0, hz1, hz2⟩ := info_parts Try.infoEntry
  have hb0 : Below w.heap.size w (w.alloc (.cells #[.int .i64 e0, .int .i64 e1, .int .i64 e2, .int .i64 e3] 37)) := (Below.refl _ _).alloc (Nat.le_refl _) _
  have t0 := Four.new w (e0, e1, e2, e3) 37
  have hz : (w.alloc (.cells #[.int .i64 e0, .int .i64 e1, .int .i64 e2, .int .i64 e3] 37)).heap.size = w.heap.size + 1 := by simp
  have H1 := Lib.hid h1
  have HL := Lib.hid hl
  clear h1 hl
  go_enter Try.func50, Try.ntmps50
  go_wp2_with fail
  change Four (w.alloc (.cells #[.int .i64 e0, .int .i64 e1, .int .i64 e2, .int .i64 e3] 37)) w.heap.size (e0, e1, e2, e3) at t0
  generalize w.alloc (.cells #[.int .i64 e0, .int .i64 e1, .int .i64 e2, .int .i64 e3] 37) = W at t0 hb0 hz ⊢
  have HT := Lib.hid (show Four W.drew w.heap.size (e0, e1, e2, e3) from t0)
  have HB := Lib.hid (show Below w.heap.size w W.drew from hb0.drew)
  have hzd : w.heap.size + 1 ≤ W.drew.heap.size := Nat.le_of_eq hz.symm
  have hz : w.heap.size < W.drew.heap.size := by omega
  have hfl := flushP_le l e0 e1
  have HF := Lib.hid (show ∀ V, Below w.heap.size w V → Calls Try.prog 55 #[.slice A n c, .int .i64 e0, .int .i64 e1] V (EntRow V (flushP l e0 e1)) from fun V hb => spec_flushPr A n c 0 e0 e1 l V hn HL.out ((H1.out.below hb (Nat.le_refl _)).wide (Nat.zero_le _) hb.size))
  have HE := Lib.hid (show putE l (e0, e1, e2, e3) = lastS (flushP l e0 e1 ++ [(e0, e1, e2, e3)]) from rfl)
  generalize flushP l e0 e1 = L at HF HE hfl
  have hs0 := t0.1
  have hs1 := t0.2.1
  have hs2 := t0.2.2.1
  have hs3 := t0.2.2.2.1
  have hL6 : L.length ≤ 1048576 := by have := HL.out; omega
  refine Ord.wp_region_tree (fun w' => w'.cell? ⟨w.heap.size, 0, none⟩ = some (.int .i64 e0) ∧ w'.cell? ⟨w.heap.size, 1, none⟩ = some (.int .i64 e1) ∧ w'.cell? ⟨w.heap.size, 2, none⟩ = some (.int .i64 e2) ∧ w'.cell? ⟨w.heap.size, 3, none⟩ = some (.int .i64 e3)) (.take 0 (.take 1 (.take 2 (.take 3 (.take 4 (.take 6 (.two 5 (.alone 7 (.alone 8 (.take 9 .nil))) 7 (.alone 5 (.alone 8 (.take 9 .nil)))))))))) (by kernel_rfl) (by kernel_rfl) (by kernel_rfl) (⟨hs0, hs1, hs2, hs3⟩) ?_
  generalize W.drew = V0 at HT HB hz hzd ⊢
  (refine Ord.ot_take (v := ?_) rfl (by rfl) (fun w' hS => ?_) ?_; rotate_left; (focus ((try dsimp only at hS); go_simp; first | done | with_reducible rfl)); simp only [Act.put, List.setIfInBounds_toArray, List.set_cons_zero, List.set_cons_succ])
  (refine Ord.ot_take (v := ?_) rfl (by rfl) (fun w' hS => ?_) ?_; rotate_left; (focus ((try dsimp only at hS); go_simp; first | done | with_reducible rfl)); simp only [Act.put, List.setIfInBounds_toArray, List.set_cons_zero, List.set_cons_succ])
  (refine Ord.ot_take (v := ?_) rfl (by rfl) (fun w' hS => ?_) ?_; rotate_left; (focus ((try dsimp only at hS); go_simp; first | done | with_reducible rfl)); simp only [Act.put, List.setIfInBounds_toArray, List.set_cons_zero, List.set_cons_succ])
  (refine Ord.ot_take (v := ?_) rfl (by rfl) (fun w' hS => ?_) ?_; rotate_left; (focus ((try dsimp only at hS); go_simp; first | done | with_reducible rfl)); simp only [Act.put, List.setIfInBounds_toArray, List.set_cons_zero, List.set_cons_succ])
  (refine Ord.ot_take (v := ?_) rfl (by rfl) (fun w' hS => ?_) ?_; rotate_left; (focus ((try dsimp only at hS); go_simp; first | done | with_reducible rfl)); simp only [Act.put, List.setIfInBounds_toArray, List.set_cons_zero, List.set_cons_succ])
  (refine Ord.ot_take (v := ?_) rfl (by rfl) (fun w' hS => ?_) ?_; rotate_left; (focus ((try dsimp only at hS); go_simp; first | done | with_reducible rfl)); simp only [Act.put, List.setIfInBounds_toArray, List.set_cons_zero, List.set_cons_succ])
  refine Ord.ot_two rfl rfl (fun K hK => ?_) (fun K hK => ?_)
  · go_simp
    refine (HF.out _ (HB.out)).mono ?_
    rintro e w5 ⟨g, m, cap, rfl, hlen, hown, hb5⟩
    have HN5 := Lib.hid hlen
    refine hK.out _ _ (⟨(Four.below HT.out hb5 hz).1, (Four.below HT.out hb5 hz).2.1, (Four.below HT.out hb5 hz).2.2.1, (Four.below HT.out hb5 hz).2.2.2.1⟩) ?_
    clear hK K
    (try simp only [Act.put, List.setIfInBounds_toArray, List.set_cons_zero, List.set_cons_succ])
    refine Ord.ot_alone rfl (fun K hK => ?_)
    go_simp
    have hb7 : Below V0.heap.size V0 (w5.alloc (.cells #[.int .i64 e0, .int .i64 e1, .int .i64 e2, .int .i64 e3] 37)) := hb5.alloc hb5.size _
    have hx5 := hb5.size
    have hx7 := hb7.size
    have hown7 := hown.alloc (.cells #[.int .i64 e0, .int .i64 e1, .int .i64 e2, .int .i64 e3] 37)
    have hnew7 := heap_alloc_new w5 (.cells #[.int .i64 e0, .int .i64 e1, .int .i64 e2, .int .i64 e3] 37)
    refine hK.out _ _ (⟨(Four.below HT.out hb7 hz).1, (Four.below HT.out hb7 hz).2.1, (Four.below HT.out hb7 hz).2.2.1, (Four.below HT.out hb7 hz).2.2.2.1⟩) ?_
    clear hK K
    (try simp only [Act.put, List.setIfInBounds_toArray, List.set_cons_zero, List.set_cons_succ])
    refine Ord.ot_alone rfl (fun K hK => ?_)
    refine step_append_lies _ rfl _ _ 28 rfl V0.heap.size 37 i0 _ 4 32 Try.underlying28 hi0 hz0 hz1 hz2 rfl (by omega) (.slice (some ⟨g, 0, none⟩) m cap) m _ rfl (hown7) ⟨w5.heap.size, 0, none⟩ 1 1 [.int .i64 e0, .int .i64 e1, .int .i64 e2, .int .i64 e3] rfl rfl (World.news_of_block hnew7) (by simp [Value.oneCell']) (by omega) (by simp only [maxLen]; omega) (by omega) (by omega) (w5.alloc (.cells #[.int .i64 e0, .int .i64 e1, .int .i64 e2, .int .i64 e3] 37)).heap.size rfl ?_
    intro g' cap' w9 hown9 hg9 hat9 hlt9
    have hb9 : Below V0.heap.size V0 w9 := (hb7).grown hg9 (by omega) (fun j hj => by have := ((hown7).lt j hj).1; omega)
    have HP := Lib.hid (show PutP w w9 (L ++ [(e0, e1, e2, e3)]) g' (m + 1) cap' from ⟨by rw [List.length_append, HN5.out]; rfl, row_mono (by rw [ecells_append]; simpa [ecells] using hown9) hzd, btr HB.out hb9⟩)
    refine hK.out _ _ (⟨(Four.below HT.out hb9 hz).1, (Four.below HT.out hb9 hz).2.1, (Four.below HT.out hb9 hz).2.2.1, (Four.below HT.out hb9 hz).2.2.2.1⟩) ?_
    clear hK K
    (try simp only [Act.put, List.setIfInBounds_toArray, List.set_cons_zero, List.set_cons_succ])
    (refine Ord.ot_take (v := ?_) rfl (by rfl) (fun w' hS => ?_) ?_; rotate_left; (focus ((try dsimp only at hS); go_simp; first | done | with_reducible rfl)); simp only [Act.put, List.setIfInBounds_toArray, List.set_cons_zero, List.set_cons_succ])
    refine Ord.ot_nil ?_
    clear hown9 hg9 hat9 hlt9 hb9
    have hlm : (L ++ [(e0, e1, e2, e3)]).length = m + 1 := by rw [List.length_append, HN5.out]; rfl
    have hcap := e_cap HP.out.2.1
    have hcap1 := hcap.1
    have hcap2 := hcap.2
    clear hcap
    generalize L ++ [(e0, e1, e2, e3)] = M at HE HP hlm
    clear HF HT HN5
    by_cases h6 : m + 1 > 6
    · have h6' : ((m : Int) + 1 > 6) := by omega
      have hq0 : (0 : Int) ≤ ((m + 1 : Nat) : Int) - 6 := by omega
      have hq1 : ((m + 1 : Nat) : Int) - 6 ≤ ((m + 1 : Nat) : Int) := by omega
      have hq2 : ¬ cap' = m + 1 - 6 := by omega
      have HD := Lib.hid (show Lies w9 0 w9.heap.size (some ⟨g', (m - 5) * 4, none⟩) (ecells (M.drop (m - 5))) by
        have h := e_drop ((Owned.of_row HP.out.2.1).1.wide (Nat.zero_le _) (Nat.le_refl _)) (m - 5) (by omega)
        rwa [Nat.zero_add] at h)
      have HDL := Lib.hid (show (M.drop (m - 5)).length = m + 1 - (m - 5) by rw [List.length_drop, hlm])
      have HM := Lib.hid (World.ownsRow_made (e := 37) (size := 4) w9 #[] 0 (Nat.le_refl _) (Nat.zero_le _) rfl)
      have HS := Lib.hid (row_src HD.out (.cells #[] 37))
      go_wp2_with (at_builtin; refine App.wpList_append_fresh _ rfl (.tmp 18) (.tmp 23) 28 rfl w9.heap.size 37 i0 _ 4 32 Try.underlying28 hi0 hz0 hz1 hz2 rfl (by omega) w9.heap.size rfl HM.out (some ⟨g', (m - 5) * 4, none⟩) (m + 1 - (m - 5)) (cap' - (m - 5)) (ecells (M.drop (m - 5))) rfl (by rw [ecells_len, HDL.out]; omega) HS.out (ecells_one _) (by simp only [maxLen]; omega) (by omega) (by simp) ?_; intro g1 cap1 w10 hown1 hg1; have hb1 := (fresh_row hown1 hg1).2; have HR := Lib.hid (And.intro hown1 hb1); clear hown1 hg1 hb1)
      go_ret
      exact ⟨_, _, _, rfl, by rw [HE.out]; unfold lastS; rw [hlm, show m + 1 - 6 = m - 5 by omega]; exact HDL.out, by rw [HE.out]; unfold lastS; rw [hlm, show m + 1 - 6 = m - 5 by omega]; exact row_mono HR.out.1 HP.out.2.2.size, btr HP.out.2.2 HR.out.2⟩
    · have h6' : ¬ ((m : Int) + 1 > 6) := by omega
      go_wp2_with fail
      go_ret
      have hlast : lastS M = M := by unfold lastS; rw [show M.length - 6 = 0 by omega]; rfl
      exact ⟨_, _, _, rfl, by rw [HE.out, hlast]; exact hlm, by rw [HE.out, hlast]; exact row_mono HP.out.2.1 (Nat.le_succ _), HP.out.2.2⟩
  · go_simp
    have hb7 : Below V0.heap.size V0 (V0.alloc (.cells #[.int .i64 e0, .int .i64 e1, .int .i64 e2, .int .i64 e3] 37)) := (Below.refl _ _).alloc (Nat.le_refl _) _
    have hnew7 := heap_alloc_new V0 (.cells #[.int .i64 e0, .int .i64 e1, .int .i64 e2, .int .i64 e3] 37)
    have hx7 := hb7.size
    refine hK.out _ _ (⟨(Four.below HT.out hb7 hz).1, (Four.below HT.out hb7 hz).2.1, (Four.below HT.out hb7 hz).2.2.1, (Four.below HT.out hb7 hz).2.2.2.1⟩) ?_
    clear hK K
    (try simp only [Act.put, List.setIfInBounds_toArray, List.set_cons_zero, List.set_cons_succ])
    refine Ord.ot_alone rfl (fun K hK => ?_)
    go_simp
    refine (HF.out _ (btr HB.out hb7)).mono ?_
    rintro e w5 ⟨g, m, cap, rfl, hlen, hown, hb5⟩
    have HN5 := Lib.hid hlen
    have hb75 := btr hb7 hb5
    have hx5 := hb5.size
    have hown5 := row_mono hown (show V0.heap.size ≤ (V0.alloc (.cells #[.int .i64 e0, .int .i64 e1, .int .i64 e2, .int .i64 e3] 37)).heap.size by omega)
    have hnew5 := (hb5.block _ (by simp)).trans hnew7
    refine hK.out _ _ (⟨(Four.below HT.out hb75 hz).1, (Four.below HT.out hb75 hz).2.1, (Four.below HT.out hb75 hz).2.2.1, (Four.below HT.out hb75 hz).2.2.2.1⟩) ?_
    clear hK K
    (try simp only [Act.put, List.setIfInBounds_toArray, List.set_cons_zero, List.set_cons_succ])
    refine Ord.ot_alone rfl (fun K hK => ?_)
    refine step_append_lies _ rfl _ _ 28 rfl V0.heap.size 37 i0 _ 4 32 Try.underlying28 hi0 hz0 hz1 hz2 rfl (by omega) (.slice (some ⟨g, 0, none⟩) m cap) m _ rfl (hown5) ⟨V0.heap.size, 0, none⟩ 1 1 [.int .i64 e0, .int .i64 e1, .int .i64 e2, .int .i64 e3] rfl rfl (World.news_of_block hnew5) (by simp [Value.oneCell']) (by omega) (by simp only [maxLen]; omega) (by omega) (by omega) w5.heap.size rfl ?_
    intro g' cap' w9 hown9 hg9 hat9 hlt9
    have hb9 : Below V0.heap.size V0 w9 := (hb75).grown hg9 (by omega) (fun j hj => by have := ((hown5).lt j hj).1; omega)
    have HP := Lib.hid (show PutP w w9 (L ++ [(e0, e1, e2, e3)]) g' (m + 1) cap' from ⟨by rw [List.length_append, HN5.out]; rfl, row_mono (by rw [ecells_append]; simpa [ecells] using hown9) hzd, btr HB.out hb9⟩)
    refine hK.out _ _ (⟨(Four.below HT.out hb9 hz).1, (Four.below HT.out hb9 hz).2.1, (Four.below HT.out hb9 hz).2.2.1, (Four.below HT.out hb9 hz).2.2.2.1⟩) ?_
    clear hK K
    (try simp only [Act.put, List.setIfInBounds_toArray, List.set_cons_zero, List.set_cons_succ])
    (refine Ord.ot_take (v := ?_) rfl (by rfl) (fun w' hS => ?_) ?_; rotate_left; (focus ((try dsimp only at hS); go_simp; first | done | with_reducible rfl)); simp only [Act.put, List.setIfInBounds_toArray, List.set_cons_zero, List.set_cons_succ])
    refine Ord.ot_nil ?_
    clear hown9 hg9 hat9 hlt9 hb9
    have hlm : (L ++ [(e0, e1, e2, e3)]).length = m + 1 := by rw [List.length_append, HN5.out]; rfl
    have hcap := e_cap HP.out.2.1
    have hcap1 := hcap.1
    have hcap2 := hcap.2
    clear hcap
    generalize L ++ [(e0, e1, e2, e3)] = M at HE HP hlm
    clear HF HT HN5
    by_cases h6 : m + 1 > 6
    · have h6' : ((m : Int) + 1 > 6) := by omega
      have hq0 : (0 : Int) ≤ ((m + 1 : Nat) : Int) - 6 := by omega
      have hq1 : ((m + 1 : Nat) : Int) - 6 ≤ ((m + 1 : Nat) : Int) := by omega
      have hq2 : ¬ cap' = m + 1 - 6 := by omega
      have HD := Lib.hid (show Lies w9 0 w9.heap.size (some ⟨g', (m - 5) * 4, none⟩) (ecells (M.drop (m - 5))) by
        have h := e_drop ((Owned.of_row HP.out.2.1).1.wide (Nat.zero_le _) (Nat.le_refl _)) (m - 5) (by omega)
        rwa [Nat.zero_add] at h)
      have HDL := Lib.hid (show (M.drop (m - 5)).length = m + 1 - (m - 5) by rw [List.length_drop, hlm])
      have HM := Lib.hid (World.ownsRow_made (e := 37) (size := 4) w9 #[] 0 (Nat.le_refl _) (Nat.zero_le _) rfl)
      have HS := Lib.hid (row_src HD.out (.cells #[] 37))
      go_wp2_with (at_builtin; refine App.wpList_append_fresh _ rfl (.tmp 18) (.tmp 23) 28 rfl w9.heap.size 37 i0 _ 4 32 Try.underlying28 hi0 hz0 hz1 hz2 rfl (by omega) w9.heap.size rfl HM.out (some ⟨g', (m - 5) * 4, none⟩) (m + 1 - (m - 5)) (cap' - (m - 5)) (ecells (M.drop (m - 5))) rfl (by rw [ecells_len, HDL.out]; omega) HS.out (ecells_one _) (by simp only [maxLen]; omega) (by omega) (by simp) ?_; intro g1 cap1 w10 hown1 hg1; have hb1 := (fresh_row hown1 hg1).2; have HR := Lib.hid (And.intro hown1 hb1); clear hown1 hg1 hb1)
      go_ret
      exact ⟨_, _, _, rfl, by rw [HE.out]; unfold lastS; rw [hlm, show m + 1 - 6 = m - 5 by omega]; exact HDL.out, by rw [HE.out]; unfold lastS; rw [hlm, show m + 1 - 6 = m - 5 by omega]; exact row_mono HR.out.1 HP.out.2.2.size, btr HP.out.2.2 HR.out.2⟩
    · have h6' : ¬ ((m : Int) + 1 > 6) := by omega
      go_wp2_with fail
      go_ret
      have hlast : lastS M = M := by unfold lastS; rw [show M.length - 6 = 0 by omega]; rfl
      exact ⟨_, _, _, rfl, by rw [HE.out, hlast]; exact hlm, by rw [HE.out, hlast]; exact row_mono HP.out.2.1 (Nat.le_succ _), HP.out.2.2⟩
theorem spec_put (A : Option Addr) (n c lo : Nat) (e0 e1 e2 e3 : Int) (l : List ET) (w : World) (hn : n ≤ 1048576) (hl : l.length = n) (h1 : Lies w lo w.heap.size A (ecells l)) :
    Calls Try.prog 50 #[.slice A n c, .agg #[.int .i64 e0, .int .i64 e1, .int .i64 e2, .int .i64 e3]] w (EntsP w (putE l (e0, e1, e2, e3))) := (spec_putr A n c lo e0 e1 e2 e3 l w hn hl h1).mono EntRow.ents
end Go.Proofs.Yteoddppeajlekaa.Ents
