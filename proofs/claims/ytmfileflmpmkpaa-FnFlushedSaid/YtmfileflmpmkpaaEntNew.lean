/-
  The buffer of entries: the project's newestEntries and PutEntry. No condition beyond a buffer's length.
-/
import Derived.Test.YtmfileflmpmkpaaEntRest
namespace Go.Proofs.Ytmfileflmpmkpaa.Ents
set_option maxRecDepth 100000
open Go.ChangeShapes Go.WideShapes Go.ChangeAt Go.RowKit
open Go.Proofs.Ytmfileflmpmkpaa.Base Go.Proofs.Ytmfileflmpmkpaa.Mem Go.Proofs.Ytmfileflmpmkpaa.Data
set_option linter.unusedVariables false
set_option linter.unusedSimpArgs false

set_option maxHeartbeats 2000000 in
theorem impl_newest (g m cap : Nat) (w : World) (hm : m ≤ 1048577) (h1 : 1 ≤ m) (hc : m ≤ cap) :
    Calls Try.prog 48 #[.slice (some ⟨g, 0, none⟩) m cap] w fun e w' => e = .returned (.slice (some ⟨g, (m - 6) * 4, none⟩) (m - (m - 6)) (m - (m - 6))) ∧ w = w' := by
  by_cases h6 : m > 6
  · obtain ⟨q, rfl⟩ : ∃ q, m = q + 6 := ⟨m - 6, by omega⟩
    rw [show q + 6 - 6 = q by omega, show q + 6 - q = 6 by omega]
    have hq0 : ((q + 6 : Nat) : Int) - 6 = (q : Int) := by omega
    have hq1 : (0 : Int) ≤ (q : Int) := by omega
    have hq2 : (q : Int) ≤ (cap : Int) := by omega
    have hq3 : (q : Int) ≤ ((q + 6 : Nat) : Int) := by omega
    have hq4 : ((q + 6 : Nat) : Int) ≤ (cap : Int) := by omega
    go_enter Try.func48, Try.ntmps48
    go_wp2
    go_ret
    exact ⟨by rw [show q + 6 - q = 6 by omega]; rfl, rfl⟩
  · rw [show m - 6 = 0 by omega]
    go_enter Try.func48, Try.ntmps48
    go_wp2
    go_ret
    exact ⟨by rw [Nat.zero_mul, Nat.sub_zero]; rfl, rfl⟩

/-- A buffer of its own is handed back, and its length is within its capacity. -/
def EntsPC (w : World) (l : List ET) (e : Ending) (w' : World) : Prop :=
  ∃ A n c, e = .returned (.slice A n c) ∧ l.length = n ∧ Owned w' w.heap.size w'.heap.size A (ecells l) ∧ Below w.heap.size w w' ∧ n ≤ c
theorem EntsPC.ents {w : World} {l : List ET} (e : Ending) (w' : World) (h : EntsPC w l e w') : EntsP w l e w' := by
  obtain ⟨A, n, c, h1, h2, h3, h4, _⟩ := h
  exact ⟨A, n, c, h1, h2, h3, h4⟩
theorem o_drop {w : World} {lo hi : Nat} {b off : Nat} {l : List ET} (h : Owned w lo hi (some ⟨b, off, none⟩) (ecells l)) (k : Nat) (hk : k ≤ l.length) : Owned w lo hi (some ⟨b, off + k * 4, none⟩) (ecells (l.drop k)) :=
  ⟨e_drop h.1 k hk, fun b' off' hA hj j => by
    cases hA
    have hlen : (ecells (l.drop k)).length = 4 * (l.length - k) := by rw [ecells_len, List.length_drop]
    exact h.2 b off rfl (by rw [ecells_len]; omega) j⟩

set_option maxRecDepth 100000 in
set_option maxHeartbeats 8000000 in
theorem impl_putC (A : Option Addr) (n c : Nat) (l : List ET) (w : World) (e0 e1 e2 e3 : Int) (hn : n ≤ 1048576) (hl : l.length = n) (h1 : Lies w 0 w.heap.size A (ecells l)) :
    Calls Try.prog 15 #[.slice A n c, .agg #[.int .i64 e0, .int .i64 e1, .int .i64 e2, .int .i64 e3]] w (EntsPC w (putE l (e0, e1, e2, e3))) := by
  obtain ⟨i0, hi0, hz0, hz1, hz2⟩ := info_parts Try.infoEntry
  have hb0 : Below w.heap.size w (w.alloc (.cells #[.int .i64 e0, .int .i64 e1, .int .i64 e2, .int .i64 e3] 26)) := (Below.refl _ _).alloc (Nat.le_refl _) _
  have t0 := Four.new w (e0, e1, e2, e3) 26
  have hz : (w.alloc (.cells #[.int .i64 e0, .int .i64 e1, .int .i64 e2, .int .i64 e3] 26)).heap.size = w.heap.size + 1 := by simp
  have H1 := Lib.hid h1
  have HL := Lib.hid hl
  clear h1 hl
  go_enter Try.func15, Try.ntmps15
  go_wp2_with fail
  change Four (w.alloc (.cells #[.int .i64 e0, .int .i64 e1, .int .i64 e2, .int .i64 e3] 26)) w.heap.size (e0, e1, e2, e3) at t0
  generalize w.alloc (.cells #[.int .i64 e0, .int .i64 e1, .int .i64 e2, .int .i64 e3] 26) = W at t0 hb0 hz ⊢
  have HT := Lib.hid (show Four W.drew w.heap.size (e0, e1, e2, e3) from t0)
  have HB := Lib.hid (show Below w.heap.size w W.drew from hb0.drew)
  have hzd : w.heap.size + 1 ≤ W.drew.heap.size := Nat.le_of_eq hz.symm
  have hz : w.heap.size < W.drew.heap.size := by omega
  have hfl := flushP_le l e0 e1
  have HF := Lib.hid (show ∀ V, Below w.heap.size w V → Calls Try.prog 27 #[.slice A n c, .int .i64 e0, .int .i64 e1] V (EntRow V (flushP l e0 e1)) from fun V hb => impl_flushPr A n c l V e0 e1 hn HL.out ((H1.out.below hb (Nat.le_refl _)).wide (Nat.zero_le _) hb.size))
  have HE := Lib.hid (show putE l (e0, e1, e2, e3) = lastS (flushP l e0 e1 ++ [(e0, e1, e2, e3)]) from rfl)
  generalize flushP l e0 e1 = L at HF HE hfl
  have hs0 := t0.1
  have hs1 := t0.2.1
  have hs2 := t0.2.2.1
  have hs3 := t0.2.2.2.1
  have hL6 : L.length ≤ 1048576 := by have := HL.out; omega
  refine Ord.wp_region_tree (fun w' => w'.cell? ⟨w.heap.size, 0, none⟩ = some (.int .i64 e0) ∧ w'.cell? ⟨w.heap.size, 1, none⟩ = some (.int .i64 e1) ∧ w'.cell? ⟨w.heap.size, 2, none⟩ = some (.int .i64 e2) ∧ w'.cell? ⟨w.heap.size, 3, none⟩ = some (.int .i64 e3)) (.take 0 (.take 1 (.take 2 (.take 3 (.take 4 (.take 6 (.two 5 (.alone 7 (.alone 8 (.alone 9 (.take 10 .nil)))) 7 (.alone 5 (.alone 8 (.alone 9 (.take 10 .nil))))))))))) (by kernel_rfl) (by kernel_rfl) (by kernel_rfl) (⟨hs0, hs1, hs2, hs3⟩) ?_
  generalize W.drew = V0 at HT HB hz hzd ⊢
  (refine Ord.ot_take (v := ?_) rfl (by rfl) (fun w' hS => ?_) ?_; rotate_left; (focus ((try dsimp only at hS); go_simp; first | done | with_reducible rfl)); simp only [Act.put, List.setIfInBounds_toArray, List.set_cons_zero, List.set_cons_succ])
  (refine Ord.ot_take (v := ?_) rfl (by rfl) (fun w' hS => ?_) ?_; rotate_left; (focus ((try dsimp only at hS); go_simp; first | done | with_reducible rfl)); simp only [Act.put, List.setIfInBounds_toArray, List.set_cons_zero, List.set_cons_succ])
  (refine Ord.ot_take (v := ?_) rfl (by rfl) (fun w' hS => ?_) ?_; rotate_left; (focus ((try dsimp only at hS); go_simp; first | done | with_reducible rfl)); simp only [Act.put, List.setIfInBounds_toArray, List.set_cons_zero, List.set_cons_succ])
  (refine Ord.ot_take (v := ?_) rfl (by rfl) (fun w' hS => ?_) ?_; rotate_left; (focus ((try dsimp only at hS); go_simp; first | done | with_reducible rfl)); simp only [Act.put, List.setIfInBounds_toArray, List.set_cons_zero, List.set_cons_succ])
  (refine Ord.ot_take (v := ?_) rfl (by rfl) (fun w' hS => ?_) ?_; rotate_left; (focus ((try dsimp only at hS); go_simp; first | done | with_reducible rfl)); simp only [Act.put, List.setIfInBounds_toArray, List.set_cons_zero, List.set_cons_succ])
  (refine Ord.ot_take (v := ?_) rfl (by rfl) (fun w' hS => ?_) ?_; rotate_left; (focus ((try dsimp only at hS); go_simp; first | done | with_reducible rfl)); simp only [Act.put, List.setIfInBounds_toArray, List.set_cons_zero, List.set_cons_succ])
  refine Ord.ot_two rfl rfl (fun K hK => ?_) (fun K hK => ?_)
  · go_simp
    refine (HF.out _ (HB.out)).mono ?_
    rintro e w5 ⟨g, m, cap, rfl, hlen, hown, hb5⟩
    have HN5 := Lib.hid hlen
    refine hK.out _ _ (⟨(Four.below HT.out hb5 hz).1, (Four.below HT.out hb5 hz).2.1, (Four.below HT.out hb5 hz).2.2.1, (Four.below HT.out hb5 hz).2.2.2.1⟩) ?_
    clear hK K
    (try simp only [Act.put, List.setIfInBounds_toArray, List.set_cons_zero, List.set_cons_succ])
    refine Ord.ot_alone rfl (fun K hK => ?_)
    go_simp
    have hb7 : Below V0.heap.size V0 (w5.alloc (.cells #[.int .i64 e0, .int .i64 e1, .int .i64 e2, .int .i64 e3] 26)) := hb5.alloc hb5.size _
    have hx5 := hb5.size
    have hx7 := hb7.size
    have hown7 := hown.alloc (.cells #[.int .i64 e0, .int .i64 e1, .int .i64 e2, .int .i64 e3] 26)
    have hnew7 := heap_alloc_new w5 (.cells #[.int .i64 e0, .int .i64 e1, .int .i64 e2, .int .i64 e3] 26)
    refine hK.out _ _ (⟨(Four.below HT.out hb7 hz).1, (Four.below HT.out hb7 hz).2.1, (Four.below HT.out hb7 hz).2.2.1, (Four.below HT.out hb7 hz).2.2.2.1⟩) ?_
    clear hK K
    (try simp only [Act.put, List.setIfInBounds_toArray, List.set_cons_zero, List.set_cons_succ])
    refine Ord.ot_alone rfl (fun K hK => ?_)
    refine step_append_lies _ rfl _ _ 24 rfl V0.heap.size 26 i0 _ 4 32 Try.underlying24 hi0 hz0 hz1 hz2 rfl (by omega) (.slice (some ⟨g, 0, none⟩) m cap) m _ rfl (hown7) ⟨w5.heap.size, 0, none⟩ 1 1 [.int .i64 e0, .int .i64 e1, .int .i64 e2, .int .i64 e3] rfl rfl (World.news_of_block hnew7) (by simp [Value.oneCell']) (by omega) (by simp only [maxLen]; omega) (by omega) (by omega) (w5.alloc (.cells #[.int .i64 e0, .int .i64 e1, .int .i64 e2, .int .i64 e3] 26)).heap.size rfl ?_
    intro g' cap' w9 hown9 hg9 hat9 hlt9
    have hb9 : Below V0.heap.size V0 w9 := (hb7).grown hg9 (by omega) (fun j hj => by have := ((hown7).lt j hj).1; omega)
    have HP := Lib.hid (show PutP w w9 (L ++ [(e0, e1, e2, e3)]) g' (m + 1) cap' from ⟨by rw [List.length_append, HN5.out]; rfl, row_mono (by rw [ecells_append]; simpa [ecells] using hown9) hzd, btr HB.out hb9⟩)
    refine hK.out _ _ (⟨(Four.below HT.out hb9 hz).1, (Four.below HT.out hb9 hz).2.1, (Four.below HT.out hb9 hz).2.2.1, (Four.below HT.out hb9 hz).2.2.2.1⟩) ?_
    clear hK K
    (try simp only [Act.put, List.setIfInBounds_toArray, List.set_cons_zero, List.set_cons_succ])
    have hlm : (L ++ [(e0, e1, e2, e3)]).length = m + 1 := by rw [List.length_append, HN5.out]; rfl
    have hcap := e_cap HP.out.2.1
    have hcap1 := hcap.1
    clear hcap hown9 hg9 hat9 hlt9
    refine Ord.ot_alone rfl (fun K hK => ?_)
    go_simp
    refine (impl_newest g' (m + 1) cap' w9 (by omega) (by omega) hcap1).mono ?_
    rintro e w10 ⟨rfl, rfl⟩
    refine hK.out _ _ (⟨(Four.below HT.out hb9 hz).1, (Four.below HT.out hb9 hz).2.1, (Four.below HT.out hb9 hz).2.2.1, (Four.below HT.out hb9 hz).2.2.2.1⟩) ?_
    clear hK K
    (try simp only [Act.put, List.setIfInBounds_toArray, List.set_cons_zero, List.set_cons_succ])
    (refine Ord.ot_take (v := ?_) rfl (by rfl) (fun w' hS => ?_) ?_; rotate_left; (focus ((try dsimp only at hS); go_simp; first | done | with_reducible rfl)); simp only [Act.put, List.setIfInBounds_toArray, List.set_cons_zero, List.set_cons_succ])
    refine Ord.ot_nil ?_
    clear hb9 HF HT HN5
    generalize L ++ [(e0, e1, e2, e3)] = M at HE HP hlm
    have HM := Lib.hid hlm
    clear hlm
    go_wp2_with fail
    go_ret
    have ho := o_drop (Owned.of_row HP.out.2.1) (m + 1 - 6) (by rw [HM.out]; omega)
    rw [Nat.zero_add] at ho
    have hle : lastS M = M.drop (m + 1 - 6) := by unfold lastS; rw [HM.out]
    exact ⟨_, _, _, rfl, by rw [HE.out, hle, List.length_drop, HM.out]; omega, by rw [HE.out, hle]; exact ho.wide (Nat.le_succ _) (Nat.le_refl _), HP.out.2.2, Nat.le_refl _⟩
  · go_simp
    have hb7 : Below V0.heap.size V0 (V0.alloc (.cells #[.int .i64 e0, .int .i64 e1, .int .i64 e2, .int .i64 e3] 26)) := (Below.refl _ _).alloc (Nat.le_refl _) _
    have hnew7 := heap_alloc_new V0 (.cells #[.int .i64 e0, .int .i64 e1, .int .i64 e2, .int .i64 e3] 26)
    have hx7 := hb7.size
    refine hK.out _ _ (⟨(Four.below HT.out hb7 hz).1, (Four.below HT.out hb7 hz).2.1, (Four.below HT.out hb7 hz).2.2.1, (Four.below HT.out hb7 hz).2.2.2.1⟩) ?_
    clear hK K
    (try simp only [Act.put, List.setIfInBounds_toArray, List.set_cons_zero, List.set_cons_succ])
    refine Ord.ot_alone rfl (fun K hK => ?_)
    go_simp
    refine (HF.out _ (btr HB.out hb7)).mono ?_
    rintro e w5 ⟨g, m, cap, rfl, hlen, hown, hb5⟩
    have HN5 := Lib.hid hlen
    have hb75 := btr hb7 hb5
    have hx5 := hb5.size
    have hown5 := row_mono hown (show V0.heap.size ≤ (V0.alloc (.cells #[.int .i64 e0, .int .i64 e1, .int .i64 e2, .int .i64 e3] 26)).heap.size by omega)
    have hnew5 := (hb5.block _ (by simp)).trans hnew7
    refine hK.out _ _ (⟨(Four.below HT.out hb75 hz).1, (Four.below HT.out hb75 hz).2.1, (Four.below HT.out hb75 hz).2.2.1, (Four.below HT.out hb75 hz).2.2.2.1⟩) ?_
    clear hK K
    (try simp only [Act.put, List.setIfInBounds_toArray, List.set_cons_zero, List.set_cons_succ])
    refine Ord.ot_alone rfl (fun K hK => ?_)
    refine step_append_lies _ rfl _ _ 24 rfl V0.heap.size 26 i0 _ 4 32 Try.underlying24 hi0 hz0 hz1 hz2 rfl (by omega) (.slice (some ⟨g, 0, none⟩) m cap) m _ rfl (hown5) ⟨V0.heap.size, 0, none⟩ 1 1 [.int .i64 e0, .int .i64 e1, .int .i64 e2, .int .i64 e3] rfl rfl (World.news_of_block hnew5) (by simp [Value.oneCell']) (by omega) (by simp only [maxLen]; omega) (by omega) (by omega) w5.heap.size rfl ?_
    intro g' cap' w9 hown9 hg9 hat9 hlt9
    have hb9 : Below V0.heap.size V0 w9 := (hb75).grown hg9 (by omega) (fun j hj => by have := ((hown5).lt j hj).1; omega)
    have HP := Lib.hid (show PutP w w9 (L ++ [(e0, e1, e2, e3)]) g' (m + 1) cap' from ⟨by rw [List.length_append, HN5.out]; rfl, row_mono (by rw [ecells_append]; simpa [ecells] using hown9) hzd, btr HB.out hb9⟩)
    refine hK.out _ _ (⟨(Four.below HT.out hb9 hz).1, (Four.below HT.out hb9 hz).2.1, (Four.below HT.out hb9 hz).2.2.1, (Four.below HT.out hb9 hz).2.2.2.1⟩) ?_
    clear hK K
    (try simp only [Act.put, List.setIfInBounds_toArray, List.set_cons_zero, List.set_cons_succ])
    have hlm : (L ++ [(e0, e1, e2, e3)]).length = m + 1 := by rw [List.length_append, HN5.out]; rfl
    have hcap := e_cap HP.out.2.1
    have hcap1 := hcap.1
    clear hcap hown9 hg9 hat9 hlt9
    refine Ord.ot_alone rfl (fun K hK => ?_)
    go_simp
    refine (impl_newest g' (m + 1) cap' w9 (by omega) (by omega) hcap1).mono ?_
    rintro e w10 ⟨rfl, rfl⟩
    refine hK.out _ _ (⟨(Four.below HT.out hb9 hz).1, (Four.below HT.out hb9 hz).2.1, (Four.below HT.out hb9 hz).2.2.1, (Four.below HT.out hb9 hz).2.2.2.1⟩) ?_
    clear hK K
    (try simp only [Act.put, List.setIfInBounds_toArray, List.set_cons_zero, List.set_cons_succ])
    (refine Ord.ot_take (v := ?_) rfl (by rfl) (fun w' hS => ?_) ?_; rotate_left; (focus ((try dsimp only at hS); go_simp; first | done | with_reducible rfl)); simp only [Act.put, List.setIfInBounds_toArray, List.set_cons_zero, List.set_cons_succ])
    refine Ord.ot_nil ?_
    clear hb9 HF HT HN5
    generalize L ++ [(e0, e1, e2, e3)] = M at HE HP hlm
    have HM := Lib.hid hlm
    clear hlm
    go_wp2_with fail
    go_ret
    have ho := o_drop (Owned.of_row HP.out.2.1) (m + 1 - 6) (by rw [HM.out]; omega)
    rw [Nat.zero_add] at ho
    have hle : lastS M = M.drop (m + 1 - 6) := by unfold lastS; rw [HM.out]
    exact ⟨_, _, _, rfl, by rw [HE.out, hle, List.length_drop, HM.out]; omega, by rw [HE.out, hle]; exact ho.wide (Nat.le_succ _) (Nat.le_refl _), HP.out.2.2, Nat.le_refl _⟩
end Go.Proofs.Ytmfileflmpmkpaa.Ents
