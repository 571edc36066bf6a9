/-
  Shadow tables: the given model's functions of chapter 7. No condition beyond a table's length.
-/
import Derived.Test.YtfgckkgakghenaaKeptMath
import Derived.Test.YtfgckkgakghenaaAppend
import Derived.Test.YtfgckkgakghenaaTwoSlot
import Derived.Test.YtfgckkgakghenaaUses
import Derived.Test.YtfgckkgakghenaaTabN
import Derived.Test.YtfgckkgakghenaaOrdT
namespace Go.Proofs.Ytfgckkgakghenaa.Kepts
set_option maxRecDepth 100000
open Go.ChangeShapes Go.WideShapes Go.ChangeAt Go.RowKit
open Go.Proofs.Ytfgckkgakghenaa.Base Go.Proofs.Ytfgckkgakghenaa.Mem Go.Proofs.Ytfgckkgakghenaa.Slots Go.Proofs.Ytfgckkgakghenaa.Bools Go.Proofs.Ytfgckkgakghenaa.Data
set_option linter.unusedVariables false
set_option linter.unusedSimpArgs false

theorem tcells_one (l : List Bool) : ∀ u ∈ tcells l, u.oneCell' = true := by
  intro u hu
  obtain ⟨b, _, rfl⟩ := List.mem_map.1 hu
  rfl
theorem scells_one : ∀ (l : List Sl), ∀ u ∈ scells l, u.oneCell' = true
  | [], u, hu => by cases hu
  | s :: l, u, hu => by
    rcases List.mem_cons.1 (show u ∈ Value.int .i64 s.1 :: Value.int .i64 s.2 :: scells l from hu) with rfl | hu
    · rfl
    · rcases List.mem_cons.1 hu with rfl | hu
      · rfl
      · exact scells_one l u hu
theorem rows_ne {w : World} {b b' g g' n m c d s s' : Nat} {e e' : TypeId} {xs ys : List Value} (h : w.ownsRow b e s (.slice (some ⟨g, 0, none⟩) n c) n xs) (h' : w.ownsRow b' e' s' (.slice (some ⟨g', 0, none⟩) m d) m ys) (he : e ≠ e') : g ≠ g' := by
  rintro rfl
  rcases h.2 with ⟨h1, _⟩ | ⟨g1, cap, cur, h1, _, hg, _⟩
  · cases h1
  · rcases h'.2 with ⟨h2, _⟩ | ⟨g2, cap', cur', h2, _, hg', _⟩
    · cases h2
    · injection h1 with e1
      injection e1 with e1
      injection e1 with e1
      injection h2 with e2
      injection e2 with e2
      injection e2 with e2
      subst e1
      subst e2
      rw [hg] at hg'
      injection hg' with e3
      injection e3 with _ e4
      exact he e4
/-- Two rows of different types are a shadow table of its own. -/
theorem KO.rows {w : World} {base g g' n m c d : Nat} {k : KD} (h : w.ownsRow base 4 1 (.slice (some ⟨g, 0, none⟩) n c) n (tcells k.1)) (h' : w.ownsRow base 36 2 (.slice (some ⟨g', 0, none⟩) m d) m (scells k.2)) (l1 : k.1.length = n) (l2 : k.2.length = m) :
    KO w base w.heap.size k (some ⟨g, 0, none⟩) (some ⟨g', 0, none⟩) n m := by
  refine ⟨l1, l2, Owned.of_row h, Owned.of_row h', fun b hb hb' => ?_⟩
  have hne := rows_ne h h' (by decide)
  unfold blks at hb hb'
  split at hb
  · cases hb
  · split at hb'
    · cases hb'
    · simp at hb hb'
      exact hne (hb.symm.trans hb')

theorem Try.infoSlotK : (Try.prog.info? 36).map (fun i => (i.zero, i.size, i.bytes)) = some (some (.agg #[.int .i64 0, .int .i64 0]), 2, 16) := by kernel_rfl
/-- The copy's slices as they are made, the one or the other first. -/
structure Mid (W V : World) (z : Nat) (A B : Option Addr) (n m c d : Nat) (k : KD) : Prop where
  bw : Below W.heap.size W V
  c0 : V.cell? ⟨z, 0, none⟩ = some (.slice A n c)
  c1 : V.cell? ⟨z, 1, none⟩ = some (.slice B m d)
  kr : KR V 0 W.heap.size k A B n m
  tw : Two V (z + 1) (.slice none 0 0) (.slice none 0 0)
section
variable {W V V' : World} {z n m c d : Nat} {A B : Option Addr} {k : KD}
theorem Mid.step (h : Mid W V z A B n m c d k) (hb : Below W.heap.size V V') (hz : z + 1 < W.heap.size) : Mid W V' z A B n m c d k := by
  obtain ⟨b, c0, c1, kr, tw⟩ := h
  refine ⟨b.trans hb, (hb.cell (p := ⟨z, 0, none⟩) (by show z < _; omega)).trans c0, (hb.cell (p := ⟨z, 1, none⟩) (by show z < _; omega)).trans c1, kr.below hb (Nat.le_refl _), ?_⟩
  obtain ⟨t0, t1, f0, f1, hl⟩ := tw
  exact ⟨(hb.cell (p := ⟨z + 1, 0, none⟩) hz).trans t0, (hb.cell (p := ⟨z + 1, 1, none⟩) hz).trans t1, (hb.frozen (p := ⟨z + 1, 0, none⟩) hz).trans f0, (hb.frozen (p := ⟨z + 1, 1, none⟩) hz).trans f1, Nat.lt_of_lt_of_le hl hb.size⟩
end
theorem copy_end {w : World} {lo hi z : Nat} {k : KD} {A B : Option Addr} {n m : Nat} {u v : Value} (h : KO w lo hi k A B n m) (hz : z < lo) : KO ((w.setCell ⟨z, 0, none⟩ u).setCell ⟨z, 1, none⟩ v) lo hi k A B n m :=
  h.kept fun q h1 _ => (Below.heap_setCell _ ⟨z, 1, none⟩ v q (by show q ≠ z; omega)).trans (Below.heap_setCell _ ⟨z, 0, none⟩ u q (by show q ≠ z; omega))
section
variable (A B : Option Addr) (n m c d lo : Nat) (k : KD) (w : World)

set_option maxRecDepth 100000 in
set_option maxHeartbeats 4000000 in
theorem spec_copyc (hn : n ≤ 1048576) (hm : m ≤ 1048576) (h : KR w 0 w.heap.size k A B n m) :
    Calls Try.prog 63 #[.agg #[.slice A n c, .slice B m d]] w (KPc w n m k) := by
  obtain ⟨i0, hi0, hz0, hz1, hz2⟩ := info_parts Try.infoBool
  obtain ⟨j0, hj0, hy0, hy1, hy2⟩ := info_parts Try.infoSlotK
  obtain ⟨t1, t2, hb2⟩ := two_two w (.slice A n c) (.slice B m d) (.slice none 0 0) (.slice none 0 0) 27 27
  have hsz : ((w.alloc (.cells #[.slice A n c, .slice B m d] 27)).alloc (.cells #[.slice none 0 0, .slice none 0 0] 27)).heap.size = w.heap.size + 2 := by simp
  have H0 := Lib.hid h
  clear h
  go_enter Try.func63, Try.ntmps63
  go_wp2_with fail
  generalize (w.alloc (.cells #[.slice A n c, .slice B m d] 27)).alloc (.cells #[.slice none 0 0, .slice none 0 0] 27) = W at t1 t2 hb2 hsz ⊢
  have hM : Mid W W.drew w.heap.size A B n m c d k := ⟨(Below.refl _ _).drew, t1.1, t1.2.1, ⟨H0.out.l1, H0.out.l2, ((H0.out.r1.below hb2 (Nat.le_refl _)).wide (Nat.le_refl _) hb2.size), ((H0.out.r2.below hb2 (Nat.le_refl _)).wide (Nat.le_refl _) hb2.size)⟩, t2⟩
  have hz : w.heap.size + 1 < W.heap.size := by omega
  have HB := Lib.hid hb2
  clear t1 t2 hb2 hsz
  refine Ord.wp_region_tree (fun w' => w'.cell? ⟨w.heap.size, 0, none⟩ = some (.slice A n c) ∧ w'.cell? ⟨w.heap.size, 1, none⟩ = some (.slice B m d)) (.take 1 (.take 2 (.take 5 (.take 6 (.two 0 (.two 3 (.alone 4 (.alone 7 (.take 8 (.alone 9 .nil)))) 4 (.alone 3 (.alone 7 (.take 8 (.alone 9 .nil))))) 4 (.alone 0 (.alone 3 (.alone 7 (.take 8 (.alone 9 .nil)))))))))) (by kernel_rfl) (by kernel_rfl) (by kernel_rfl) (⟨hM.c0, hM.c1⟩) ?_
  generalize W.drew = V0 at hM ⊢
  (refine Ord.ot_take (v := ?_) rfl (by rfl) (fun w' hS => ?_) ?_; rotate_left; (focus ((try dsimp only at hS); go_simp; first | done | with_reducible rfl)); simp only [Act.put, List.setIfInBounds_toArray, List.set_cons_zero, List.set_cons_succ])
  (refine Ord.ot_take (v := ?_) rfl (by rfl) (fun w' hS => ?_) ?_; rotate_left; (focus ((try dsimp only at hS); go_simp; first | done | with_reducible rfl)); simp only [Act.put, List.setIfInBounds_toArray, List.set_cons_zero, List.set_cons_succ])
  (refine Ord.ot_take (v := ?_) rfl (by rfl) (fun w' hS => ?_) ?_; rotate_left; (focus ((try dsimp only at hS); go_simp; first | done | with_reducible rfl)); simp only [Act.put, List.setIfInBounds_toArray, List.set_cons_zero, List.set_cons_succ])
  (refine Ord.ot_take (v := ?_) rfl (by rfl) (fun w' hS => ?_) ?_; rotate_left; (focus ((try dsimp only at hS); go_simp; first | done | with_reducible rfl)); simp only [Act.put, List.setIfInBounds_toArray, List.set_cons_zero, List.set_cons_succ])
  refine Ord.ot_two rfl rfl (fun K hK => ?_) (fun K hK => ?_)
  · go_simp
    have hb1 : Below W.heap.size V0 (V0.alloc (.cells #[] 4)) := (Below.refl _ _).alloc hM.bw.size _
    have hM1 := hM.step hb1 hz
    have hEb1 : (V0.alloc (.cells #[] 4)).ownsRow W.heap.size 4 1 (.slice (some ⟨V0.heap.size, 0, none⟩) 0 0) 0 [] := World.ownsRow_made V0 #[] 0 hM.bw.size (Nat.zero_le _) rfl
    have hgb1 : V0.heap.size = V0.heap.size := rfl
    generalize hgg1 : V0.heap.size = gb1 at hEb1
    refine hK.out _ _ ⟨hM1.c0, hM1.c1⟩ ?_
    clear hK K
    generalize V0.alloc (.cells #[] 4) = V1 at hM1 hEb1 ⊢
    try rw [hgg1]
    clear hb1 hgb1 hgg1
    (try simp only [Act.put, List.setIfInBounds_toArray, List.set_cons_zero, List.set_cons_succ])
    refine Ord.ot_two rfl rfl (fun K hK => ?_) (fun K hK => ?_)
    · refine App.step_append_fresh V1 rfl (.tmp 3) (.tmp 5) 24 rfl W.heap.size 4 i0 _ 1 1 Try.underlying24 hi0 hz0 hz1 hz2 rfl (by omega) gb1 rfl hEb1 A n c (tcells k.1) rfl (by rw [tcells_len, hM1.kr.l1]; omega) (App.Lies.src hM1.kr.r1) (tcells_one k.1) (by simp only [maxLen]; omega) (by omega) hM1.bw.size ?_
      intro gb2 capb2 V2 hob2 hg2
      have hb2 : Below W.heap.size V1 V2 := (Below.refl _ _).grown hg2 hM1.bw.size (fun j hj => by cases hj; exact (hEb1.lt _ rfl).1)
      have hM2 := hM1.step hb2 hz
      refine hK.out _ _ ⟨hM2.c0, hM2.c1⟩ ?_
      clear hK K
      (try simp only [Act.put, List.setIfInBounds_toArray, List.set_cons_zero, List.set_cons_succ])
      refine Ord.ot_alone rfl (fun K hK => ?_)
      go_simp
      have hb3 : Below W.heap.size V2 (V2.alloc (.cells #[] 36)) := (Below.refl _ _).alloc hM2.bw.size _
      have hM3 := hM2.step hb3 hz
      have hEs3 : (V2.alloc (.cells #[] 36)).ownsRow W.heap.size 36 2 (.slice (some ⟨V2.heap.size, 0, none⟩) 0 0) 0 [] := World.ownsRow_made V2 #[] 0 hM2.bw.size (Nat.zero_le _) rfl
      have hgs3 : V2.heap.size = V2.heap.size := rfl
      generalize hgg3 : V2.heap.size = gs3 at hEs3
      have hrb3 := hob2.alloc (.cells #[] 36)
      refine hK.out _ _ ⟨hM3.c0, hM3.c1⟩ ?_
      clear hK K
      generalize V2.alloc (.cells #[] 36) = V3 at hM3 hrb3 hEs3 ⊢
      try rw [hgg3]
      clear hb3 hgs3 hgg3
      (try simp only [Act.put, List.setIfInBounds_toArray, List.set_cons_zero, List.set_cons_succ])
      refine Ord.ot_alone rfl (fun K hK => ?_)
      refine App.step_append_fresh V3 rfl (.tmp 7) (.tmp 9) 25 rfl W.heap.size 36 j0 _ 2 16 Try.underlying25 hj0 hy0 hy1 hy2 rfl (by omega) gs3 rfl hEs3 B m d (scells k.2) rfl (by rw [scells_len, hM3.kr.l2]; omega) (App.Lies.src hM3.kr.r2) (scells_one k.2) (by simp only [maxLen]; omega) (by omega) hM3.bw.size ?_
      intro gs4 caps4 V4 hos4 hg4
      have hb4 : Below W.heap.size V3 V4 := (Below.refl _ _).grown hg4 hM3.bw.size (fun j hj => by cases hj; exact (hEs3.lt _ rfl).1)
      have hM4 := hM3.step hb4 hz
      have hrb4 := hrb3.kept hg4 (.inr (by simp only [Value.ownBlock, Option.map_some, ne_eq, Option.some.injEq]; exact rows_ne hrb3 hEs3 (by decide)))
      refine hK.out _ _ ⟨hM4.c0, hM4.c1⟩ ?_
      clear hK K
      (try simp only [Act.put, List.setIfInBounds_toArray, List.set_cons_zero, List.set_cons_succ])
      (refine Ord.ot_take (v := ?_) rfl (by rfl) (fun w' hS => ?_) ?_; rotate_left; (focus ((try dsimp only at hS); go_simp; first | done | with_reducible rfl)); simp only [Act.put, List.setIfInBounds_toArray, List.set_cons_zero, List.set_cons_succ])
      obtain ⟨q0, q1, f0, f1, _⟩ := hM4.tw
      refine Ord.ot_alone rfl (fun K hK => ?_)
      go_simp
      have HK := Lib.hid (show KO V4 W.heap.size V4.heap.size k (some ⟨gb2, 0, none⟩) (some ⟨gs4, 0, none⟩) n m from KO.rows hrb4 hos4 hM4.kr.l1 hM4.kr.l2)
      have HBV := Lib.hid hM4.bw
      have HCAP := Lib.hid (row_cap hrb4)
      have HC := Lib.hid (And.intro hM4.c0 hM4.c1)
      refine hK.out _ _ ⟨keep_set HC.out.1 (by omega), keep_set HC.out.2 (by omega)⟩ ?_
      clear hK K
      (try simp only [Act.put, List.setIfInBounds_toArray, List.set_cons_zero, List.set_cons_succ])
      refine Ord.ot_nil ?_
      go_wp2_with fail
      exact bodyPost_ret (v := .agg #[.slice (some ⟨gb2, 0, none⟩) n capb2, .slice (some ⟨gs4, 0, none⟩) m caps4]) (by simp [results, Try.results63, go_sem, q0, q1]) rfl ⟨_, _, _, _, rfl, HCAP.out, (copy_end HK.out hz).wide (by have := HB.out.size; omega) (by simp), set_two ((HB.out.trans (HBV.out.mono HB.out.size))) (by omega) _ _⟩
    · go_simp
      have hb2 : Below W.heap.size V1 (V1.alloc (.cells #[] 36)) := (Below.refl _ _).alloc hM1.bw.size _
      have hM2 := hM1.step hb2 hz
      have hEs2 : (V1.alloc (.cells #[] 36)).ownsRow W.heap.size 36 2 (.slice (some ⟨V1.heap.size, 0, none⟩) 0 0) 0 [] := World.ownsRow_made V1 #[] 0 hM1.bw.size (Nat.zero_le _) rfl
      have hgs2 : V1.heap.size = V1.heap.size := rfl
      generalize hgg2 : V1.heap.size = gs2 at hEs2
      have hrb2 := hEb1.alloc (.cells #[] 36)
      refine hK.out _ _ ⟨hM2.c0, hM2.c1⟩ ?_
      clear hK K
      generalize V1.alloc (.cells #[] 36) = V2 at hM2 hrb2 hEs2 ⊢
      try rw [hgg2]
      clear hb2 hgs2 hgg2
      (try simp only [Act.put, List.setIfInBounds_toArray, List.set_cons_zero, List.set_cons_succ])
      refine Ord.ot_alone rfl (fun K hK => ?_)
      refine App.step_append_fresh V2 rfl (.tmp 3) (.tmp 5) 24 rfl W.heap.size 4 i0 _ 1 1 Try.underlying24 hi0 hz0 hz1 hz2 rfl (by omega) gb1 rfl hrb2 A n c (tcells k.1) rfl (by rw [tcells_len, hM2.kr.l1]; omega) (App.Lies.src hM2.kr.r1) (tcells_one k.1) (by simp only [maxLen]; omega) (by omega) hM2.bw.size ?_
      intro gb3 capb3 V3 hob3 hg3
      have hb3 : Below W.heap.size V2 V3 := (Below.refl _ _).grown hg3 hM2.bw.size (fun j hj => by cases hj; exact (hrb2.lt _ rfl).1)
      have hM3 := hM2.step hb3 hz
      have hrs3 := hEs2.kept hg3 (.inr (by simp only [Value.ownBlock, Option.map_some, ne_eq, Option.some.injEq]; exact rows_ne hEs2 hrb2 (by decide)))
      refine hK.out _ _ ⟨hM3.c0, hM3.c1⟩ ?_
      clear hK K
      (try simp only [Act.put, List.setIfInBounds_toArray, List.set_cons_zero, List.set_cons_succ])
      refine Ord.ot_alone rfl (fun K hK => ?_)
      refine App.step_append_fresh V3 rfl (.tmp 7) (.tmp 9) 25 rfl W.heap.size 36 j0 _ 2 16 Try.underlying25 hj0 hy0 hy1 hy2 rfl (by omega) gs2 rfl hrs3 B m d (scells k.2) rfl (by rw [scells_len, hM3.kr.l2]; omega) (App.Lies.src hM3.kr.r2) (scells_one k.2) (by simp only [maxLen]; omega) (by omega) hM3.bw.size ?_
      intro gs4 caps4 V4 hos4 hg4
      have hb4 : Below W.heap.size V3 V4 := (Below.refl _ _).grown hg4 hM3.bw.size (fun j hj => by cases hj; exact (hrs3.lt _ rfl).1)
      have hM4 := hM3.step hb4 hz
      have hrb4 := hob3.kept hg4 (.inr (by simp only [Value.ownBlock, Option.map_some, ne_eq, Option.some.injEq]; exact rows_ne hob3 hrs3 (by decide)))
      refine hK.out _ _ ⟨hM4.c0, hM4.c1⟩ ?_
      clear hK K
      (try simp only [Act.put, List.setIfInBounds_toArray, List.set_cons_zero, List.set_cons_succ])
      (refine Ord.ot_take (v := ?_) rfl (by rfl) (fun w' hS => ?_) ?_; rotate_left; (focus ((try dsimp only at hS); go_simp; first | done | with_reducible rfl)); simp only [Act.put, List.setIfInBounds_toArray, List.set_cons_zero, List.set_cons_succ])
      obtain ⟨q0, q1, f0, f1, _⟩ := hM4.tw
      refine Ord.ot_alone rfl (fun K hK => ?_)
      go_simp
      have HK := Lib.hid (show KO V4 W.heap.size V4.heap.size k (some ⟨gb3, 0, none⟩) (some ⟨gs4, 0, none⟩) n m from KO.rows hrb4 hos4 hM4.kr.l1 hM4.kr.l2)
      have HBV := Lib.hid hM4.bw
      have HCAP := Lib.hid (row_cap hrb4)
      have HC := Lib.hid (And.intro hM4.c0 hM4.c1)
      refine hK.out _ _ ⟨keep_set HC.out.1 (by omega), keep_set HC.out.2 (by omega)⟩ ?_
      clear hK K
      (try simp only [Act.put, List.setIfInBounds_toArray, List.set_cons_zero, List.set_cons_succ])
      refine Ord.ot_nil ?_
      go_wp2_with fail
      exact bodyPost_ret (v := .agg #[.slice (some ⟨gb3, 0, none⟩) n capb3, .slice (some ⟨gs4, 0, none⟩) m caps4]) (by simp [results, Try.results63, go_sem, q0, q1]) rfl ⟨_, _, _, _, rfl, HCAP.out, (copy_end HK.out hz).wide (by have := HB.out.size; omega) (by simp), set_two ((HB.out.trans (HBV.out.mono HB.out.size))) (by omega) _ _⟩
  · go_simp
    have hb1 : Below W.heap.size V0 (V0.alloc (.cells #[] 36)) := (Below.refl _ _).alloc hM.bw.size _
    have hM1 := hM.step hb1 hz
    have hEs1 : (V0.alloc (.cells #[] 36)).ownsRow W.heap.size 36 2 (.slice (some ⟨V0.heap.size, 0, none⟩) 0 0) 0 [] := World.ownsRow_made V0 #[] 0 hM.bw.size (Nat.zero_le _) rfl
    have hgs1 : V0.heap.size = V0.heap.size := rfl
    generalize hgg1 : V0.heap.size = gs1 at hEs1
    refine hK.out _ _ ⟨hM1.c0, hM1.c1⟩ ?_
    clear hK K
    generalize V0.alloc (.cells #[] 36) = V1 at hM1 hEs1 ⊢
    try rw [hgg1]
    clear hb1 hgs1 hgg1
    (try simp only [Act.put, List.setIfInBounds_toArray, List.set_cons_zero, List.set_cons_succ])
    refine Ord.ot_alone rfl (fun K hK => ?_)
    go_simp
    have hb2 : Below W.heap.size V1 (V1.alloc (.cells #[] 4)) := (Below.refl _ _).alloc hM1.bw.size _
    have hM2 := hM1.step hb2 hz
    have hEb2 : (V1.alloc (.cells #[] 4)).ownsRow W.heap.size 4 1 (.slice (some ⟨V1.heap.size, 0, none⟩) 0 0) 0 [] := World.ownsRow_made V1 #[] 0 hM1.bw.size (Nat.zero_le _) rfl
    have hgb2 : V1.heap.size = V1.heap.size := rfl
    generalize hgg2 : V1.heap.size = gb2 at hEb2
    have hrs2 := hEs1.alloc (.cells #[] 4)
    refine hK.out _ _ ⟨hM2.c0, hM2.c1⟩ ?_
    clear hK K
    generalize V1.alloc (.cells #[] 4) = V2 at hM2 hrs2 hEb2 ⊢
    try rw [hgg2]
    clear hb2 hgb2 hgg2
    (try simp only [Act.put, List.setIfInBounds_toArray, List.set_cons_zero, List.set_cons_succ])
    refine Ord.ot_alone rfl (fun K hK => ?_)
    refine App.step_append_fresh V2 rfl (.tmp 3) (.tmp 5) 24 rfl W.heap.size 4 i0 _ 1 1 Try.underlying24 hi0 hz0 hz1 hz2 rfl (by omega) gb2 rfl hEb2 A n c (tcells k.1) rfl (by rw [tcells_len, hM2.kr.l1]; omega) (App.Lies.src hM2.kr.r1) (tcells_one k.1) (by simp only [maxLen]; omega) (by omega) hM2.bw.size ?_
    intro gb3 capb3 V3 hob3 hg3
    have hb3 : Below W.heap.size V2 V3 := (Below.refl _ _).grown hg3 hM2.bw.size (fun j hj => by cases hj; exact (hEb2.lt _ rfl).1)
    have hM3 := hM2.step hb3 hz
    have hrs3 := hrs2.kept hg3 (.inr (by simp only [Value.ownBlock, Option.map_some, ne_eq, Option.some.injEq]; exact rows_ne hrs2 hEb2 (by decide)))
    refine hK.out _ _ ⟨hM3.c0, hM3.c1⟩ ?_
    clear hK K
    (try simp only [Act.put, List.setIfInBounds_toArray, List.set_cons_zero, List.set_cons_succ])
    refine Ord.ot_alone rfl (fun K hK => ?_)
    refine App.step_append_fresh V3 rfl (.tmp 7) (.tmp 9) 25 rfl W.heap.size 36 j0 _ 2 16 Try.underlying25 hj0 hy0 hy1 hy2 rfl (by omega) gs1 rfl hrs3 B m d (scells k.2) rfl (by rw [scells_len, hM3.kr.l2]; omega) (App.Lies.src hM3.kr.r2) (scells_one k.2) (by simp only [maxLen]; omega) (by omega) hM3.bw.size ?_
    intro gs4 caps4 V4 hos4 hg4
    have hb4 : Below W.heap.size V3 V4 := (Below.refl _ _).grown hg4 hM3.bw.size (fun j hj => by cases hj; exact (hrs3.lt _ rfl).1)
    have hM4 := hM3.step hb4 hz
    have hrb4 := hob3.kept hg4 (.inr (by simp only [Value.ownBlock, Option.map_some, ne_eq, Option.some.injEq]; exact rows_ne hob3 hrs3 (by decide)))
    refine hK.out _ _ ⟨hM4.c0, hM4.c1⟩ ?_
    clear hK K
    (try simp only [Act.put, List.setIfInBounds_toArray, List.set_cons_zero, List.set_cons_succ])
    (refine Ord.ot_take (v := ?_) rfl (by rfl) (fun w' hS => ?_) ?_; rotate_left; (focus ((try dsimp only at hS); go_simp; first | done | with_reducible rfl)); simp only [Act.put, List.setIfInBounds_toArray, List.set_cons_zero, List.set_cons_succ])
    obtain ⟨q0, q1, f0, f1, _⟩ := hM4.tw
    refine Ord.ot_alone rfl (fun K hK => ?_)
    go_simp
    have HK := Lib.hid (show KO V4 W.heap.size V4.heap.size k (some ⟨gb3, 0, none⟩) (some ⟨gs4, 0, none⟩) n m from KO.rows hrb4 hos4 hM4.kr.l1 hM4.kr.l2)
    have HBV := Lib.hid hM4.bw
    have HCAP := Lib.hid (row_cap hrb4)
    have HC := Lib.hid (And.intro hM4.c0 hM4.c1)
    refine hK.out _ _ ⟨keep_set HC.out.1 (by omega), keep_set HC.out.2 (by omega)⟩ ?_
    clear hK K
    (try simp only [Act.put, List.setIfInBounds_toArray, List.set_cons_zero, List.set_cons_succ])
    refine Ord.ot_nil ?_
    go_wp2_with fail
    exact bodyPost_ret (v := .agg #[.slice (some ⟨gb3, 0, none⟩) n capb3, .slice (some ⟨gs4, 0, none⟩) m caps4]) (by simp [results, Try.results63, go_sem, q0, q1]) rfl ⟨_, _, _, _, rfl, HCAP.out, (copy_end HK.out hz).wide (by have := HB.out.size; omega) (by simp), set_two ((HB.out.trans (HBV.out.mono HB.out.size))) (by omega) _ _⟩
theorem spec_copy (hn : n ≤ 1048576) (hm : m ≤ 1048576) (h : KR w 0 w.heap.size k A B n m) :
    Calls Try.prog 63 #[.agg #[.slice A n c, .slice B m d]] w (KP w n m k) := (spec_copyc A B n m c d k w hn hm h).mono KPc.kp
end
end Go.Proofs.Ytfgckkgakghenaa.Kepts
