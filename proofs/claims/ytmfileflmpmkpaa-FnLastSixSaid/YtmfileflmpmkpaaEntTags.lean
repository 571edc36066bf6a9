/-
  The buffer of entries: the given model's TagsIn. No condition beyond a buffer's length.
-/
import Derived.Test.YtmfileflmpmkpaaEntPut
namespace Go.Proofs.Ytmfileflmpmkpaa.Ents
set_option maxRecDepth 100000
open Go.ChangeShapes Go.WideShapes Go.ChangeAt Go.RowKit
open Go.Proofs.Ytmfileflmpmkpaa.Base Go.Proofs.Ytmfileflmpmkpaa.Mem Go.Proofs.Ytmfileflmpmkpaa.Data Go.Proofs.Ytmfileflmpmkpaa.Ints Go.Proofs.Ytmfileflmpmkpaa.Slots
set_option linter.unusedVariables false
set_option linter.unusedSimpArgs false

theorem n_one (l : List Int) : ∀ u ∈ ncells l, u.oneCell' = true := by
  intro u hu
  obtain ⟨b, _, rfl⟩ := List.mem_map.1 hu
  rfl
theorem news_one {w : World} {b : Nat} {v : Value} (h : w.cell? ⟨b, 0, none⟩ = some v) : ∀ j u, [v][j]? = some u → w.cell? ((⟨b, 0, none⟩ : Addr).add j) = some u := fun j u hu => by
  have hj := (List.getElem?_eq_some_iff.1 hu).1
  simp at hj
  subst hj
  simp at hu
  subst hu
  rw [Addr.add_lit]
  exact h
theorem row_kept {w w' : World} {base size n g cap : Nat} {e : TypeId} {xs : List Value} (h : w.ownsRow base e size (.slice (some ⟨g, 0, none⟩) n cap) n xs) (hb : Below w.heap.size w w') : w'.ownsRow base e size (.slice (some ⟨g, 0, none⟩) n cap) n xs := h.kept (Slots.grown_of_below hb none) (.inr (by simp [Value.ownBlock]))
theorem row_take {w : World} {base n g cap : Nat} {e : TypeId} {L : List Int} (h : w.ownsRow base e 1 (.slice (some ⟨g, 0, none⟩) n cap) n (ncells L)) (a : Nat) (ha : a ≤ n) : ∀ j u, (ncells (L.take a))[j]? = some u → ∃ ad, (some ⟨g, 0, none⟩ : Option Addr) = some ad ∧ w.cell? (ad.add j) = some u := fun j u hu => by
  have hl := (Owned.of_row h).1
  have hj := (List.getElem?_eq_some_iff.1 hu).1
  rw [ncells_len, List.length_take] at hj
  have hu2 : (ncells L)[j]? = some u := by
    rw [← hu]
    simp only [ncells, List.getElem?_map, List.getElem?_take]
    rw [if_pos (by omega)]
  obtain ⟨b, off, e', _, _, hc⟩ := hl j u hu2
  cases e'
  exact ⟨_, rfl, by rw [Addr.add_lit]; exact hc⟩
theorem n_drop {w : World} {base n g cap : Nat} {e : TypeId} {L : List Int} (h : w.ownsRow base e 1 (.slice (some ⟨g, 0, none⟩) n cap) n (ncells L)) (a : Nat) (j : Nat) (u : Value) (hu : (ncells (L.drop a))[j]? = some u) : w.cell? ((⟨g, a, none⟩ : Addr).add j) = some u := by
  have hl := (Owned.of_row h).1
  have hu2 : (ncells L)[a + j]? = some u := by
    rw [← hu]
    simp only [ncells, List.getElem?_map, List.getElem?_drop]
  obtain ⟨b, off, e', _, _, hc⟩ := hl _ u hu2
  cases e'
  rw [Addr.add_lit]
  simpa using hc

set_option maxRecDepth 100000 in
set_option maxHeartbeats 8000000 in
theorem spec_tags (A : Option Addr) (n c lo : Nat) (l : List ET) (w : World) (hn : n ≤ 1048576) (hl : l.length = n) (h1 : Lies w lo w.heap.size A (ecells l)) :
    Calls Try.prog 25 #[.slice A n c] w (Slots.UsesPost w (tagsL l)) := by
  obtain ⟨i0, hi0, hz0, hz1, hz2⟩ := info_parts Try.infoNum
  have H1 := Lib.hid h1
  have HL := Lib.hid hl
  clear h1 hl
  go_enter Try.func25, Try.ntmps25
  go_wp2
  go_loopw [3, 4] (fun v i wr => ∃ (k g cap m : Nat), k ≤ n ∧ i = .int .i64 k ∧ m ≤ k ∧ v = .slice (some ⟨g, 0, none⟩) m cap ∧ (tagsL (l.take k)).length = m ∧ wr.ownsRow w.heap.size 3 1 (.slice (some ⟨g, 0, none⟩) m cap) m (ncells (tagsL (l.take k))) ∧ Below w.heap.size w wr) (fun _ i _ => n - (intOf i).toNat)
  case atStart => exact ⟨0, w.heap.size, 0, 0, Nat.zero_le _, rfl, Nat.le_refl _, rfl, rfl, World.ownsRow_made w #[] 0 (Nat.le_refl _) (Nat.zero_le _) rfl, (Below.refl _ _).alloc (Nat.le_refl _) _⟩
  case round =>
    obtain ⟨k, g, cap, m, hk, rfl, hmk, rfl, hlen, hown, hb⟩ := hrel
    by_cases hlt : k < n
    · have hkl : k < l.length := by have := HL.out; omega
      obtain ⟨b, off, rfl, g1, hbw, c0, c1, c2, c3⟩ := e_at H1.out k hkl
      have d0 := (hb.cell (p := ⟨b, off + k * 4, none⟩) hbw).trans c0
      have hj0 : (0 : Int) ≤ (k : Int) := Int.natCast_nonneg _
      have hj1 : (k : Int) < (n : Int) := by omega
      have hs := tagsL_snoc (l.take k) l[k]
      rw [← List.take_succ_eq_append_getElem hkl] at hs
      have has := asc_tagsL (l.take k)
      clear c0 c1 c2 c3 g1
      generalize l[k].1 = x0 at d0 hs
      generalize tagsL (l.take k) = L at hown hlen hs has
      have HS := Lib.hid hs
      have HN := Lib.hid hlen
      have HA := Lib.hid has
      have hbs := hb.size
      have hcap := e_cap hown
      have hc1 := hcap.1
      have hc2 := hcap.2
      clear hs hlen has hcap
      go_wp2
      go_loopw [5] (fun i wi => ∃ (a q : Nat), a ≤ m ∧ i = .int .i64 a ∧ (∀ j (h : j < L.length), j < a → L[j] < x0) ∧ wi = wr.drewN q) (fun i _ => m - (intOf i).toNat)
      case atStart => exact ⟨0, 0, Nat.zero_le _, rfl, fun j h h2 => by omega, rfl⟩
      case round =>
        obtain ⟨a, q, ha, rfl, hless, rfl⟩ := hrel
        have ha0 : (0 : Int) ≤ (a : Int) := Int.natCast_nonneg _
        have HLESS := Lib.hid hless
        by_cases ham : a < m
        · have ha1 : (a : Int) < (m : Int) := by omega
          have haL : a < L.length := by have := HN.out; omega
          have hstep : L[a] < x0 → ∀ j (h : j < L.length), j < a + 1 → L[j] < x0 := fun h j hj hja => by
            rcases Nat.lt_succ_iff_lt_or_eq.1 hja with h2 | rfl
            · exact hless j hj h2
            · exact h
          have hins : ¬ L[a] < x0 → insT x0 L = if L[a] = x0 then L else L.take a ++ x0 :: L.drop a := fun h => by
            rw [insT_at x0 L a HA.out (by omega) hless (fun _ => h), dif_pos haL]
          obtain ⟨b2, off2, e2, _, _, da⟩ := Ints.int_at (Owned.of_row hown).1 a haL
          cases e2
          rw [Nat.zero_add] at da
          generalize L[a] = y at da hstep hins
          clear hless
          by_cases hy : y < x0
          · have HST := Lib.hid (hstep hy)
            clear hstep hins
            go_wp2
            go_quiet (fail)
            go_wp2
            go_roundw
            case rel => exact ⟨a + 1, _, by omega, by go_num, HST.out, rfl⟩
            case measure => simp [intOf]; omega
          · have hi := hins hy
            clear hstep hins
            have hy' : decide (y < x0) = false := by simpa using hy
            by_cases hyx : y = x0
            · subst hyx
              rw [if_pos rfl] at hi
              have HI := Lib.hid hi
              clear hi
              have hownW := hown
              have hbW := hb
              have ham' : ((a : Int) == (m : Int)) = false := by simp; omega
              go_wp2
              go_quiet (fail)
              go_wp2
              go_quiet (fail)
              go_wp2
              go_roundw
              case rel => exact ⟨k + 1, g, cap, m, by omega, by go_num, by omega, rfl, by rw [HS.out, HI.out]; exact HN.out, by rw [HS.out, HI.out]; exact hownW, below_drewN hbW _⟩
              case measure => simp [intOf]; omega
            · rw [if_neg hyx] at hi
              have HI := Lib.hid hi
              clear hi
              have ham' : ((a : Int) == (m : Int)) = false := by simp; omega
              have hyx' : (y != x0) = true := by simpa using hyx
              go_wp2
              go_quiet (fail)
              rename Nat => nq1
              go_wp2
              go_quiet (fail)
              go_wp2
              have hownd : (((wr.drewN q).drewN nq1).drewN nq).ownsRow w.heap.size 3 1 (.slice (some ⟨g, 0, none⟩) m cap) m (ncells L) := hown
              have hd0 : (((wr.drewN q).drewN nq1).drewN nq).cell? ⟨b, off + k * 4, none⟩ = some (.int .i64 x0) := d0
              have hbd : Below w.heap.size w (((wr.drewN q).drewN nq1).drewN nq) := below_drewN (below_drewN (below_drewN hb _) _) _
              generalize ((wr.drewN q).drewN nq1).drewN nq = wd at hownd hd0 hbd ⊢
              have HB := Lib.hid hbd
              have HWB := Lib.hid hbd.size
              have hac : a ≤ cap := by omega
              have hbwd : b < wd.heap.size := Nat.lt_of_lt_of_le hbw hbd.size
              have hdv : wd.drew.cell? ⟨b, off + k * 4, none⟩ = some (.int .i64 x0) := hd0
              clear hbd
              refine Ord.wp_region_tree (fun w' => w'.cell? ⟨b, off + k * 4, none⟩ = some (.int .i64 x0)) (.take 1 (.take 2 (.take 3 (.take 5 (.take 6 (.take 7 (.take 8 (.take 9 (.two 0 (.two 4 (.alone 10 (.alone 11 (.take 12 .nil))) 10 (.alone 4 (.alone 11 (.take 12 .nil)))) 10 (.alone 0 (.alone 4 (.alone 11 (.take 12 .nil))))))))))))) (by kernel_rfl) (by kernel_rfl) (by kernel_rfl) hdv ?_
              generalize hV0 : wd.drew = V0
              have hBD : Below wd.heap.size wd V0 := by rw [← hV0]; exact (Below.refl _ _).drew
              clear hV0 hdv
              (refine Ord.ot_take (v := ?_) rfl (by rfl) (fun w' hS => ?_) ?_; rotate_left; (focus ((try dsimp only at hS); go_simp; first | done | with_reducible rfl)); simp only [Act.put, List.setIfInBounds_toArray, List.set_cons_zero, List.set_cons_succ])
              (refine Ord.ot_take (v := ?_) rfl (by rfl) (fun w' hS => ?_) ?_; rotate_left; (focus ((try dsimp only at hS); go_simp; first | done | with_reducible rfl)); simp only [Act.put, List.setIfInBounds_toArray, List.set_cons_zero, List.set_cons_succ])
              (refine Ord.ot_take (v := ?_) rfl (by rfl) (fun w' hS => ?_) ?_; rotate_left; (focus ((try dsimp only at hS); go_simp; first | done | with_reducible rfl)); simp only [Act.put, List.setIfInBounds_toArray, List.set_cons_zero, List.set_cons_succ])
              (refine Ord.ot_take (v := ?_) rfl (by rfl) (fun w' hS => ?_) ?_; rotate_left; (focus ((try dsimp only at hS); go_simp; first | done | with_reducible rfl)); simp only [Act.put, List.setIfInBounds_toArray, List.set_cons_zero, List.set_cons_succ])
              (refine Ord.ot_take (v := ?_) rfl (by rfl) (fun w' hS => ?_) ?_; rotate_left; (focus ((try dsimp only at hS); go_simp; first | done | with_reducible rfl)); simp only [Act.put, List.setIfInBounds_toArray, List.set_cons_zero, List.set_cons_succ])
              (refine Ord.ot_take (v := ?_) rfl (by rfl) (fun w' hS => ?_) ?_; rotate_left; (focus ((try dsimp only at hS); go_simp; first | done | with_reducible rfl)); simp only [Act.put, List.setIfInBounds_toArray, List.set_cons_zero, List.set_cons_succ])
              (refine Ord.ot_take (v := ?_) rfl (by rfl) (fun w' hS => ?_) ?_; rotate_left; (focus ((try dsimp only at hS); go_simp; first | done | with_reducible rfl)); simp only [Act.put, List.setIfInBounds_toArray, List.set_cons_zero, List.set_cons_succ])
              (refine Ord.ot_take (v := ?_) rfl (by rfl) (fun w' hS => ?_) ?_; rotate_left; (focus ((try dsimp only at hS); go_simp; first | done | with_reducible rfl)); simp only [Act.put, List.setIfInBounds_toArray, List.set_cons_zero, List.set_cons_succ])
              refine Ord.ot_two rfl rfl (fun K hK => ?_) (fun K hK => ?_)
              · go_simp
                have hb1 : Below wd.heap.size wd (V0.alloc (.cells #[] 3)) := hBD.alloc hBD.size _
                have hE1 : (V0.alloc (.cells #[] 3)).ownsRow wd.heap.size 3 1 (.slice (some ⟨V0.heap.size, 0, none⟩) 0 0) 0 [] := World.ownsRow_made V0 #[] 0 hBD.size (Nat.zero_le _) rfl
                obtain ⟨ge, hge⟩ : ∃ q, q = V0.heap.size := ⟨_, rfl⟩
                rw [← hge] at hE1
                refine hK.out _ _ ((Below.cell (p := ⟨b, off + k * 4, none⟩) hb1 hbwd).trans hd0) ?_
                clear hK K
                generalize V0.alloc (.cells #[] 3) = V1 at hb1 hE1 ⊢
                rw [← hge]
                clear hge
                (try simp only [Act.put, List.setIfInBounds_toArray, List.set_cons_zero, List.set_cons_succ])
                refine Ord.ot_two rfl rfl (fun K hK => ?_) (fun K hK => ?_)
                · have hsA := row_take (row_kept hownd hb1) a (by omega)
                  refine App.step_append_fresh V1 rfl (.tmp 48) (.tmp 51) 37 rfl wd.heap.size 3 i0 _ 1 8 Try.underlying37 hi0 hz0 hz1 hz2 rfl (by omega) ge rfl hE1 (some ⟨g, 0, none⟩) a cap (ncells (L.take a)) rfl (by rw [ncells_len, List.length_take]; have := HN.out; omega) hsA (n_one _) (by simp only [maxLen]; omega) (by omega) hb1.size ?_
                  intro g4 cap4 V2 hown4 hg4
                  have hb2 : Below wd.heap.size wd V2 := hb1.grown hg4 hb1.size (fun q hq => by cases hq; exact (hE1.lt _ rfl).1)
                  refine hK.out _ _ ((Below.cell (p := ⟨b, off + k * 4, none⟩) hb2 hbwd).trans hd0) ?_
                  clear hK K
                  (try simp only [Act.put, List.setIfInBounds_toArray, List.set_cons_zero, List.set_cons_succ])
                  refine Ord.ot_alone rfl (fun K hK => ?_)
                  go_simp
                  have hb3 : Below wd.heap.size wd (V2.alloc (.cells #[.int .i64 x0] 3)) := hb2.alloc hb2.size _
                  have hN3 : (V2.alloc (.cells #[.int .i64 x0] 3)).cell? ⟨V2.heap.size, 0, none⟩ = some (.int .i64 x0) := cell_of_row _ _ 0 _ _ _ (heap_alloc_new V2 _)
                  have hL3 : V2.heap.size < (V2.alloc (.cells #[.int .i64 x0] 3)).heap.size := by simp
                  have hR3 := hown4.alloc (.cells #[.int .i64 x0] 3)
                  obtain ⟨gn, hgn⟩ : ∃ q, q = V2.heap.size := ⟨_, rfl⟩
                  rw [← hgn] at hN3 hL3
                  refine hK.out _ _ ((Below.cell (p := ⟨b, off + k * 4, none⟩) hb3 hbwd).trans hd0) ?_
                  clear hK K
                  generalize V2.alloc (.cells #[.int .i64 x0] 3) = V3 at hb3 hN3 hL3 hR3 ⊢
                  rw [← hgn]
                  clear hgn
                  (try simp only [Act.put, List.setIfInBounds_toArray, List.set_cons_zero, List.set_cons_succ])
                  refine Ord.ot_alone rfl (fun K hK => ?_)
                  refine step_append_lies _ rfl (.tmp 52) (.tmp 58) 37 rfl wd.heap.size 3 i0 _ 1 8 Try.underlying37 hi0 hz0 hz1 hz2 rfl (by omega) (.slice (some ⟨g4, 0, none⟩) a cap4) a _ rfl hR3 ⟨gn, 0, none⟩ 1 1 [.int .i64 x0] rfl rfl (news_one hN3) (by simp [Value.oneCell']) (by omega) (by simp only [maxLen]; omega) (by omega) hb3.size V3.heap.size rfl ?_
                  intro g9 cap9 V4 hown9 hg9 hat9 hlt9
                  have hb4 : Below wd.heap.size wd V4 := hb3.grown hg9 hb3.size (fun q hq => (hR3.lt q hq).1)
                  refine hK.out _ _ ((Below.cell (p := ⟨b, off + k * 4, none⟩) hb4 hbwd).trans hd0) ?_
                  clear hK K
                  (try simp only [Act.put, List.setIfInBounds_toArray, List.set_cons_zero, List.set_cons_succ])
                  (refine Ord.ot_take (v := ?_) rfl (by rfl) (fun w' hS => ?_) ?_; rotate_left; (focus ((try dsimp only at hS); go_simp; first | done | with_reducible rfl)); simp only [Act.put, List.setIfInBounds_toArray, List.set_cons_zero, List.set_cons_succ])
                  refine Ord.ot_nil ?_
                  have HO := Lib.hid (row_kept hownd hb4)
                  have HR := Lib.hid (And.intro hown9 hb4)
                  clear hown9 hb4 hown4 hg4 hg9 hat9 hlt9
                  have hca : ¬ cap = a := by omega
                  have HSRC := Lib.hid (show ∀ j u, (ncells (L.drop a))[j]? = some u → V4.cell? ((⟨g, a, none⟩ : Addr).add j) = some u from fun j u hu => n_drop HO.out a j u hu)
                  have HDL := Lib.hid (show (L.drop a).length = m - a by rw [List.length_drop, HN.out])
                  go_wp2_with (at_builtin; refine wpList_append_own_at _ rfl (.tmp 60) (.tmp 63) 37 rfl wd.heap.size 3 i0 _ 1 8 Try.underlying37 hi0 hz0 hz1 hz2 rfl (by omega) (.slice (some ⟨g9, 0, none⟩) (a + 1) cap9) (a + 1) _ rfl HR.out.1 ⟨g, a, none⟩ (m - a) (cap - a) (ncells (L.drop a)) rfl (by rw [ncells_len, HDL.out]; omega) HSRC.out (n_one _) (by simp only [maxLen]; omega) (by omega) HR.out.2.size ?_; intro v' w10 hown10 hg10 hnil10 hblk10)
                  obtain ⟨g10, cap10, rfl, hgb, hglt⟩ := hown10.form (by omega)
                  have hlen10 : (tagsL (l.take (k + 1))).length = a + 1 + (m - a) := by rw [HS.out, HI.out]; simp [HN.out]; omega
                  have hrow10 : w10.ownsRow w.heap.size 3 1 (.slice (some ⟨g10, 0, none⟩) (a + 1 + (m - a)) cap10) (a + 1 + (m - a)) (ncells (tagsL (l.take (k + 1)))) := by rw [HS.out, HI.out]; exact row_mono (by simpa [ncells] using hown10) HWB.out
                  have hb10 : Below w.heap.size w w10 := (btr HB.out HR.out.2).grown hg10 (Nat.le_trans HWB.out HR.out.2.size) (fun j hj => Nat.le_trans HWB.out (HR.out.1.lt j hj).1)
                  have HF := Lib.hid (And.intro hlen10 (And.intro hrow10 hb10))
                  clear hown10 hg10 hnil10 hblk10 hgb hglt hlen10 hrow10 hb10
                  go_roundw
                  case rel => exact ⟨k + 1, g10, cap10, a + 1 + (m - a), by omega, by go_num, by omega, rfl, HF.out.1, HF.out.2.1, HF.out.2.2⟩
                  case measure => simp [intOf]; omega
                · go_simp
                  have hb2 : Below wd.heap.size wd (V1.alloc (.cells #[.int .i64 x0] 3)) := hb1.alloc hb1.size _
                  have hN2 : (V1.alloc (.cells #[.int .i64 x0] 3)).cell? ⟨V1.heap.size, 0, none⟩ = some (.int .i64 x0) := cell_of_row _ _ 0 _ _ _ (heap_alloc_new V1 _)
                  have hL2 : V1.heap.size < (V1.alloc (.cells #[.int .i64 x0] 3)).heap.size := by simp
                  have hE2 := hE1.alloc (.cells #[.int .i64 x0] 3)
                  have hne2 : V1.heap.size ≠ ge := Nat.ne_of_gt (hE1.lt _ rfl).2
                  obtain ⟨gn, hgn⟩ : ∃ q, q = V1.heap.size := ⟨_, rfl⟩
                  rw [← hgn] at hN2 hL2 hne2
                  refine hK.out _ _ ((Below.cell (p := ⟨b, off + k * 4, none⟩) hb2 hbwd).trans hd0) ?_
                  clear hK K
                  generalize V1.alloc (.cells #[.int .i64 x0] 3) = V2 at hb2 hN2 hL2 hE2 ⊢
                  rw [← hgn]
                  clear hgn
                  (try simp only [Act.put, List.setIfInBounds_toArray, List.set_cons_zero, List.set_cons_succ])
                  refine Ord.ot_alone rfl (fun K hK => ?_)
                  have hsA := row_take (row_kept hownd hb2) a (by omega)
                  refine App.step_append_fresh V2 rfl (.tmp 48) (.tmp 51) 37 rfl wd.heap.size 3 i0 _ 1 8 Try.underlying37 hi0 hz0 hz1 hz2 rfl (by omega) ge rfl hE2 (some ⟨g, 0, none⟩) a cap (ncells (L.take a)) rfl (by rw [ncells_len, List.length_take]; have := HN.out; omega) hsA (n_one _) (by simp only [maxLen]; omega) (by omega) hb2.size ?_
                  intro g4 cap4 V3 hown4 hg4
                  have hb3 : Below wd.heap.size wd V3 := hb2.grown hg4 hb2.size (fun q hq => by cases hq; exact (hE2.lt _ rfl).1)
                  have hN3 := (World.grownBy.cell_far hg4 ⟨gn, 0, none⟩ hL2 (by simpa using hne2)).trans hN2
                  have hL3 : gn < V3.heap.size := Nat.lt_of_lt_of_le hL2 hg4.size
                  refine hK.out _ _ ((Below.cell (p := ⟨b, off + k * 4, none⟩) hb3 hbwd).trans hd0) ?_
                  clear hK K
                  (try simp only [Act.put, List.setIfInBounds_toArray, List.set_cons_zero, List.set_cons_succ])
                  refine Ord.ot_alone rfl (fun K hK => ?_)
                  refine step_append_lies _ rfl (.tmp 52) (.tmp 58) 37 rfl wd.heap.size 3 i0 _ 1 8 Try.underlying37 hi0 hz0 hz1 hz2 rfl (by omega) (.slice (some ⟨g4, 0, none⟩) a cap4) a _ rfl hown4 ⟨gn, 0, none⟩ 1 1 [.int .i64 x0] rfl rfl (news_one hN3) (by simp [Value.oneCell']) (by omega) (by simp only [maxLen]; omega) (by omega) hb3.size V3.heap.size rfl ?_
                  intro g9 cap9 V4 hown9 hg9 hat9 hlt9
                  have hb4 : Below wd.heap.size wd V4 := hb3.grown hg9 hb3.size (fun q hq => (hown4.lt q hq).1)
                  refine hK.out _ _ ((Below.cell (p := ⟨b, off + k * 4, none⟩) hb4 hbwd).trans hd0) ?_
                  clear hK K
                  (try simp only [Act.put, List.setIfInBounds_toArray, List.set_cons_zero, List.set_cons_succ])
                  (refine Ord.ot_take (v := ?_) rfl (by rfl) (fun w' hS => ?_) ?_; rotate_left; (focus ((try dsimp only at hS); go_simp; first | done | with_reducible rfl)); simp only [Act.put, List.setIfInBounds_toArray, List.set_cons_zero, List.set_cons_succ])
                  refine Ord.ot_nil ?_
                  have HO := Lib.hid (row_kept hownd hb4)
                  have HR := Lib.hid (And.intro hown9 hb4)
                  clear hown9 hb4 hown4 hg4 hg9 hat9 hlt9
                  have hca : ¬ cap = a := by omega
                  have HSRC := Lib.hid (show ∀ j u, (ncells (L.drop a))[j]? = some u → V4.cell? ((⟨g, a, none⟩ : Addr).add j) = some u from fun j u hu => n_drop HO.out a j u hu)
                  have HDL := Lib.hid (show (L.drop a).length = m - a by rw [List.length_drop, HN.out])
                  go_wp2_with (at_builtin; refine wpList_append_own_at _ rfl (.tmp 60) (.tmp 63) 37 rfl wd.heap.size 3 i0 _ 1 8 Try.underlying37 hi0 hz0 hz1 hz2 rfl (by omega) (.slice (some ⟨g9, 0, none⟩) (a + 1) cap9) (a + 1) _ rfl HR.out.1 ⟨g, a, none⟩ (m - a) (cap - a) (ncells (L.drop a)) rfl (by rw [ncells_len, HDL.out]; omega) HSRC.out (n_one _) (by simp only [maxLen]; omega) (by omega) HR.out.2.size ?_; intro v' w10 hown10 hg10 hnil10 hblk10)
                  obtain ⟨g10, cap10, rfl, hgb, hglt⟩ := hown10.form (by omega)
                  have hlen10 : (tagsL (l.take (k + 1))).length = a + 1 + (m - a) := by rw [HS.out, HI.out]; simp [HN.out]; omega
                  have hrow10 : w10.ownsRow w.heap.size 3 1 (.slice (some ⟨g10, 0, none⟩) (a + 1 + (m - a)) cap10) (a + 1 + (m - a)) (ncells (tagsL (l.take (k + 1)))) := by rw [HS.out, HI.out]; exact row_mono (by simpa [ncells] using hown10) HWB.out
                  have hb10 : Below w.heap.size w w10 := (btr HB.out HR.out.2).grown hg10 (Nat.le_trans HWB.out HR.out.2.size) (fun j hj => Nat.le_trans HWB.out (HR.out.1.lt j hj).1)
                  have HF := Lib.hid (And.intro hlen10 (And.intro hrow10 hb10))
                  clear hown10 hg10 hnil10 hblk10 hgb hglt hlen10 hrow10 hb10
                  go_roundw
                  case rel => exact ⟨k + 1, g10, cap10, a + 1 + (m - a), by omega, by go_num, by omega, rfl, HF.out.1, HF.out.2.1, HF.out.2.2⟩
                  case measure => simp [intOf]; omega
              · go_simp
                have hb1 : Below wd.heap.size wd (V0.alloc (.cells #[.int .i64 x0] 3)) := hBD.alloc hBD.size _
                have hN1 : (V0.alloc (.cells #[.int .i64 x0] 3)).cell? ⟨V0.heap.size, 0, none⟩ = some (.int .i64 x0) := cell_of_row _ _ 0 _ _ _ (heap_alloc_new V0 _)
                have hL1 : V0.heap.size < (V0.alloc (.cells #[.int .i64 x0] 3)).heap.size := by simp
                obtain ⟨gn, hgn⟩ : ∃ q, q = V0.heap.size := ⟨_, rfl⟩
                rw [← hgn] at hN1 hL1
                refine hK.out _ _ ((Below.cell (p := ⟨b, off + k * 4, none⟩) hb1 hbwd).trans hd0) ?_
                clear hK K
                generalize V0.alloc (.cells #[.int .i64 x0] 3) = V1 at hb1 hN1 hL1 ⊢
                rw [← hgn]
                clear hgn
                (try simp only [Act.put, List.setIfInBounds_toArray, List.set_cons_zero, List.set_cons_succ])
                refine Ord.ot_alone rfl (fun K hK => ?_)
                go_simp
                have hb2 : Below wd.heap.size wd (V1.alloc (.cells #[] 3)) := hb1.alloc hb1.size _
                have hE2 : (V1.alloc (.cells #[] 3)).ownsRow wd.heap.size 3 1 (.slice (some ⟨V1.heap.size, 0, none⟩) 0 0) 0 [] := World.ownsRow_made V1 #[] 0 hb1.size (Nat.zero_le _) rfl
                have hN2 := (World.cell?_alloc_lt V1 (.cells #[] 3) ⟨gn, 0, none⟩ (by simpa using hL1)).trans hN1
                have hL2 : gn < (V1.alloc (.cells #[] 3)).heap.size := by simp; omega
                have hne2 : gn ≠ V1.heap.size := by omega
                obtain ⟨ge, hge⟩ : ∃ q, q = V1.heap.size := ⟨_, rfl⟩
                rw [← hge] at hE2 hne2
                refine hK.out _ _ ((Below.cell (p := ⟨b, off + k * 4, none⟩) hb2 hbwd).trans hd0) ?_
                clear hK K
                generalize V1.alloc (.cells #[] 3) = V2 at hb2 hE2 hN2 hL2 ⊢
                rw [← hge]
                clear hge
                (try simp only [Act.put, List.setIfInBounds_toArray, List.set_cons_zero, List.set_cons_succ])
                refine Ord.ot_alone rfl (fun K hK => ?_)
                have hsA := row_take (row_kept hownd hb2) a (by omega)
                refine App.step_append_fresh V2 rfl (.tmp 48) (.tmp 51) 37 rfl wd.heap.size 3 i0 _ 1 8 Try.underlying37 hi0 hz0 hz1 hz2 rfl (by omega) ge rfl hE2 (some ⟨g, 0, none⟩) a cap (ncells (L.take a)) rfl (by rw [ncells_len, List.length_take]; have := HN.out; omega) hsA (n_one _) (by simp only [maxLen]; omega) (by omega) hb2.size ?_
                intro g4 cap4 V3 hown4 hg4
                have hb3 : Below wd.heap.size wd V3 := hb2.grown hg4 hb2.size (fun q hq => by cases hq; exact (hE2.lt _ rfl).1)
                have hN3 := (World.grownBy.cell_far hg4 ⟨gn, 0, none⟩ hL2 (by simpa using hne2)).trans hN2
                have hL3 : gn < V3.heap.size := Nat.lt_of_lt_of_le hL2 hg4.size
                refine hK.out _ _ ((Below.cell (p := ⟨b, off + k * 4, none⟩) hb3 hbwd).trans hd0) ?_
                clear hK K
                (try simp only [Act.put, List.setIfInBounds_toArray, List.set_cons_zero, List.set_cons_succ])
                refine Ord.ot_alone rfl (fun K hK => ?_)
                refine step_append_lies _ rfl (.tmp 52) (.tmp 58) 37 rfl wd.heap.size 3 i0 _ 1 8 Try.underlying37 hi0 hz0 hz1 hz2 rfl (by omega) (.slice (some ⟨g4, 0, none⟩) a cap4) a _ rfl hown4 ⟨gn, 0, none⟩ 1 1 [.int .i64 x0] rfl rfl (news_one hN3) (by simp [Value.oneCell']) (by omega) (by simp only [maxLen]; omega) (by omega) hb3.size V3.heap.size rfl ?_
                intro g9 cap9 V4 hown9 hg9 hat9 hlt9
                have hb4 : Below wd.heap.size wd V4 := hb3.grown hg9 hb3.size (fun q hq => (hown4.lt q hq).1)
                refine hK.out _ _ ((Below.cell (p := ⟨b, off + k * 4, none⟩) hb4 hbwd).trans hd0) ?_
                clear hK K
                (try simp only [Act.put, List.setIfInBounds_toArray, List.set_cons_zero, List.set_cons_succ])
                (refine Ord.ot_take (v := ?_) rfl (by rfl) (fun w' hS => ?_) ?_; rotate_left; (focus ((try dsimp only at hS); go_simp; first | done | with_reducible rfl)); simp only [Act.put, List.setIfInBounds_toArray, List.set_cons_zero, List.set_cons_succ])
                refine Ord.ot_nil ?_
                have HO := Lib.hid (row_kept hownd hb4)
                have HR := Lib.hid (And.intro hown9 hb4)
                clear hown9 hb4 hown4 hg4 hg9 hat9 hlt9
                have hca : ¬ cap = a := by omega
                have HSRC := Lib.hid (show ∀ j u, (ncells (L.drop a))[j]? = some u → V4.cell? ((⟨g, a, none⟩ : Addr).add j) = some u from fun j u hu => n_drop HO.out a j u hu)
                have HDL := Lib.hid (show (L.drop a).length = m - a by rw [List.length_drop, HN.out])
                go_wp2_with (at_builtin; refine wpList_append_own_at _ rfl (.tmp 60) (.tmp 63) 37 rfl wd.heap.size 3 i0 _ 1 8 Try.underlying37 hi0 hz0 hz1 hz2 rfl (by omega) (.slice (some ⟨g9, 0, none⟩) (a + 1) cap9) (a + 1) _ rfl HR.out.1 ⟨g, a, none⟩ (m - a) (cap - a) (ncells (L.drop a)) rfl (by rw [ncells_len, HDL.out]; omega) HSRC.out (n_one _) (by simp only [maxLen]; omega) (by omega) HR.out.2.size ?_; intro v' w10 hown10 hg10 hnil10 hblk10)
                obtain ⟨g10, cap10, rfl, hgb, hglt⟩ := hown10.form (by omega)
                have hlen10 : (tagsL (l.take (k + 1))).length = a + 1 + (m - a) := by rw [HS.out, HI.out]; simp [HN.out]; omega
                have hrow10 : w10.ownsRow w.heap.size 3 1 (.slice (some ⟨g10, 0, none⟩) (a + 1 + (m - a)) cap10) (a + 1 + (m - a)) (ncells (tagsL (l.take (k + 1)))) := by rw [HS.out, HI.out]; exact row_mono (by simpa [ncells] using hown10) HWB.out
                have hb10 : Below w.heap.size w w10 := (btr HB.out HR.out.2).grown hg10 (Nat.le_trans HWB.out HR.out.2.size) (fun j hj => Nat.le_trans HWB.out (HR.out.1.lt j hj).1)
                have HF := Lib.hid (And.intro hlen10 (And.intro hrow10 hb10))
                clear hown10 hg10 hnil10 hblk10 hgb hglt hlen10 hrow10 hb10
                go_roundw
                case rel => exact ⟨k + 1, g10, cap10, a + 1 + (m - a), by omega, by go_num, by omega, rfl, HF.out.1, HF.out.2.1, HF.out.2.2⟩
                case measure => simp [intOf]; omega
        · obtain rfl : m = a := by omega
          have hi := insT_at x0 L m HA.out (by have := HN.out; omega) hless (fun h => by have := HN.out; omega)
          rw [dif_neg (by have := HN.out; omega)] at hi
          have HI := Lib.hid hi
          clear hi hless
          go_wp2
          go_quiet (fail)
          rename Nat => nq1
          go_wp2
          go_quiet (fail)
          go_wp2
          have hownd : (((wr.drewN q).drewN nq1).drewN nq).ownsRow w.heap.size 3 1 (.slice (some ⟨g, 0, none⟩) m cap) m (ncells L) := hown
          have hd0 : (((wr.drewN q).drewN nq1).drewN nq).cell? ⟨b, off + k * 4, none⟩ = some (.int .i64 x0) := d0
          have hbd : Below w.heap.size w (((wr.drewN q).drewN nq1).drewN nq) := below_drewN (below_drewN (below_drewN hb _) _) _
          generalize ((wr.drewN q).drewN nq1).drewN nq = wd at hownd hd0 hbd ⊢
          have HB := Lib.hid hbd
          have HWB := Lib.hid hbd.size
          have hac : m ≤ cap := by omega
          have hbwd : b < wd.heap.size := Nat.lt_of_lt_of_le hbw hbd.size
          have hdv : wd.drew.cell? ⟨b, off + k * 4, none⟩ = some (.int .i64 x0) := hd0
          clear hbd
          refine Ord.wp_region_tree (fun w' => w'.cell? ⟨b, off + k * 4, none⟩ = some (.int .i64 x0)) (.take 1 (.take 2 (.take 3 (.take 5 (.take 6 (.take 7 (.take 8 (.take 9 (.two 0 (.two 4 (.alone 10 (.alone 11 (.take 12 .nil))) 10 (.alone 4 (.alone 11 (.take 12 .nil)))) 10 (.alone 0 (.alone 4 (.alone 11 (.take 12 .nil))))))))))))) (by kernel_rfl) (by kernel_rfl) (by kernel_rfl) hdv ?_
          generalize hV0 : wd.drew = V0
          have hBD : Below wd.heap.size wd V0 := by rw [← hV0]; exact (Below.refl _ _).drew
          clear hV0 hdv
          (refine Ord.ot_take (v := ?_) rfl (by rfl) (fun w' hS => ?_) ?_; rotate_left; (focus ((try dsimp only at hS); go_simp; first | done | with_reducible rfl)); simp only [Act.put, List.setIfInBounds_toArray, List.set_cons_zero, List.set_cons_succ])
          (refine Ord.ot_take (v := ?_) rfl (by rfl) (fun w' hS => ?_) ?_; rotate_left; (focus ((try dsimp only at hS); go_simp; first | done | with_reducible rfl)); simp only [Act.put, List.setIfInBounds_toArray, List.set_cons_zero, List.set_cons_succ])
          (refine Ord.ot_take (v := ?_) rfl (by rfl) (fun w' hS => ?_) ?_; rotate_left; (focus ((try dsimp only at hS); go_simp; first | done | with_reducible rfl)); simp only [Act.put, List.setIfInBounds_toArray, List.set_cons_zero, List.set_cons_succ])
          (refine Ord.ot_take (v := ?_) rfl (by rfl) (fun w' hS => ?_) ?_; rotate_left; (focus ((try dsimp only at hS); go_simp; first | done | with_reducible rfl)); simp only [Act.put, List.setIfInBounds_toArray, List.set_cons_zero, List.set_cons_succ])
          (refine Ord.ot_take (v := ?_) rfl (by rfl) (fun w' hS => ?_) ?_; rotate_left; (focus ((try dsimp only at hS); go_simp; first | done | with_reducible rfl)); simp only [Act.put, List.setIfInBounds_toArray, List.set_cons_zero, List.set_cons_succ])
          (refine Ord.ot_take (v := ?_) rfl (by rfl) (fun w' hS => ?_) ?_; rotate_left; (focus ((try dsimp only at hS); go_simp; first | done | with_reducible rfl)); simp only [Act.put, List.setIfInBounds_toArray, List.set_cons_zero, List.set_cons_succ])
          (refine Ord.ot_take (v := ?_) rfl (by rfl) (fun w' hS => ?_) ?_; rotate_left; (focus ((try dsimp only at hS); go_simp; first | done | with_reducible rfl)); simp only [Act.put, List.setIfInBounds_toArray, List.set_cons_zero, List.set_cons_succ])
          (refine Ord.ot_take (v := ?_) rfl (by rfl) (fun w' hS => ?_) ?_; rotate_left; (focus ((try dsimp only at hS); go_simp; first | done | with_reducible rfl)); simp only [Act.put, List.setIfInBounds_toArray, List.set_cons_zero, List.set_cons_succ])
          refine Ord.ot_two rfl rfl (fun K hK => ?_) (fun K hK => ?_)
          · go_simp
            have hb1 : Below wd.heap.size wd (V0.alloc (.cells #[] 3)) := hBD.alloc hBD.size _
            have hE1 : (V0.alloc (.cells #[] 3)).ownsRow wd.heap.size 3 1 (.slice (some ⟨V0.heap.size, 0, none⟩) 0 0) 0 [] := World.ownsRow_made V0 #[] 0 hBD.size (Nat.zero_le _) rfl
            obtain ⟨ge, hge⟩ : ∃ q, q = V0.heap.size := ⟨_, rfl⟩
            rw [← hge] at hE1
            refine hK.out _ _ ((Below.cell (p := ⟨b, off + k * 4, none⟩) hb1 hbwd).trans hd0) ?_
            clear hK K
            generalize V0.alloc (.cells #[] 3) = V1 at hb1 hE1 ⊢
            rw [← hge]
            clear hge
            (try simp only [Act.put, List.setIfInBounds_toArray, List.set_cons_zero, List.set_cons_succ])
            refine Ord.ot_two rfl rfl (fun K hK => ?_) (fun K hK => ?_)
            · have hsA := row_take (row_kept hownd hb1) m (by omega)
              refine App.step_append_fresh V1 rfl (.tmp 48) (.tmp 51) 37 rfl wd.heap.size 3 i0 _ 1 8 Try.underlying37 hi0 hz0 hz1 hz2 rfl (by omega) ge rfl hE1 (some ⟨g, 0, none⟩) m cap (ncells (L.take m)) rfl (by rw [ncells_len, List.length_take]; have := HN.out; omega) hsA (n_one _) (by simp only [maxLen]; omega) (by omega) hb1.size ?_
              intro g4 cap4 V2 hown4 hg4
              have hb2 : Below wd.heap.size wd V2 := hb1.grown hg4 hb1.size (fun q hq => by cases hq; exact (hE1.lt _ rfl).1)
              refine hK.out _ _ ((Below.cell (p := ⟨b, off + k * 4, none⟩) hb2 hbwd).trans hd0) ?_
              clear hK K
              (try simp only [Act.put, List.setIfInBounds_toArray, List.set_cons_zero, List.set_cons_succ])
              refine Ord.ot_alone rfl (fun K hK => ?_)
              go_simp
              have hb3 : Below wd.heap.size wd (V2.alloc (.cells #[.int .i64 x0] 3)) := hb2.alloc hb2.size _
              have hN3 : (V2.alloc (.cells #[.int .i64 x0] 3)).cell? ⟨V2.heap.size, 0, none⟩ = some (.int .i64 x0) := cell_of_row _ _ 0 _ _ _ (heap_alloc_new V2 _)
              have hL3 : V2.heap.size < (V2.alloc (.cells #[.int .i64 x0] 3)).heap.size := by simp
              have hR3 := hown4.alloc (.cells #[.int .i64 x0] 3)
              obtain ⟨gn, hgn⟩ : ∃ q, q = V2.heap.size := ⟨_, rfl⟩
              rw [← hgn] at hN3 hL3
              refine hK.out _ _ ((Below.cell (p := ⟨b, off + k * 4, none⟩) hb3 hbwd).trans hd0) ?_
              clear hK K
              generalize V2.alloc (.cells #[.int .i64 x0] 3) = V3 at hb3 hN3 hL3 hR3 ⊢
              rw [← hgn]
              clear hgn
              (try simp only [Act.put, List.setIfInBounds_toArray, List.set_cons_zero, List.set_cons_succ])
              refine Ord.ot_alone rfl (fun K hK => ?_)
              refine step_append_lies _ rfl (.tmp 52) (.tmp 58) 37 rfl wd.heap.size 3 i0 _ 1 8 Try.underlying37 hi0 hz0 hz1 hz2 rfl (by omega) (.slice (some ⟨g4, 0, none⟩) m cap4) m _ rfl hR3 ⟨gn, 0, none⟩ 1 1 [.int .i64 x0] rfl rfl (news_one hN3) (by simp [Value.oneCell']) (by omega) (by simp only [maxLen]; omega) (by omega) hb3.size V3.heap.size rfl ?_
              intro g9 cap9 V4 hown9 hg9 hat9 hlt9
              have hb4 : Below wd.heap.size wd V4 := hb3.grown hg9 hb3.size (fun q hq => (hR3.lt q hq).1)
              refine hK.out _ _ ((Below.cell (p := ⟨b, off + k * 4, none⟩) hb4 hbwd).trans hd0) ?_
              clear hK K
              (try simp only [Act.put, List.setIfInBounds_toArray, List.set_cons_zero, List.set_cons_succ])
              (refine Ord.ot_take (v := ?_) rfl (by rfl) (fun w' hS => ?_) ?_; rotate_left; (focus ((try dsimp only at hS); go_simp; first | done | with_reducible rfl)); simp only [Act.put, List.setIfInBounds_toArray, List.set_cons_zero, List.set_cons_succ])
              refine Ord.ot_nil ?_
              have HO := Lib.hid (row_kept hownd hb4)
              have HR := Lib.hid (And.intro hown9 hb4)
              clear hown9 hb4 hown4 hg4 hg9 hat9 hlt9
              by_cases hca : cap = m
              · go_wp2_with (at_builtin; refine wpList_append_own_at _ rfl (.tmp 60) (.tmp 63) 37 rfl wd.heap.size 3 i0 _ 1 8 Try.underlying37 hi0 hz0 hz1 hz2 rfl (by omega) (.slice (some ⟨g9, 0, none⟩) (m + 1) cap9) (m + 1) _ rfl HR.out.1 ⟨g, 0, none⟩ 0 0 [] rfl rfl (fun j u hu => by simp at hu) (fun u hu => by cases hu) (by simp only [maxLen]; omega) (by omega) HR.out.2.size ?_; intro v' w10 hown10 hg10 hnil10 hblk10)
                obtain ⟨g10, cap10, rfl, hgb, hglt⟩ := hown10.form (by omega)
                have hlen10 : (tagsL (l.take (k + 1))).length = m + 1 + 0 := by rw [HS.out, HI.out]; simp [HN.out]
                have hrow10 : w10.ownsRow w.heap.size 3 1 (.slice (some ⟨g10, 0, none⟩) (m + 1 + 0) cap10) (m + 1 + 0) (ncells (tagsL (l.take (k + 1)))) := by rw [HS.out, HI.out]; exact row_mono (by rw [List.take_of_length_le (Nat.le_of_eq HN.out)] at hown10; simpa [ncells] using hown10) HWB.out
                have hb10 : Below w.heap.size w w10 := (btr HB.out HR.out.2).grown hg10 (Nat.le_trans HWB.out HR.out.2.size) (fun j hj => Nat.le_trans HWB.out (HR.out.1.lt j hj).1)
                have HF := Lib.hid (And.intro hlen10 (And.intro hrow10 hb10))
                clear hown10 hg10 hnil10 hblk10 hgb hglt hlen10 hrow10 hb10
                go_roundw
                case rel => exact ⟨k + 1, g10, cap10, m + 1 + 0, by omega, by go_num, by omega, rfl, HF.out.1, HF.out.2.1, HF.out.2.2⟩
                case measure => simp [intOf]; omega
              · go_wp2_with (at_builtin; refine wpList_append_own_at _ rfl (.tmp 60) (.tmp 63) 37 rfl wd.heap.size 3 i0 _ 1 8 Try.underlying37 hi0 hz0 hz1 hz2 rfl (by omega) (.slice (some ⟨g9, 0, none⟩) (m + 1) cap9) (m + 1) _ rfl HR.out.1 ⟨g, m, none⟩ 0 (cap - m) [] rfl rfl (fun j u hu => by simp at hu) (fun u hu => by cases hu) (by simp only [maxLen]; omega) (by omega) HR.out.2.size ?_; intro v' w10 hown10 hg10 hnil10 hblk10)
                obtain ⟨g10, cap10, rfl, hgb, hglt⟩ := hown10.form (by omega)
                have hlen10 : (tagsL (l.take (k + 1))).length = m + 1 + 0 := by rw [HS.out, HI.out]; simp [HN.out]
                have hrow10 : w10.ownsRow w.heap.size 3 1 (.slice (some ⟨g10, 0, none⟩) (m + 1 + 0) cap10) (m + 1 + 0) (ncells (tagsL (l.take (k + 1)))) := by rw [HS.out, HI.out]; exact row_mono (by rw [List.take_of_length_le (Nat.le_of_eq HN.out)] at hown10; simpa [ncells] using hown10) HWB.out
                have hb10 : Below w.heap.size w w10 := (btr HB.out HR.out.2).grown hg10 (Nat.le_trans HWB.out HR.out.2.size) (fun j hj => Nat.le_trans HWB.out (HR.out.1.lt j hj).1)
                have HF := Lib.hid (And.intro hlen10 (And.intro hrow10 hb10))
                clear hown10 hg10 hnil10 hblk10 hgb hglt hlen10 hrow10 hb10
                go_roundw
                case rel => exact ⟨k + 1, g10, cap10, m + 1 + 0, by omega, by go_num, by omega, rfl, HF.out.1, HF.out.2.1, HF.out.2.2⟩
                case measure => simp [intOf]; omega
            · go_simp
              have hb2 : Below wd.heap.size wd (V1.alloc (.cells #[.int .i64 x0] 3)) := hb1.alloc hb1.size _
              have hN2 : (V1.alloc (.cells #[.int .i64 x0] 3)).cell? ⟨V1.heap.size, 0, none⟩ = some (.int .i64 x0) := cell_of_row _ _ 0 _ _ _ (heap_alloc_new V1 _)
              have hL2 : V1.heap.size < (V1.alloc (.cells #[.int .i64 x0] 3)).heap.size := by simp
              have hE2 := hE1.alloc (.cells #[.int .i64 x0] 3)
              have hne2 : V1.heap.size ≠ ge := Nat.ne_of_gt (hE1.lt _ rfl).2
              obtain ⟨gn, hgn⟩ : ∃ q, q = V1.heap.size := ⟨_, rfl⟩
              rw [← hgn] at hN2 hL2 hne2
              refine hK.out _ _ ((Below.cell (p := ⟨b, off + k * 4, none⟩) hb2 hbwd).trans hd0) ?_
              clear hK K
              generalize V1.alloc (.cells #[.int .i64 x0] 3) = V2 at hb2 hN2 hL2 hE2 ⊢
              rw [← hgn]
              clear hgn
              (try simp only [Act.put, List.setIfInBounds_toArray, List.set_cons_zero, List.set_cons_succ])
              refine Ord.ot_alone rfl (fun K hK => ?_)
              have hsA := row_take (row_kept hownd hb2) m (by omega)
              refine App.step_append_fresh V2 rfl (.tmp 48) (.tmp 51) 37 rfl wd.heap.size 3 i0 _ 1 8 Try.underlying37 hi0 hz0 hz1 hz2 rfl (by omega) ge rfl hE2 (some ⟨g, 0, none⟩) m cap (ncells (L.take m)) rfl (by rw [ncells_len, List.length_take]; have := HN.out; omega) hsA (n_one _) (by simp only [maxLen]; omega) (by omega) hb2.size ?_
              intro g4 cap4 V3 hown4 hg4
              have hb3 : Below wd.heap.size wd V3 := hb2.grown hg4 hb2.size (fun q hq => by cases hq; exact (hE2.lt _ rfl).1)
              have hN3 := (World.grownBy.cell_far hg4 ⟨gn, 0, none⟩ hL2 (by simpa using hne2)).trans hN2
              have hL3 : gn < V3.heap.size := Nat.lt_of_lt_of_le hL2 hg4.size
              refine hK.out _ _ ((Below.cell (p := ⟨b, off + k * 4, none⟩) hb3 hbwd).trans hd0) ?_
              clear hK K
              (try simp only [Act.put, List.setIfInBounds_toArray, List.set_cons_zero, List.set_cons_succ])
              refine Ord.ot_alone rfl (fun K hK => ?_)
              refine step_append_lies _ rfl (.tmp 52) (.tmp 58) 37 rfl wd.heap.size 3 i0 _ 1 8 Try.underlying37 hi0 hz0 hz1 hz2 rfl (by omega) (.slice (some ⟨g4, 0, none⟩) m cap4) m _ rfl hown4 ⟨gn, 0, none⟩ 1 1 [.int .i64 x0] rfl rfl (news_one hN3) (by simp [Value.oneCell']) (by omega) (by simp only [maxLen]; omega) (by omega) hb3.size V3.heap.size rfl ?_
              intro g9 cap9 V4 hown9 hg9 hat9 hlt9
              have hb4 : Below wd.heap.size wd V4 := hb3.grown hg9 hb3.size (fun q hq => (hown4.lt q hq).1)
              refine hK.out _ _ ((Below.cell (p := ⟨b, off + k * 4, none⟩) hb4 hbwd).trans hd0) ?_
              clear hK K
              (try simp only [Act.put, List.setIfInBounds_toArray, List.set_cons_zero, List.set_cons_succ])
              (refine Ord.ot_take (v := ?_) rfl (by rfl) (fun w' hS => ?_) ?_; rotate_left; (focus ((try dsimp only at hS); go_simp; first | done | with_reducible rfl)); simp only [Act.put, List.setIfInBounds_toArray, List.set_cons_zero, List.set_cons_succ])
              refine Ord.ot_nil ?_
              have HO := Lib.hid (row_kept hownd hb4)
              have HR := Lib.hid (And.intro hown9 hb4)
              clear hown9 hb4 hown4 hg4 hg9 hat9 hlt9
              by_cases hca : cap = m
              · go_wp2_with (at_builtin; refine wpList_append_own_at _ rfl (.tmp 60) (.tmp 63) 37 rfl wd.heap.size 3 i0 _ 1 8 Try.underlying37 hi0 hz0 hz1 hz2 rfl (by omega) (.slice (some ⟨g9, 0, none⟩) (m + 1) cap9) (m + 1) _ rfl HR.out.1 ⟨g, 0, none⟩ 0 0 [] rfl rfl (fun j u hu => by simp at hu) (fun u hu => by cases hu) (by simp only [maxLen]; omega) (by omega) HR.out.2.size ?_; intro v' w10 hown10 hg10 hnil10 hblk10)
                obtain ⟨g10, cap10, rfl, hgb, hglt⟩ := hown10.form (by omega)
                have hlen10 : (tagsL (l.take (k + 1))).length = m + 1 + 0 := by rw [HS.out, HI.out]; simp [HN.out]
                have hrow10 : w10.ownsRow w.heap.size 3 1 (.slice (some ⟨g10, 0, none⟩) (m + 1 + 0) cap10) (m + 1 + 0) (ncells (tagsL (l.take (k + 1)))) := by rw [HS.out, HI.out]; exact row_mono (by rw [List.take_of_length_le (Nat.le_of_eq HN.out)] at hown10; simpa [ncells] using hown10) HWB.out
                have hb10 : Below w.heap.size w w10 := (btr HB.out HR.out.2).grown hg10 (Nat.le_trans HWB.out HR.out.2.size) (fun j hj => Nat.le_trans HWB.out (HR.out.1.lt j hj).1)
                have HF := Lib.hid (And.intro hlen10 (And.intro hrow10 hb10))
                clear hown10 hg10 hnil10 hblk10 hgb hglt hlen10 hrow10 hb10
                go_roundw
                case rel => exact ⟨k + 1, g10, cap10, m + 1 + 0, by omega, by go_num, by omega, rfl, HF.out.1, HF.out.2.1, HF.out.2.2⟩
                case measure => simp [intOf]; omega
              · go_wp2_with (at_builtin; refine wpList_append_own_at _ rfl (.tmp 60) (.tmp 63) 37 rfl wd.heap.size 3 i0 _ 1 8 Try.underlying37 hi0 hz0 hz1 hz2 rfl (by omega) (.slice (some ⟨g9, 0, none⟩) (m + 1) cap9) (m + 1) _ rfl HR.out.1 ⟨g, m, none⟩ 0 (cap - m) [] rfl rfl (fun j u hu => by simp at hu) (fun u hu => by cases hu) (by simp only [maxLen]; omega) (by omega) HR.out.2.size ?_; intro v' w10 hown10 hg10 hnil10 hblk10)
                obtain ⟨g10, cap10, rfl, hgb, hglt⟩ := hown10.form (by omega)
                have hlen10 : (tagsL (l.take (k + 1))).length = m + 1 + 0 := by rw [HS.out, HI.out]; simp [HN.out]
                have hrow10 : w10.ownsRow w.heap.size 3 1 (.slice (some ⟨g10, 0, none⟩) (m + 1 + 0) cap10) (m + 1 + 0) (ncells (tagsL (l.take (k + 1)))) := by rw [HS.out, HI.out]; exact row_mono (by rw [List.take_of_length_le (Nat.le_of_eq HN.out)] at hown10; simpa [ncells] using hown10) HWB.out
                have hb10 : Below w.heap.size w w10 := (btr HB.out HR.out.2).grown hg10 (Nat.le_trans HWB.out HR.out.2.size) (fun j hj => Nat.le_trans HWB.out (HR.out.1.lt j hj).1)
                have HF := Lib.hid (And.intro hlen10 (And.intro hrow10 hb10))
                clear hown10 hg10 hnil10 hblk10 hgb hglt hlen10 hrow10 hb10
                go_roundw
                case rel => exact ⟨k + 1, g10, cap10, m + 1 + 0, by omega, by go_num, by omega, rfl, HF.out.1, HF.out.2.1, HF.out.2.2⟩
                case measure => simp [intOf]; omega
          · go_simp
            have hb1 : Below wd.heap.size wd (V0.alloc (.cells #[.int .i64 x0] 3)) := hBD.alloc hBD.size _
            have hN1 : (V0.alloc (.cells #[.int .i64 x0] 3)).cell? ⟨V0.heap.size, 0, none⟩ = some (.int .i64 x0) := cell_of_row _ _ 0 _ _ _ (heap_alloc_new V0 _)
            have hL1 : V0.heap.size < (V0.alloc (.cells #[.int .i64 x0] 3)).heap.size := by simp
            obtain ⟨gn, hgn⟩ : ∃ q, q = V0.heap.size := ⟨_, rfl⟩
            rw [← hgn] at hN1 hL1
            refine hK.out _ _ ((Below.cell (p := ⟨b, off + k * 4, none⟩) hb1 hbwd).trans hd0) ?_
            clear hK K
            generalize V0.alloc (.cells #[.int .i64 x0] 3) = V1 at hb1 hN1 hL1 ⊢
            rw [← hgn]
            clear hgn
            (try simp only [Act.put, List.setIfInBounds_toArray, List.set_cons_zero, List.set_cons_succ])
            refine Ord.ot_alone rfl (fun K hK => ?_)
            go_simp
            have hb2 : Below wd.heap.size wd (V1.alloc (.cells #[] 3)) := hb1.alloc hb1.size _
            have hE2 : (V1.alloc (.cells #[] 3)).ownsRow wd.heap.size 3 1 (.slice (some ⟨V1.heap.size, 0, none⟩) 0 0) 0 [] := World.ownsRow_made V1 #[] 0 hb1.size (Nat.zero_le _) rfl
            have hN2 := (World.cell?_alloc_lt V1 (.cells #[] 3) ⟨gn, 0, none⟩ (by simpa using hL1)).trans hN1
            have hL2 : gn < (V1.alloc (.cells #[] 3)).heap.size := by simp; omega
            have hne2 : gn ≠ V1.heap.size := by omega
            obtain ⟨ge, hge⟩ : ∃ q, q = V1.heap.size := ⟨_, rfl⟩
            rw [← hge] at hE2 hne2
            refine hK.out _ _ ((Below.cell (p := ⟨b, off + k * 4, none⟩) hb2 hbwd).trans hd0) ?_
            clear hK K
            generalize V1.alloc (.cells #[] 3) = V2 at hb2 hE2 hN2 hL2 ⊢
            rw [← hge]
            clear hge
            (try simp only [Act.put, List.setIfInBounds_toArray, List.set_cons_zero, List.set_cons_succ])
            refine Ord.ot_alone rfl (fun K hK => ?_)
            have hsA := row_take (row_kept hownd hb2) m (by omega)
            refine App.step_append_fresh V2 rfl (.tmp 48) (.tmp 51) 37 rfl wd.heap.size 3 i0 _ 1 8 Try.underlying37 hi0 hz0 hz1 hz2 rfl (by omega) ge rfl hE2 (some ⟨g, 0, none⟩) m cap (ncells (L.take m)) rfl (by rw [ncells_len, List.length_take]; have := HN.out; omega) hsA (n_one _) (by simp only [maxLen]; omega) (by omega) hb2.size ?_
            intro g4 cap4 V3 hown4 hg4
            have hb3 : Below wd.heap.size wd V3 := hb2.grown hg4 hb2.size (fun q hq => by cases hq; exact (hE2.lt _ rfl).1)
            have hN3 := (World.grownBy.cell_far hg4 ⟨gn, 0, none⟩ hL2 (by simpa using hne2)).trans hN2
            have hL3 : gn < V3.heap.size := Nat.lt_of_lt_of_le hL2 hg4.size
            refine hK.out _ _ ((Below.cell (p := ⟨b, off + k * 4, none⟩) hb3 hbwd).trans hd0) ?_
            clear hK K
            (try simp only [Act.put, List.setIfInBounds_toArray, List.set_cons_zero, List.set_cons_succ])
            refine Ord.ot_alone rfl (fun K hK => ?_)
            refine step_append_lies _ rfl (.tmp 52) (.tmp 58) 37 rfl wd.heap.size 3 i0 _ 1 8 Try.underlying37 hi0 hz0 hz1 hz2 rfl (by omega) (.slice (some ⟨g4, 0, none⟩) m cap4) m _ rfl hown4 ⟨gn, 0, none⟩ 1 1 [.int .i64 x0] rfl rfl (news_one hN3) (by simp [Value.oneCell']) (by omega) (by simp only [maxLen]; omega) (by omega) hb3.size V3.heap.size rfl ?_
            intro g9 cap9 V4 hown9 hg9 hat9 hlt9
            have hb4 : Below wd.heap.size wd V4 := hb3.grown hg9 hb3.size (fun q hq => (hown4.lt q hq).1)
            refine hK.out _ _ ((Below.cell (p := ⟨b, off + k * 4, none⟩) hb4 hbwd).trans hd0) ?_
            clear hK K
            (try simp only [Act.put, List.setIfInBounds_toArray, List.set_cons_zero, List.set_cons_succ])
            (refine Ord.ot_take (v := ?_) rfl (by rfl) (fun w' hS => ?_) ?_; rotate_left; (focus ((try dsimp only at hS); go_simp; first | done | with_reducible rfl)); simp only [Act.put, List.setIfInBounds_toArray, List.set_cons_zero, List.set_cons_succ])
            refine Ord.ot_nil ?_
            have HO := Lib.hid (row_kept hownd hb4)
            have HR := Lib.hid (And.intro hown9 hb4)
            clear hown9 hb4 hown4 hg4 hg9 hat9 hlt9
            by_cases hca : cap = m
            · go_wp2_with (at_builtin; refine wpList_append_own_at _ rfl (.tmp 60) (.tmp 63) 37 rfl wd.heap.size 3 i0 _ 1 8 Try.underlying37 hi0 hz0 hz1 hz2 rfl (by omega) (.slice (some ⟨g9, 0, none⟩) (m + 1) cap9) (m + 1) _ rfl HR.out.1 ⟨g, 0, none⟩ 0 0 [] rfl rfl (fun j u hu => by simp at hu) (fun u hu => by cases hu) (by simp only [maxLen]; omega) (by omega) HR.out.2.size ?_; intro v' w10 hown10 hg10 hnil10 hblk10)
              obtain ⟨g10, cap10, rfl, hgb, hglt⟩ := hown10.form (by omega)
              have hlen10 : (tagsL (l.take (k + 1))).length = m + 1 + 0 := by rw [HS.out, HI.out]; simp [HN.out]
              have hrow10 : w10.ownsRow w.heap.size 3 1 (.slice (some ⟨g10, 0, none⟩) (m + 1 + 0) cap10) (m + 1 + 0) (ncells (tagsL (l.take (k + 1)))) := by rw [HS.out, HI.out]; exact row_mono (by rw [List.take_of_length_le (Nat.le_of_eq HN.out)] at hown10; simpa [ncells] using hown10) HWB.out
              have hb10 : Below w.heap.size w w10 := (btr HB.out HR.out.2).grown hg10 (Nat.le_trans HWB.out HR.out.2.size) (fun j hj => Nat.le_trans HWB.out (HR.out.1.lt j hj).1)
              have HF := Lib.hid (And.intro hlen10 (And.intro hrow10 hb10))
              clear hown10 hg10 hnil10 hblk10 hgb hglt hlen10 hrow10 hb10
              go_roundw
              case rel => exact ⟨k + 1, g10, cap10, m + 1 + 0, by omega, by go_num, by omega, rfl, HF.out.1, HF.out.2.1, HF.out.2.2⟩
              case measure => simp [intOf]; omega
            · go_wp2_with (at_builtin; refine wpList_append_own_at _ rfl (.tmp 60) (.tmp 63) 37 rfl wd.heap.size 3 i0 _ 1 8 Try.underlying37 hi0 hz0 hz1 hz2 rfl (by omega) (.slice (some ⟨g9, 0, none⟩) (m + 1) cap9) (m + 1) _ rfl HR.out.1 ⟨g, m, none⟩ 0 (cap - m) [] rfl rfl (fun j u hu => by simp at hu) (fun u hu => by cases hu) (by simp only [maxLen]; omega) (by omega) HR.out.2.size ?_; intro v' w10 hown10 hg10 hnil10 hblk10)
              obtain ⟨g10, cap10, rfl, hgb, hglt⟩ := hown10.form (by omega)
              have hlen10 : (tagsL (l.take (k + 1))).length = m + 1 + 0 := by rw [HS.out, HI.out]; simp [HN.out]
              have hrow10 : w10.ownsRow w.heap.size 3 1 (.slice (some ⟨g10, 0, none⟩) (m + 1 + 0) cap10) (m + 1 + 0) (ncells (tagsL (l.take (k + 1)))) := by rw [HS.out, HI.out]; exact row_mono (by rw [List.take_of_length_le (Nat.le_of_eq HN.out)] at hown10; simpa [ncells] using hown10) HWB.out
              have hb10 : Below w.heap.size w w10 := (btr HB.out HR.out.2).grown hg10 (Nat.le_trans HWB.out HR.out.2.size) (fun j hj => Nat.le_trans HWB.out (HR.out.1.lt j hj).1)
              have HF := Lib.hid (And.intro hlen10 (And.intro hrow10 hb10))
              clear hown10 hg10 hnil10 hblk10 hgb hglt hlen10 hrow10 hb10
              go_roundw
              case rel => exact ⟨k + 1, g10, cap10, m + 1 + 0, by omega, by go_num, by omega, rfl, HF.out.1, HF.out.2.1, HF.out.2.2⟩
              case measure => simp [intOf]; omega
    · have hkn : k = n := by omega
      subst hkn
      rw [List.take_of_length_le (by have := HL.out; omega)] at hown hlen
      have HN := Lib.hid hlen
      clear hlen
      go_wp2
      go_ret
      exact ⟨_, _, _, rfl, HN.out, Owned.of_row hown, hb⟩
end Go.Proofs.Ytmfileflmpmkpaa.Ents
