/-
  Page tables: UsesOf of the project and of the given model. No condition beyond a table's length.
-/
import Derived.Test.YtfgckkgakghenaaSlotMath
namespace Go.Proofs.Ytfgckkgakghenaa.Slots
set_option maxRecDepth 100000
open Go.ChangeShapes Go.WideShapes Go.ChangeAt Go.RowKit
open Go.Proofs.Ytfgckkgakghenaa.Base Go.Proofs.Ytfgckkgakghenaa.Mem Go.Proofs.Ytfgckkgakghenaa.Ints

theorem Try.infoNum : (Try.prog.info? 3).map (fun i => (i.zero, i.size, i.bytes)) = some (some (.int .i64 0), 1, 8) := by kernel_rfl

theorem heap_new2 (w : World) (o o' : Obj) : ((w.alloc o).alloc o').heap[w.heap.size + 1]? = some o' := by
  have := heap_alloc_new (w.alloc o) o'
  rwa [show (w.alloc o).heap.size = w.heap.size + 1 by simp] at this
def UsesPost (w : World) (u : List Int) (e : Ending) (w' : World) : Prop :=
  ∃ A n c, e = .returned (.slice A n c) ∧ u.length = n ∧ Owned w' w.heap.size w'.heap.size A (ncells u) ∧ Below w.heap.size w w'

theorem useS_snoc (l : List Sl) (x y page : Int) : useS (l ++ [(x, y)]) page = useS l page ++ if x = page then [(l.length : Int)] else [] := by
  unfold useS
  rw [List.length_append, List.length_singleton, List.range_succ, List.filter_append, List.map_append]
  congr 1
  · congr 1
    apply List.filter_congr
    intro i hi
    have hi' := List.mem_range.1 hi
    rw [List.getD_eq_getElem?_getD, List.getD_eq_getElem?_getD, List.getElem?_append_left hi']
  · by_cases h : x = page <;> simp [h]
theorem useS_le (l : List Sl) (page : Int) : (useS l page).length ≤ l.length := by
  unfold useS
  rw [List.length_map]
  exact Nat.le_trans (List.length_filter_le _ _) (by simp)

set_option maxHeartbeats 2000000 in
theorem spec_uses (A : Option Addr) (n c lo : Nat) (page : Int) (l : List Sl) (w : World) (hn : n ≤ 1048576) (hl : l.length = n) (h1 : Lies w lo w.heap.size A (scells l)) :
    Calls Try.prog 43 #[.slice A n c, .int .i64 page] w (UsesPost w (useS l page)) := by
  obtain ⟨i0, hi0, hz0, hz1, hz2⟩ := info_parts Try.infoNum
  have H1 := Lib.hid h1
  have HL := Lib.hid hl
  clear h1 hl
  go_enter Try.func43, Try.ntmps43
  go_wp2
  go_loopw [5, 6] (fun v i wr => ∃ (k g cap m : Nat), k ≤ n ∧ i = .int .i64 k ∧ m ≤ k ∧ v = .slice (some ⟨g, 0, none⟩) m cap ∧ (useS (l.take k) page).length = m ∧ wr.ownsRow w.heap.size 3 1 (.slice (some ⟨g, 0, none⟩) m cap) m (ncells (useS (l.take k) page)) ∧ Below w.heap.size w wr) (fun _ i _ => n - (intOf i).toNat)
  case atStart => exact ⟨0, w.heap.size, 0, 0, Nat.zero_le _, rfl, Nat.le_refl _, rfl, rfl, World.ownsRow_made w #[] 0 (Nat.le_refl _) (Nat.zero_le _) rfl, (Below.refl _ _).alloc (Nat.le_refl _) _⟩
  case round =>
    obtain ⟨k, g, cap, m, hk, rfl, hmk, rfl, hlen, hown, hb⟩ := hrel
    have HN := Lib.hid hlen
    clear hlen
    by_cases hlt : k < n
    · have hkl : k < l.length := by have := HL.out; omega
      obtain ⟨b, off, rfl, _, hbw, c1, c2⟩ := slot_at H1.out k hkl
      have d1 : wr.cell? ⟨b, off + k * 2, none⟩ = some (.int .i64 l[k].1) := (hb.cell hbw).trans c1
      have d2 : wr.cell? ⟨b, off + k * 2 + 1, none⟩ = some (.int .i64 l[k].2) := (hb.cell hbw).trans c2
      have hj0 : (0 : Int) ≤ (k : Int) := Int.natCast_nonneg _
      have hj1 : (k : Int) < (n : Int) := by omega
      have hs := useS_snoc (l.take k) l[k].1 l[k].2 page
      rw [show l.take k ++ [(l[k].1, l[k].2)] = l.take (k + 1) from (List.take_succ_eq_append_getElem hkl).symm, List.length_take, Nat.min_eq_left (by omega)] at hs
      have HS := Lib.hid hs
      clear hs c1 c2
      generalize l[k].1 = x at d1 HS
      generalize l[k].2 = y at d2 HS
      have hbs := hb.size
      by_cases hx : x = page
      · subst hx
        have hs := HS.out
        rw [if_pos rfl] at hs
        have HS := Lib.hid hs
        clear hs
        go_wp2_with (at_builtin; refine wpList_append_lies _ rfl _ _ 52 rfl w.heap.size 3 i0 _ 1 8 Try.underlying52 hi0 hz0 hz1 hz2 rfl (by omega) (.slice (some ⟨g, 0, none⟩) m cap) m _ rfl (hown.alloc _) ⟨wr.heap.size, 0, none⟩ 1 1 [.int .i64 (k : Int)] rfl rfl (World.news_of_block (heap_alloc_new wr _)) (by simp [Value.oneCell']) (by omega) (by simp only [maxLen]; omega) (by omega) (by simp; omega) (wr.heap.size + 1) (by simp) ?_; intro g' cap' w2 hown2 hgrow hat hg2)
        have hown3 : w2.ownsRow w.heap.size 3 1 (.slice (some ⟨g', 0, none⟩) (m + 1) cap') (m + 1) (ncells (useS (l.take (k + 1)) x)) := by rw [HS.out]; simpa [ncells] using hown2
        have hbw2 : Below w.heap.size w w2 := (hb.alloc (by first | omega | (simp; omega)) _).grown hgrow (by first | omega | (simp; omega)) (fun j hj => (hown.lt j hj).1)
        have hlen2 : (useS (l.take (k + 1)) x).length = m + 1 := by rw [HS.out]; simp [HN.out]
        have HF := Lib.hid (And.intro hown3 (And.intro hbw2 hlen2))
        clear hown2 hgrow hat hg2 hown3 hbw2 hlen2
        go_roundw
        case rel => exact ⟨k + 1, g', cap', m + 1, by omega, by go_num, by omega, rfl, HF.out.2.2, HF.out.1, HF.out.2.1⟩
        case measure => simp [intOf]; omega
      · have hs := HS.out
        rw [if_neg hx, List.append_nil] at hs
        have HS := Lib.hid hs
        have hx' : (x == page) = false := by simpa using hx
        have hbW := hb
        have hownW := hown
        clear hs hx
        go_wp2
        go_roundw
        case rel => exact ⟨k + 1, g, cap, m, by omega, by go_num, by omega, rfl, by rw [HS.out]; exact HN.out, by rw [HS.out]; exact hownW, hbW⟩
        case measure => simp [intOf]; omega
    · have hkn : k = n := by omega
      subst hkn
      rw [List.take_of_length_le (by have := HL.out; omega)] at hown
      have hlen2 := HN.out
      rw [List.take_of_length_le (by have := HL.out; omega)] at hlen2
      have HN := Lib.hid hlen2
      clear hlen2
      go_wp2
      go_ret
      exact ⟨_, _, _, rfl, HN.out, Owned.of_row hown, hb⟩

set_option maxHeartbeats 2000000 in
theorem impl_uses (A : Option Addr) (n c lo : Nat) (page : Int) (l : List Sl) (w : World) (hn : n ≤ 1048576) (hl : l.length = n) (h1 : Lies w lo w.heap.size A (scells l)) :
    Calls Try.prog 71 #[.slice A n c, .int .i64 page] w (UsesPost w (useS l page)) := by
  obtain ⟨i0, hi0, hz0, hz1, hz2⟩ := info_parts Try.infoNum
  have H1 := Lib.hid h1
  have HL := Lib.hid hl
  clear h1 hl
  go_enter Try.func71, Try.ntmps71
  go_wp2
  go_loopw [5, 6, 7, 11] (fun v _ _ i wr => ∃ (k g cap m : Nat), k ≤ n ∧ i = .int .i64 k ∧ m ≤ k ∧ v = .slice (some ⟨g, 0, none⟩) m cap ∧ (useS (l.take k) page).length = m ∧ wr.ownsRow w.heap.size 3 1 (.slice (some ⟨g, 0, none⟩) m cap) m (ncells (useS (l.take k) page)) ∧ Below w.heap.size w wr) (fun _ _ _ i _ => n - (intOf i).toNat)
  case atStart => exact ⟨0, w.heap.size, 0, 0, Nat.zero_le _, rfl, Nat.le_refl _, rfl, rfl, World.ownsRow_made w #[] 0 (Nat.le_refl _) (Nat.zero_le _) rfl, (Below.refl _ _).alloc (Nat.le_refl _) _⟩
  case round =>
    obtain ⟨k, g, cap, m, hk, rfl, hmk, rfl, hlen, hown, hb⟩ := hrel
    have HN := Lib.hid hlen
    clear hlen
    by_cases hlt : k < n
    · have hkl : k < l.length := by have := HL.out; omega
      obtain ⟨b, off, rfl, _, hbw, c1, c2⟩ := slot_at H1.out k hkl
      have d1 : wr.cell? ⟨b, off + k * 2, none⟩ = some (.int .i64 l[k].1) := (hb.cell hbw).trans c1
      have d2 : wr.cell? ⟨b, off + k * 2 + 1, none⟩ = some (.int .i64 l[k].2) := (hb.cell hbw).trans c2
      have hj0 : (0 : Int) ≤ (k : Int) := Int.natCast_nonneg _
      have hj1 : (k : Int) < (n : Int) := by omega
      have hs := useS_snoc (l.take k) l[k].1 l[k].2 page
      rw [show l.take k ++ [(l[k].1, l[k].2)] = l.take (k + 1) from (List.take_succ_eq_append_getElem hkl).symm, List.length_take, Nat.min_eq_left (by omega)] at hs
      have HS := Lib.hid hs
      clear hs c1 c2
      generalize l[k].1 = x at d1 HS
      generalize l[k].2 = y at d2 HS
      have hbs := hb.size
      by_cases hx : x = page
      · subst hx
        have hs := HS.out
        rw [if_pos rfl] at hs
        have HS := Lib.hid hs
        clear hs
        go_wp2_with (at_builtin; refine wpList_append_lies _ rfl _ _ 52 rfl w.heap.size 3 i0 _ 1 8 Try.underlying52 hi0 hz0 hz1 hz2 rfl (by omega) (.slice (some ⟨g, 0, none⟩) m cap) m _ rfl ((hown.alloc (.cells #[.int .i64 x, .int .i64 y] 36)).alloc _) ⟨(wr.heap.size + 1), 0, none⟩ 1 1 [.int .i64 (k : Int)] rfl rfl (World.news_of_block (heap_new2 wr _ _)) (by simp [Value.oneCell']) (by omega) (by simp only [maxLen]; omega) (by omega) (by simp; omega) (wr.heap.size + 1 + 1) (by simp) ?_; intro g' cap' w2 hown2 hgrow hat hg2)
        have hown3 : w2.ownsRow w.heap.size 3 1 (.slice (some ⟨g', 0, none⟩) (m + 1) cap') (m + 1) (ncells (useS (l.take (k + 1)) x)) := by rw [HS.out]; simpa [ncells] using hown2
        have hbw2 : Below w.heap.size w w2 := ((hb.alloc hb.size (.cells #[.int .i64 x, .int .i64 y] 36)).alloc (by first | omega | (simp; omega)) _).grown hgrow (by first | omega | (simp; omega)) (fun j hj => ((hown.alloc (.cells #[.int .i64 x, .int .i64 y] 36)).lt j hj).1)
        have hlen2 : (useS (l.take (k + 1)) x).length = m + 1 := by rw [HS.out]; simp [HN.out]
        have HF := Lib.hid (And.intro hown3 (And.intro hbw2 hlen2))
        clear hown2 hgrow hat hg2 hown3 hbw2 hlen2
        go_roundw
        case rel => exact ⟨k + 1, g', cap', m + 1, by omega, by go_num, by omega, rfl, HF.out.2.2, HF.out.1, HF.out.2.1⟩
        case measure => simp [intOf]; omega
      · have hs := HS.out
        rw [if_neg hx, List.append_nil] at hs
        have HS := Lib.hid hs
        have hx' : (x == page) = false := by simpa using hx
        have hbW := (hb.alloc hb.size (.cells #[.int .i64 x, .int .i64 y] 36))
        have hownW := (hown.alloc (.cells #[.int .i64 x, .int .i64 y] 36))
        clear hs hx
        go_wp2
        go_roundw
        case rel => exact ⟨k + 1, g, cap, m, by omega, by go_num, by omega, rfl, by rw [HS.out]; exact HN.out, by rw [HS.out]; exact hownW, hbW⟩
        case measure => simp [intOf]; omega
    · have hkn : k = n := by omega
      subst hkn
      rw [List.take_of_length_le (by have := HL.out; omega)] at hown
      have hlen2 := HN.out
      rw [List.take_of_length_le (by have := HL.out; omega)] at hlen2
      have HN := Lib.hid hlen2
      clear hlen2
      go_wp2
      go_ret
      exact ⟨_, _, _, rfl, HN.out, Owned.of_row hown, hb⟩
end Go.Proofs.Ytfgckkgakghenaa.Slots
