/-
  Faults of a table: the project's and the given model's. The project's two sentinels are different pointers to cells of their own; no condition beyond a table's length and its numbers being of an int's range.
-/
import Derived.Test.YtilgkknmldlklaaDoorWalk
import Derived.Test.YtilgkknmldlklaaDoorWalkSpec
namespace Go.Proofs.YtilgkknmldlklaaDoor.Slots
set_option maxRecDepth 100000
open Go.ChangeShapes Go.WideShapes Go.ChangeAt Go.RowKit
open Go.Proofs.YtilgkknmldlklaaDoor.Base Go.Proofs.YtilgkknmldlklaaDoor.Mem Go.Proofs.YtilgkknmldlklaaDoor.Ints
set_option linter.unusedVariables false

theorem take_set1 {xs : List Value} {k : Nat} {l : List Int} {x : Int} (h : xs.take k = ncells (l.take k)) (hl : k < xs.length) (ht : l.take (k + 1) = l.take k ++ [x]) :
    (xs.set k (.int .i64 x)).take (k + 1) = ncells (l.take (k + 1)) := by
  rw [ht, ncells_append, ← h, List.take_succ_eq_append_getElem (by simpa using hl)]
  simp [ncells, List.take_set_of_le]
theorem row_one {w : World} {base g n c : Nat} {e : TypeId} {xs : List Value} (h : w.ownsRow base e 1 (.slice (some ⟨g, 0, none⟩) n c) n xs) {k : Nat} (hk : k < n) :
    (∃ u, w.cell? ⟨g, k, none⟩ = some u) ∧ w.frozen? ⟨g, k, none⟩ = false := by
  have hl := h.1
  refine ⟨⟨xs[k]'(by omega), ?_⟩, h.frozenAt _⟩
  rw [h.cellAt _ (by omega)]; exact List.getElem?_eq_getElem _
section
variable (A B : Option Addr) (n m c d : Nat) (need : Int) (l o : List Sl) (w : World) (a b : Addr)

set_option maxHeartbeats 2000000 in
theorem spec_faults (hn : n ≤ 1048576) (hm : m ≤ 1048576) (hl : l.length = n) (ho : o.length = m) (h1 : Lies w 0 w.heap.size A (scells l)) (h2 : Lies w 0 w.heap.size B (scells o)) :
    Calls Tryd.prog 17 #[.slice A n c, .slice B m d, .int .i64 need] w (UsesPost w (faultsW l o need)) := by
  obtain ⟨i0, hi0, hz0, hz1, hz2⟩ := info_parts Tryd.infoNum
  have hul : (faultsW l o need).length = n := by rw [faultsW_len]; exact hl
  have hua := faultsW_at l o need
  generalize faultsW l o need = u at hul hua ⊢
  have HUL := Lib.hid hul
  have HU := Lib.hid hua
  have HK := Lib.hid (show ∀ W, Below w.heap.size w W → ∀ page : Int, Calls Tryd.prog 10 #[.slice A n c, .slice B m d, .int .i64 page, .int .i64 need] W fun e w' => e = .returned (.tuple #[.int .i64 (walkW l o page need).1, .int .i64 (walkW l o page need).2]) ∧ Below W.heap.size W w' from
    fun W hb page => spec_walk A B n m c d page need l o W hn hm hl ho ((h1.below hb (Nat.le_refl _)).wide (Nat.le_refl _) hb.size) ((h2.below hb (Nat.le_refl _)).wide (Nat.le_refl _) hb.size))
  clear hul hua hl ho h1 h2
  go_enter Tryd.func17, Tryd.ntmps17
  go_wp2_with fail
  go_loopw [7, 8, 9, 10] (fun v i _ _ wr => ∃ (k g cap : Nat), k ≤ n ∧ i = .int .i64 k ∧ v = .slice (some ⟨g, 0, none⟩) k cap ∧ wr.ownsRow w.heap.size 3 1 (.slice (some ⟨g, 0, none⟩) k cap) k (ncells (u.take k)) ∧ Below w.heap.size w wr) (fun _ i _ _ _ => n - (intOf i).toNat)
  case atStart => exact ⟨0, w.heap.size, 0, Nat.zero_le _, rfl, rfl, World.ownsRow_made w #[] 0 (Nat.le_refl _) (Nat.zero_le _) rfl, (Below.refl _ _).alloc (Nat.le_refl _) _⟩
  case round =>
    obtain ⟨k, g, cap, hk, rfl, rfl, hown, hb⟩ := hrel
    have hbs := hb.size
    by_cases hlt : k < n
    · have hku : k < u.length := by have := HUL.out; omega
      have hj0 : (0 : Int) ≤ (k : Int) := Int.natCast_nonneg _
      have hj1 : (k : Int) < (n : Int) := by omega
      have hc := HK.out wr hb (k : Int)
      have hT : u.take (k + 1) = u.take k ++ [(walkW l o (k : Int) need).2] := by rw [List.take_succ_eq_append_getElem hku, HU.out k hku]
      generalize walkW l o (k : Int) need = s at hc hT
      obtain ⟨x, y⟩ := s
      have HT := Lib.hid hT
      have HC := Lib.hid hc
      clear hT hc
      go_wp2_with fail
      refine (HC.out).mono ?_
      rintro e w1 ⟨rfl, hb1⟩
      have hown1 := hown.kept (grown_of_below hb1 none) (.inr (by simp [Value.ownBlock]))
      have hbw1 : Below w.heap.size w w1 := hb.trans (hb1.mono hb.size)
      have hbs1 := hbw1.size
      clear hb1
      go_wp2_with (at_builtin; refine wpList_append_lies _ rfl _ _ 36 rfl w.heap.size 3 i0 _ 1 8 Tryd.underlying36 hi0 hz0 hz1 hz2 rfl (by omega) (.slice (some ⟨g, 0, none⟩) k cap) k _ rfl (hown1.alloc _) ⟨w1.heap.size, 0, none⟩ 1 1 [.int .i64 y] rfl rfl (World.news_of_block (heap_alloc_new w1 _)) (by simp [Value.oneCell']) (by omega) (by simp only [maxLen]; omega) (by omega) (by simp; omega) (w1.heap.size + 1) (by simp) ?_; intro g' cap' w2 hown2 hgrow hat hg2)
      have hown3 : w2.ownsRow w.heap.size 3 1 (.slice (some ⟨g', 0, none⟩) (k + 1) cap') (k + 1) (ncells (u.take (k + 1))) := by rw [HT.out]; simpa [ncells] using hown2
      have hbw2 : Below w.heap.size w w2 := (hbw1.alloc (by first | omega | (simp; omega)) _).grown hgrow (by first | omega | (simp; omega)) (fun j hj => (hown1.lt j hj).1)
      have HF := Lib.hid (And.intro hown3 hbw2)
      clear hown2 hgrow hat hg2 hown3 hbw2
      go_roundw
      case rel => exact ⟨k + 1, g', cap', by omega, by go_num, rfl, HF.out.1, HF.out.2⟩
      case measure => simp [intOf]; omega
    · obtain rfl : k = n := by omega
      rw [List.take_of_length_le (by have := HUL.out; omega)] at hown
      go_wp2_with fail
      go_ret
      exact ⟨_, _, _, rfl, HUL.out, Owned.of_row hown, hb⟩

set_option maxHeartbeats 2000000 in
theorem impl_faults (hn : n ≤ 1048576) (hm : m ≤ 1048576) (hl : l.length = n) (ho : o.length = m) (wl : wfL l) (wo : wfL o) (hneed : (Lit.int .i64 need).wf = true) (h1 : Lies w 0 w.heap.size A (scells l)) (h2 : Lies w 0 w.heap.size B (scells o)) (hs : Sent w a b) :
    Calls Tryd.prog 16 #[.slice A n c, .slice B m d, .int .i64 need] w (UsesPost w (faultsW l o need)) := by
  obtain ⟨i0, hi0, hz0, hz1, hz2⟩ := info_parts Tryd.infoNum
  have hul : (faultsW l o need).length = n := by rw [faultsW_len]; exact hl
  have hua := faultsW_at l o need
  generalize faultsW l o need = u at hul hua ⊢
  have HL := Lib.hid hul
  have HU := Lib.hid hua
  have HK := Lib.hid (show ∀ W, Below w.heap.size w W → ∀ page : Int, Calls Tryd.prog 9 #[.slice A n c, .slice B m d, .int .i64 page, .int .i64 need] W (WalkPost W (walkW l o page need)) from
    fun W hb page => impl_walk A B n m c d page need l o W a b hn hm hl ho wl wo hneed ((h1.below hb (Nat.le_refl _)).wide (Nat.le_refl _) hb.size) ((h2.below hb (Nat.le_refl _)).wide (Nat.le_refl _) hb.size) (hs.below hb))
  clear hul hua hl ho h1 h2 hs wl wo hneed
  obtain ⟨wm, hmk, hown, hgm⟩ := run_make_full w w.heap.size 36 3 i0 _ 1 Tryd.underlying36 hi0 hz0 hz1 .i64 .i64 n (by rw [hz2]; omega) (by simp only [maxLen]; omega) (Nat.le_refl _)
  have HO := Lib.hid (And.intro hown hgm)
  clear hown hgm
  go_enter Tryd.func16, Tryd.ntmps16
  go_wp2_with fail
  go_loopw [8, 14] (fun _ i wr => ∃ (k : Nat) (xs : List Value), k ≤ n ∧ i = .int .i64 k ∧ xs.take k = ncells (u.take k) ∧ wr.ownsRow w.heap.size 3 1 (.slice (some ⟨w.heap.size, 0, none⟩) n n) n xs ∧ Below w.heap.size w wr) (fun _ i _ => n - (intOf i).toNat)
  case atStart => exact ⟨0, _, Nat.zero_le _, rfl, by simp [ncells], HO.out.1, (Below.refl _ _).grown HO.out.2 (Nat.le_refl _) (fun _ h => by cases h)⟩
  case round =>
    obtain ⟨k, xs, hk, rfl, hxs, hown, hb⟩ := hrel
    have HX := Lib.hid hxs
    clear hxs
    by_cases hlt : k < n
    · have hkl : k < u.length := by have := HL.out; omega
      have hj0 : (0 : Int) ≤ (k : Int) := Int.natCast_nonneg _
      have hj1 : (k : Int) < (n : Int) := by omega
      have hc := HK.out wr hb (k : Int)
      have hT : u.take (k + 1) = u.take k ++ [(walkW l o (k : Int) need).2] := by rw [List.take_succ_eq_append_getElem hkl, HU.out k hkl]
      generalize walkW l o (k : Int) need = s at hc hT
      obtain ⟨x, y⟩ := s
      have HT := Lib.hid hT
      have HC := Lib.hid hc
      clear hT hc
      go_wp2_with fail
      refine (HC.out).mono ?_
      rintro e w1 ⟨rfl, hb1⟩
      have hown1 := hown.kept (grown_of_below hb1 none) (.inr (by simp [Value.ownBlock]))
      obtain ⟨⟨u1, e1⟩, f1⟩ := row_one hown1 hlt
      have hrow := (hown1.stored k (.int .i64 y)).1
      have hbw2 : Below w.heap.size w (w1.setCell ⟨w.heap.size, k, none⟩ (.int .i64 y)) := (hb.trans (hb1.mono hb.size)).setCell (p := ⟨w.heap.size, k, none⟩) (Nat.le_refl _) _
      have hts := take_set1 (x := y) HX.out (by have := hown1.1; omega) HT.out
      have HF := Lib.hid (And.intro hts (And.intro hrow hbw2))
      clear hts hrow hbw2 hb1
      go_wp2_with fail
      go_roundw
      case rel => exact ⟨k + 1, _, by omega, by go_num, HF.out.1, HF.out.2.1, HF.out.2.2⟩
      case measure => simp [intOf]; omega
    · obtain rfl : k = n := by omega
      have hx : xs = ncells u := by
        have h1 := HX.out
        have h2 := hown.1
        rw [List.take_of_length_le (by omega), List.take_of_length_le (by have := HL.out; omega)] at h1
        exact h1
      subst hx
      go_wp2_with fail
      go_ret
      exact ⟨_, _, _, rfl, HL.out, Owned.of_row hown, hb⟩
end
end Go.Proofs.YtilgkknmldlklaaDoor.Slots
