/-
  The buffer of entries: the project's TagsIn: its tags are sorted and compacted by the library. No condition beyond a buffer's length and its numbers being of an int's range.
-/
import Derived.Test.YtmfileflmpmkpaaEntFind
import Derived.Test.YtmfileflmpmkpaaEntTags
import Derived.Test.YtmfileflmpmkpaaGridH
import Derived.Test.YtmfileflmpmkpaaShelf
import Derived.Lib.OwnBridge
import Derived.Lib.RowBridge
import Derived.Sort.OwnSortedInts
namespace Go.Proofs.Ytmfileflmpmkpaa.Ents
set_option maxRecDepth 100000
open Go.ChangeShapes Go.WideShapes Go.ChangeAt Go.RowKit
open Go.Proofs.Ytmfileflmpmkpaa.Base Go.Proofs.Ytmfileflmpmkpaa.Mem Go.Proofs.Ytmfileflmpmkpaa.Data Go.Proofs.Ytmfileflmpmkpaa.Ints Go.Proofs.Ytmfileflmpmkpaa.Slots
set_option linter.unusedVariables false
set_option linter.unusedSimpArgs false

/-! ### What the library leaves of a sorted list -/
theorem compact_asc {zs : List Int} (h : zs.Pairwise (· ≤ ·)) : (Lib.compact zs).Pairwise (· < ·) := by
  unfold Lib.compact Lib.compactUpTo
  rw [List.pairwise_map, List.pairwise_filter]
  refine List.Pairwise.imp_of_mem (R := (· < ·)) (fun {i j} hi hj hij => ?_) List.pairwise_lt_range
  intro _ hk
  have hj' : j < zs.length := List.mem_range.1 hj
  have h1 : ∀ a b (ha : a < zs.length) (hb : b < zs.length), a ≤ b → zs[a] ≤ zs[b] := fun a b ha hb hab => by
    rcases Nat.lt_or_eq_of_le hab with h2 | h2
    · exact List.pairwise_iff_getElem.1 h a b ha hb h2
    · subst h2; exact Int.le_refl _
  have h2 := h1 i (j - 1) (by omega) (by omega) (by omega)
  have h3 := h1 (j - 1) j (by omega) hj' (by omega)
  have h4 : zs[j] ≠ zs[j - 1] := by
    simp only [Lib.keeps, decide_eq_true_eq] at hk
    rcases hk with hk | hk
    · omega
    · simpa [getElem!_pos, hj', show j - 1 < zs.length by omega] using hk
  have e1 : zs.toArray[i]! = zs[i] := by simp [getElem!_pos, show i < zs.length by omega]
  have e2 : zs.toArray[j]! = zs[j] := by simp [getElem!_pos, hj']
  rw [e1, e2]
  omega
theorem compact_mem (zs : List Int) (u : Int) : u ∈ Lib.compact zs ↔ u ∈ zs := by
  unfold Lib.compact Lib.compactUpTo
  rw [List.mem_map]
  constructor
  · rintro ⟨j, hj, rfl⟩
    have hj' : j < zs.length := List.mem_range.1 (List.mem_filter.1 hj).1
    rw [show zs.toArray[j]! = zs[j] by simp [getElem!_pos, hj']]
    exact List.getElem_mem hj'
  · intro hu
    obtain ⟨i, hi, rfl⟩ := List.mem_iff_getElem.1 hu
    have h : ∀ i, i < zs.length → ∃ j, j ≤ i ∧ Lib.keeps zs.toArray j = true ∧ zs.toArray[j]! = zs.toArray[i]! := by
      intro i
      induction i with
      | zero => intro hi; exact ⟨0, Nat.le_refl _, by simp [Lib.keeps], rfl⟩
      | succ i ih =>
        intro hi
        by_cases he : zs.toArray[i + 1]! = zs.toArray[i]!
        · obtain ⟨j, h1, h2, h3⟩ := ih (by omega)
          exact ⟨j, by omega, h2, by rw [h3, he]⟩
        · exact ⟨i + 1, Nat.le_refl _, Lib.keeps_pos (by simpa using he), rfl⟩
    obtain ⟨j, h1, h2, h3⟩ := h i hi
    exact ⟨j, List.mem_filter.2 ⟨List.mem_range.2 (by omega), h2⟩, by rw [h3]; simp [getElem!_pos, hi]⟩
theorem sort_asc (zs : List Int) : (zs.mergeSort fun x y => decide (x ≤ y)).Pairwise (· ≤ ·) := by
  have h := List.pairwise_mergeSort (le := fun x y : Int => decide (x ≤ y)) (by intro a b c; simp; omega) (by intro a b; simp; omega) zs
  exact h.imp (by intro a b hab; simpa using hab)
theorem tagsL_sorted (l : List ET) : tagsL l = Lib.compact ((l.map (·.1)).mergeSort fun x y => decide (x ≤ y)) := by
  refine asc_unique (asc_tagsL l) (compact_asc (sort_asc _)) fun u => ?_
  rw [mem_tagsL, compact_mem, List.mem_mergeSort, List.mem_map]

/-- THE END, outside the walk: from what the library's two functions leave. -/
theorem tags_left {w w1 : World} {g cap n nn q : Nat} {os : Array Obj} {zs : List Int} (hown : w1.ownsRow w.heap.size 3 1 (.slice (some ⟨g, 0, none⟩) n cap) n (zs.map (Value.int .i64))) (hbel : Below w.heap.size w w1) (hbg : w.heap.size ≤ g) (hlen : zs.length = n) :
    Slots.UsesPost w (Lib.compact (zs.mergeSort fun x y => decide (x ≤ y))) (.returned (.slice (some ⟨g, 0, none⟩) (Lib.compact (zs.mergeSort fun x y => decide (x ≤ y))).length cap))
      (Sort.putRow (Value.int .i64) (Sort.ahead (Sort.grow (Sort.putRow (Value.int .i64) (Sort.ahead w1 nn) g 0 (zs.mergeSort fun x y => decide (x ≤ y)).toArray) os) q) g 0 (Lib.compact (zs.mergeSort fun x y => decide (x ≤ y)) ++ List.replicate (n - (Lib.compact (zs.mergeSort fun x y => decide (x ≤ y))).length) 0).toArray) := by
  have hl2 : (zs.mergeSort fun x y => decide (x ≤ y)).length = zs.length := List.length_mergeSort zs
  have hle := Lib.compact_length_le (zs.mergeSort fun x y => decide (x ≤ y))
  subst hlen
  rcases hown.2 with ⟨h0, _⟩ | ⟨g', cap', cur, hv, hbase, hb, h1, h2, h3, h4⟩
  · cases h0
  cases hv
  have hs := ownsRow_sortedI (n := nn) (os := os) (ts := zs.mergeSort fun x y => decide (x ≤ y)) hl2 hbase hb h1 h2 h3
  have hc := Lib.ownsRow_putRow (q := q) (k := (Lib.compact (zs.mergeSort fun x y => decide (x ≤ y))).length) (ys := Lib.compact (zs.mergeSort fun x y => decide (x ≤ y)) ++ List.replicate (zs.length - (Lib.compact (zs.mergeSort fun x y => decide (x ≤ y))).length) 0) hs (by simp; omega) (by omega)
  rw [List.take_left] at hc
  exact ⟨_, _, cap, rfl, rfl, Owned.of_row hc, Lib.below_putRow (hbel.grown (grownBy_sortedI _) hbel.size (fun j hj => by cases hj; exact hbase)) hbg⟩
theorem raw_snoc {l : List ET} {k : Nat} (hk : k < l.length) : ncells ((l.take (k + 1)).map (·.1)) = ncells ((l.take k).map (·.1)) ++ [.int .i64 l[k].1] := by
  rw [List.take_succ_eq_append_getElem hk, List.map_append]
  simp [ncells]
theorem holds_row {w : World} {base n cap g : Nat} {e : TypeId} {zs : List Int} (h : w.ownsRow base e 1 (.slice (some ⟨g, 0, none⟩) n cap) n (zs.map (Value.int .i64))) : base ≤ g ∧ g < w.heap.size ∧ n ≤ cap ∧ zs.length = n ∧ Sort.Holds (Value.int .i64) w g 0 zs.toArray := by
  obtain ⟨g', cap', e1, h1, h2, h3, h4, h5, h6⟩ := Lib.holds_of_ownsRow h (by simp)
  cases e1
  exact ⟨h1, h2, h3, h5, h6⟩

set_option maxRecDepth 100000 in
set_option maxHeartbeats 8000000 in
theorem impl_tagsE (A : Option Addr) (n c : Nat) (l : List ET) (w : World) (hn : n ≤ 1048576) (hl : l.length = n) (h1 : Lies w 0 w.heap.size A (ecells l)) :
    Calls Try.prog 24 #[.slice A n c] w (Slots.UsesPost w (tagsL l)) := by
  obtain ⟨i0, hi0, hz0, hz1, hz2⟩ := info_parts Try.infoNum
  rw [tagsL_sorted]
  have H1 := Lib.hid h1
  have HL := Lib.hid hl
  clear h1 hl
  obtain ⟨wm, hmk, hown, hgm⟩ := run_make_full w w.heap.size 37 3 i0 _ 1 Try.underlying37 hi0 hz0 hz1 .i64 .i64 n (by rw [hz2]; omega) (by simp only [maxLen]; omega) (Nat.le_refl _)
  have HO := Lib.hid (And.intro hown hgm)
  clear hown hgm
  go_enter Try.func24, Try.ntmps24
  go_wp2
  go_loopw [11] (fun i wr => ∃ (k : Nat) (xs : List Value), k ≤ n ∧ i = .int .i64 k ∧ xs.take k = ncells ((l.take k).map (·.1)) ∧ wr.ownsRow w.heap.size 3 1 (.slice (some ⟨w.heap.size, 0, none⟩) n n) n xs ∧ Below w.heap.size w wr) (fun i _ => n - (intOf i).toNat)
  case atStart => exact ⟨0, _, Nat.zero_le _, rfl, by simp [ncells], HO.out.1, (Below.refl _ _).grown HO.out.2 (Nat.le_refl _) (fun _ h => by cases h)⟩
  case round =>
    obtain ⟨k, xs, hk, rfl, hxs, hown, hb⟩ := hrel
    have HX := Lib.hid hxs
    clear hxs
    by_cases hlt : k < n
    · have hkl : k < l.length := by have := HL.out; omega
      obtain ⟨b, off, rfl, _, hbw, c0, c1, c2, c3⟩ := e_at H1.out k hkl
      have d0 := (hb.cell (p := ⟨b, off + k * 4, none⟩) hbw).trans c0
      have d1 := (hb.cell (p := ⟨b, off + k * 4 + 1, none⟩) hbw).trans c1
      have d2 := (hb.cell (p := ⟨b, off + k * 4 + 2, none⟩) hbw).trans c2
      have d3 := (hb.cell (p := ⟨b, off + k * 4 + 3, none⟩) hbw).trans c3
      have hi0 : (0 : Int) ≤ (k : Int) := Int.natCast_nonneg _
      have hi1 : (k : Int) < (n : Int) := by omega
      have hT := raw_snoc hkl
      clear c0 c1 c2 c3
      obtain ⟨⟨x0, x1, x2, x3⟩, hxy⟩ : ∃ s, s = l[k] := ⟨_, rfl⟩
      rw [← hxy] at d0 d1 d2 d3 hT
      dsimp only at d0 d1 d2 d3 hT
      clear hxy
      have HT := Lib.hid hT
      clear hT
      have hsz := hb.size
      have hown1 := hown.alloc (.cells #[.int .i64 x0, .int .i64 x1, .int .i64 x2, .int .i64 x3] 26)
      obtain ⟨t1, hb1⟩ := four_made hb (x0, x1, x2, x3) 26
      obtain ⟨⟨u1, e1⟩, f1⟩ := Grid.row_one hown1 hlt
      have hrow := (hown1.stored k (.int .i64 x0)).1
      have hbw2 : Below w.heap.size w ((wr.alloc (.cells #[.int .i64 x0, .int .i64 x1, .int .i64 x2, .int .i64 x3] 26)).setCell ⟨w.heap.size, k, none⟩ (.int .i64 x0)) := hb1.setCell (p := ⟨w.heap.size, k, none⟩) (Nat.le_refl _) _
      have hts : (xs.set k (.int .i64 x0)).take (k + 1) = ncells ((l.take (k + 1)).map (·.1)) := (Grid.take_set1 HX.out (by have := hown.1; omega)).trans HT.out.symm
      have HF := Lib.hid (And.intro hrow (And.intro hbw2 hts))
      clear hrow hbw2 hts t1 hb1
      go_wp2
      go_roundw
      case rel => exact ⟨k + 1, _, by omega, by go_num, HF.out.2.2, HF.out.1, HF.out.2.1⟩
      case measure => simp [intOf]; omega
    · have hkn : k = n := by omega
      subst hkn
      have hx : xs = (l.map (·.1)).map (Value.int .i64) := by
        have h1 := HX.out
        have h2 := hown.1
        rw [List.take_of_length_le (by omega), List.take_of_length_le (by have := HL.out; omega)] at h1
        exact h1
      rw [hx] at hown
      have hz : (l.map (·.1)).length = k := by rw [List.length_map]; exact HL.out
      clear hx HX
      obtain ⟨zs, hzs⟩ : ∃ zs, zs = l.map (·.1) := ⟨_, rfl⟩
      rw [← hzs] at hown hz
      have HZ := Lib.hid hzs
      clear hzs
      subst hz
      obtain ⟨hbg, hgl, hncap, hlen, hH⟩ := holds_row hown
      have hl2 : (zs.mergeSort fun x y => decide (x ≤ y)).length = zs.length := List.length_mergeSort zs
      have hsort := Lib.hid (Try.slices_Sort_int w.heap.size 0 zs.length zs wr hH hgl (by omega))
      have HR := Lib.hid (And.intro hown (And.intro hb (And.intro hbg hH)))
      clear hown hb hH
      go_wp2_with fail
      refine hsort.out.mono ?_
      rintro e w2 ⟨rfl, nn, os, rfl⟩
      have hH2 : Sort.Holds (Value.int .i64) (Sort.grow (Sort.putRow (Value.int .i64) (Sort.ahead wr nn) w.heap.size 0 (zs.mergeSort fun x y => decide (x ≤ y)).toArray) os) w.heap.size 0 (zs.mergeSort fun x y => decide (x ≤ y)).toArray :=
        Sort.holds_grow (Value.int .i64) _ os w.heap.size 0 _ (by simpa [Sort.putRow, Sort.mapBlock, Sort.ahead] using hgl) (Sort.holds_putRow (Value.int .i64) _ w.heap.size 0 _ _ (Sort.holds_ahead (Value.int .i64) wr nn w.heap.size 0 _ HR.out.2.2.2) (by simp))
      have hcomp := Try.slices_Compact_int w.heap.size 0 zs.length (zs.mergeSort fun x y => decide (x ≤ y)) _ hH2 (by omega) (by omega)
      rw [hl2] at hcomp
      have HC := Lib.hid hcomp
      clear hH2 hcomp hsort
      generalize hV : Sort.grow (Sort.putRow (Value.int .i64) (Sort.ahead wr nn) w.heap.size 0 (zs.mergeSort fun x y => decide (x ≤ y)).toArray) os = V at HC ⊢
      have HV := Lib.hid hV
      clear hV
      go_wp2_with fail
      refine HC.out.mono ?_
      rintro e w3 ⟨rfl, q, rfl⟩
      go_wp2_with fail
      go_ret
      rw [← HV.out, ← HZ.out]
      exact tags_left HR.out.1 HR.out.2.1 (Nat.le_refl _) rfl
end Go.Proofs.Ytmfileflmpmkpaa.Ents
