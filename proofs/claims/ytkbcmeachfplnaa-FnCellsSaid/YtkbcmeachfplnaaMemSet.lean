/-
  Memory: contracts of MemNew, PageAt, WithCell and WithPage (the project's and the given model's). No condition beyond a memory's size.
-/
import Derived.Test.YtkbcmeachfplnaaMemCopy
import Derived.Test.YtkbcmeachfplnaaBroughtSpec
namespace Go.Proofs.Ytkbcmeachfplnaa.Grid
open Go.ChangeShapes Go.WideShapes Go.ChangeAt Go.RowKit
open Go.Proofs.Ytkbcmeachfplnaa.Base Go.Proofs.Ytkbcmeachfplnaa.Mem Go.Proofs.Ytkbcmeachfplnaa.Ints
set_option linter.unusedVariables false

def zero4 : List Int := [0, 0, 0, 0]
theorem made4 : (madeCells (Value.int .i64 0).cells (4 * 1)).toList = ncells zero4 := by kernel_rfl
/-- 'make([]int, 4)' in any world. -/
theorem make4 (w : World) : ∃ wm, (Instr.makeSlice 32 (.int .i64 4) (.int .i64 4)).run Try.prog w = .ok (.slice (some ⟨w.heap.size, 0, none⟩) 4 4) wm ∧
    Owned wm w.heap.size wm.heap.size (some ⟨w.heap.size, 0, none⟩) (ncells zero4) ∧ Below w.heap.size w wm := by
  obtain ⟨i0, hi0, hz0, hz1, hz2⟩ := info_parts Try.infoInt
  obtain ⟨wm, hmk, hown, hgm⟩ := run_make_full (P := Try.prog) w w.heap.size 32 3 i0 _ 1 Try.underlying32 hi0 hz0 hz1 .i64 .i64 4 (by rw [hz2]; omega) (by simp only [maxLen]; omega) (Nat.le_refl _)
  rw [made4] at hown
  exact ⟨wm, hmk, Owned.of_row hown, (Below.refl _ _).grown hgm (Nat.le_refl _) (fun _ h => by cases h)⟩

def newN (a : Int) : Nat := (BroughtW.brought a 0 24).toNat
theorem newN_le (a : Int) : newN a ≤ 24 := by unfold newN BroughtW.brought; split <;> (try split) <;> omega
theorem newN_eq (a : Int) : BroughtW.brought a 0 24 = (newN a : Int) := by unfold newN BroughtW.brought; split <;> (try split) <;> omega
def zeros (n : Nat) : List (List Int) := List.replicate n zero4
theorem zeros_len (n : Nat) : (zeros n).length = n := by simp [zeros]
theorem zeros_take (n k : Nat) (h : k < n) : (zeros n).take (k + 1) = (zeros n).take k ++ [zero4] := by
  rw [List.take_succ_eq_append_getElem (by rw [zeros_len]; exact h)]
  simp [zeros]
theorem zeros_snoc (k : Nat) : zeros (k + 1) = zeros k ++ [zero4] := by simp [zeros, List.replicate_succ']

set_option maxHeartbeats 1000000 in
theorem impl_memNew (a : Int) (w : World) : Calls Try.prog 38 #[.int .i64 a] w (GPost w (zeros (newN a))) := by
  obtain ⟨i0, hi0, hz0, hz1, hz2⟩ := info_parts Try.infoPage
  have hB := fun V : World => BroughtW.impl_any a 0 24 V
  rw [newN_eq] at hB
  have hn := newN_le a
  generalize newN a = n at hB hn ⊢
  have HB := Lib.hid hB
  clear hB
  obtain ⟨wm, hmk, hown, hgm⟩ := run_make_full w w.heap.size 24 32 i0 _ 1 Try.underlying24 hi0 hz0 hz1 .i64 .i64 n (by rw [hz2]; omega) (by simp only [maxLen]; omega) (Nat.le_refl _)
  have HO := Lib.hid (Filled.start hown hgm)
  clear hown hgm
  go_enter Try.func38, Try.ntmps38
  go_wp2_with fail
  refine (HB.out _).mono ?_
  rintro e w' ⟨rfl, rfl⟩
  go_wp2_with fail
  go_loopw [4, 10] (fun _ i wr => ∃ (k : Nat) (xs : List Value) (gs : List Hd), k ≤ n ∧ i = .int .i64 k ∧ Filled 32 w wr n k xs ((zeros n).take k) gs) (fun _ i _ => n - (intOf i).toNat)
  case atStart => exact ⟨0, _, [], Nat.zero_le _, rfl, HO.out⟩
  case round =>
    obtain ⟨k, xs, gs, hk, rfl, hf⟩ := hrel
    have HX := Lib.hid hf
    have hb := hf.below
    clear hf
    by_cases hlt : k < n
    · have hq0 : (0 : Int) ≤ (k : Int) := Int.natCast_nonneg _
      have hq1 : (k : Int) < (n : Int) := by omega
      have HT := Lib.hid (zeros_take n k hlt)
      obtain ⟨w1, hm, ho1, hb1⟩ := make4 wr
      have hs' := HX.out.step (c := 4) hlt hb1 ho1
      rw [← HT.out] at hs'
      obtain ⟨⟨u1, e1⟩, f1⟩ := row_one (HX.out.row.kept (grown_of_below hb1 none) (.inr (by simp [Value.ownBlock]))) hlt
      have HF := Lib.hid hs'
      clear hs' ho1 hb1
      go_wp2_with fail
      go_roundw
      case rel => exact ⟨k + 1, _, _, by omega, by go_num, HF.out⟩
      case measure => simp [intOf]; omega
    · have hkn : k = n := by omega
      subst hkn
      have hx := HX.out
      rw [List.take_of_length_le (by rw [zeros_len]; omega)] at hx
      have HX := Lib.hid hx
      have HL := Lib.hid (zeros_len k)
      clear hx
      go_wp2
      go_ret
      exact ⟨_, _, _, _, rfl, HL.out, HX.out.og, HX.out.below⟩

set_option maxHeartbeats 2000000 in
theorem spec_memNew (a : Int) (w : World) : Calls Try.prog 39 #[.int .i64 a] w (GPost w (zeros (newN a))) := by
  obtain ⟨i1, hj0, hy0, hy1, hy2⟩ := info_parts Try.infoPage
  have hB := fun V : World => spec_brought a 0 24 V
  rw [newN_eq] at hB
  have hn := newN_le a
  generalize newN a = n at hB hn ⊢
  have HB := Lib.hid hB
  clear hB
  go_enter Try.func39, Try.ntmps39
  go_wp2_with fail
  refine (HB.out _).mono ?_
  rintro e w' ⟨rfl, hw⟩
  have HW0 := Lib.hid hw
  clear hw
  go_wp2_with fail
  go_loopw [3, 4] (fun v i wr => ∃ (k g cap : Nat) (gs : List Hd), k ≤ n ∧ i = .int .i64 ((n - k : Nat) : Int) ∧ v = .slice (some ⟨g, 0, none⟩) k cap ∧ Built 32 w wr g cap k (zeros k) gs) (fun _ i _ => (intOf i).toNat)
  case atStart => exact ⟨0, w.heap.size, 0, [], Nat.zero_le _, rfl, rfl, by rw [← HW0.out]; exact Built.start _ w⟩
  case round =>
    obtain ⟨k, g, cap, gs, hk, rfl, rfl, hf⟩ := hrel
    have HX := Lib.hid hf
    have hb := hf.below
    clear hf
    by_cases hlt : k < n
    · have hq0 : (0 : Int) < ((n - k : Nat) : Int) := by omega
      have hq1 : ((n - k : Nat) : Int) - 1 = ((n - (k + 1) : Nat) : Int) := by omega
      have hbs := hb.size
      obtain ⟨w1, hm, ho1, hb1⟩ := make4 wr
      have hrow := HX.out.row.kept (grown_of_below hb1 none) (.inr (by simp [Value.ownBlock]))
      have hbs1 := hb1.size
      have HF := Lib.hid (And.intro ho1 (And.intro hb1 (hrow.alloc (.cells #[.slice (some ⟨wr.heap.size, 0, none⟩) 4 4] 32))))
      have HQ := Lib.hid hq1
      clear ho1 hb1 hrow hq1
      go_wp2_with (at_builtin; refine wpList_append_lies _ rfl (.tmp 12) (.tmp 14) 24 rfl w.heap.size 32 i1 _ 1 24 Try.underlying24 hj0 hy0 hy1 hy2 rfl (by omega) (.slice (some ⟨g, 0, none⟩) k cap) k _ rfl HF.out.2.2 ⟨w1.heap.size, 0, none⟩ 1 1 [.slice (some ⟨wr.heap.size, 0, none⟩) 4 4] rfl rfl (World.news_of_block (heap_alloc_new w1 _)) (by simp [Value.oneCell']) (by omega) (by simp only [maxLen]; omega) (by omega) (by simp; omega) (w1.heap.size + 1) (by simp) ?_; intro g' cap' w2 hown2 hgrow hat hg2; have hst := HX.out.step (o := .cells #[.slice (some ⟨wr.heap.size, 0, none⟩) 4 4] 32) HF.out.2.1 HF.out.1 hown2 (by simpa [Value.ownBlock] using hgrow) (by simpa [Value.ownBlock] using hat); rw [← zeros_snoc] at hst; have HW := Lib.hid hst; clear hown2 hgrow hat hg2 hst)
      go_roundw
      case rel => exact ⟨k + 1, g', cap', _, by omega, by rw [HQ.out], rfl, HW.out⟩
      case measure => simp [intOf]; omega
    · have hkn : k = n := by omega
      subst hkn
      have HL := Lib.hid (zeros_len k)
      have hz : ((k - k : Nat) : Int) = 0 := by omega
      rw [hz]
      clear hz
      go_wp2
      go_ret
      exact ⟨_, _, _, _, rfl, HL.out, HX.out.og, HX.out.below⟩
end Go.Proofs.Ytkbcmeachfplnaa.Grid
