/-
  Memory: contracts of copyMem, l04Copy, MemNew and PageAt (the project's and the given model's). No condition beyond a memory's size.
-/
import Derived.Test.YtkbcmeachfplnaaMemMake
namespace Go.Proofs.Ytkbcmeachfplnaa.Grid
open Go.ChangeShapes Go.WideShapes Go.ChangeAt Go.RowKit
open Go.Proofs.Ytkbcmeachfplnaa.Base Go.Proofs.Ytkbcmeachfplnaa.Mem Go.Proofs.Ytkbcmeachfplnaa.Ints
set_option linter.unusedVariables false

set_option maxHeartbeats 1000000 in
theorem impl_copyMem (A : Option Addr) (n c lo : Nat) (M : List (List Int)) (hs : List Hd) (w : World) (hc : capG M) (hl : M.length = n) (h1 : RG w lo w.heap.size A M hs) :
    Calls Try.prog 53 #[.slice A n c] w (GPost w M) := by
  obtain ⟨i0, hi0, hz0, hz1, hz2⟩ := info_parts Try.infoPage
  have hn : n ≤ 1048576 := hl ▸ hc.len
  have HC := Lib.hid hc
  clear hc
  have H1 := Lib.hid h1
  have HL := Lib.hid hl
  clear h1 hl
  obtain ⟨wm, hmk, hown, hgm⟩ := run_make_full w w.heap.size 24 32 i0 _ 1 Try.underlying24 hi0 hz0 hz1 .i64 .i64 n (by rw [hz2]; omega) (by simp only [maxLen]; omega) (Nat.le_refl _)
  have HO := Lib.hid (Filled.start hown hgm)
  clear hown hgm
  go_enter Try.func53, Try.ntmps53
  go_wp2
  go_loopw [4, 5, 11] (fun _ _ i wr => ∃ (k : Nat) (xs : List Value) (gs : List Hd), k ≤ n ∧ i = .int .i64 k ∧ Filled 32 w wr n k xs (M.take k) gs) (fun _ _ i _ => n - (intOf i).toNat)
  case atStart => exact ⟨0, _, [], Nat.zero_le _, rfl, HO.out⟩
  case round =>
    obtain ⟨k, xs, gs, hk, rfl, hf⟩ := hrel
    have HX := Lib.hid hf
    have hb := hf.below
    clear hf
    by_cases hlt : k < n
    · have hkl : k < M.length := by have := HL.out; omega
      obtain ⟨b, off, B, c', rfl, _, hbw, c1, hB⟩ := H1.out.page k hkl
      have d1 : wr.cell? ⟨b, off + k, none⟩ = some (.slice B M[k].length c') := (hb.cell hbw).trans c1
      have hi0 : (0 : Int) ≤ (k : Int) := Int.natCast_nonneg _
      have hi1 : (k : Int) < (n : Int) := by omega
      have hK := impl_copyPage B M[k].length c' lo M[k] wr (HC.out.at_ hkl) rfl ((hB.below hb (Nat.le_refl _)).wide (Nat.le_refl _) hb.size)
      have HT : M.take (k + 1) = M.take k ++ [M[k]] := List.take_succ_eq_append_getElem hkl
      have HT := Lib.hid HT
      clear c1 hB
      generalize M[k] = r at d1 HT hK
      have HK := Lib.hid hK
      clear hK
      go_wp2_with fail
      refine (HK.out).mono ?_
      rintro e w1 ⟨A1, n1, c1, rfl, rfl, ho1, hb1⟩
      have hs' := HX.out.step (c := c1) hlt hb1 ho1
      rw [← HT.out] at hs'
      obtain ⟨⟨u1, e1⟩, f1⟩ := row_one (HX.out.row.kept (grown_of_below hb1 none) (.inr (by simp [Value.ownBlock]))) hlt
      have HF := Lib.hid hs'
      clear hs' ho1 hb1
      go_wp2_with fail
      go_roundw
      case rel => exact ⟨k + 1, _, _, by omega, by go_num, HF.out⟩
      case measure => simp [intOf]; omega
    · have hkn : k = n := by omega
      subst hkn
      have hx := HX.out
      rw [List.take_of_length_le (by have := HL.out; omega)] at hx
      have HX := Lib.hid hx
      clear hx
      go_wp2
      go_ret
      exact ⟨_, _, _, _, rfl, HL.out, HX.out.og, HX.out.below⟩

/-- A new row out of an append onto an empty slice of one's own, as what the next append takes. -/
theorem fresh_page {w w1 : World} {T : TypeId} {l : List Int} {g cap n : Nat} (hown : w1.ownsRow w.heap.size T 1 (.slice (some ⟨g, 0, none⟩) n cap) n (ncells l)) (hg : (w.alloc (.cells #[] T)).grownBy w1 (some w.heap.size)) :
    Owned w1 w.heap.size w1.heap.size (some ⟨g, 0, none⟩) (ncells l) ∧ Below w.heap.size w w1 :=
  ⟨Owned.of_row hown, ((Below.refl _ _).alloc (Nat.le_refl _) _).grown hg (by simp) (fun j hj => by cases hj; exact Nat.le_refl _)⟩
theorem src_alloc {w : World} {lo : Nat} {A : Option Addr} {cs : List Value} (h : Lies w lo w.heap.size A cs) (o : Obj) : ∀ j u, cs[j]? = some u → ∃ ad, A = some ad ∧ (w.alloc o).cell? (ad.add j) = some u :=
  Lies.src (h.below ((Below.refl w.heap.size w).alloc (Nat.le_refl _) o) (Nat.le_refl _))

set_option maxHeartbeats 2000000 in
theorem spec_copyMem (A : Option Addr) (n c lo : Nat) (M : List (List Int)) (hs : List Hd) (w : World) (hc : capG M) (hl : M.length = n) (h1 : RG w lo w.heap.size A M hs) :
    Calls Try.prog 58 #[.slice A n c] w (GPost w M) := by
  obtain ⟨i0, hi0, hz0, hz1, hz2⟩ := info_parts Try.infoInt
  obtain ⟨i1, hj0, hy0, hy1, hy2⟩ := info_parts Try.infoPage
  have hn : n ≤ 1048576 := hl ▸ hc.len
  have HC := Lib.hid hc
  clear hc
  have H1 := Lib.hid h1
  have HL := Lib.hid hl
  clear h1 hl
  go_enter Try.func58, Try.ntmps58
  go_wp2
  go_loopw [3, 4] (fun v i wr => ∃ (k g cap : Nat) (gs : List Hd), k ≤ n ∧ i = .int .i64 k ∧ v = .slice (some ⟨g, 0, none⟩) k cap ∧ Built 32 w wr g cap k (M.take k) gs) (fun _ i _ => n - (intOf i).toNat)
  case atStart => exact ⟨0, w.heap.size, 0, [], Nat.zero_le _, rfl, rfl, Built.start _ w⟩
  case round =>
    obtain ⟨k, g, cap, gs, hk, rfl, rfl, hf⟩ := hrel
    have HX := Lib.hid hf
    have hb := hf.below
    clear hf
    by_cases hlt : k < n
    · have hkl : k < M.length := by have := HL.out; omega
      obtain ⟨b, off, B, c', rfl, _, hbw, c1, hB⟩ := H1.out.page k hkl
      have d1 : wr.cell? ⟨b, off + k, none⟩ = some (.slice B M[k].length c') := (hb.cell hbw).trans c1
      have hq0 : (0 : Int) ≤ (k : Int) := Int.natCast_nonneg _
      have hq1 : (k : Int) < (n : Int) := by omega
      have HS := Lib.hid (src_alloc ((hB.below hb (Nat.le_refl _)).wide (Nat.le_refl _) hb.size) (.cells #[] 3))
      have hr := HC.out.at_ hkl
      have HT : M.take (k + 1) = M.take k ++ [M[k]] := List.take_succ_eq_append_getElem hkl
      have HT := Lib.hid HT
      have hbs := hb.size
      have hbW : b < wr.heap.size := by omega
      have hbN : b ≠ wr.heap.size := by omega
      clear c1 hB
      generalize M[k] = r at d1 HT HS hr
      have HE := Lib.hid (ncells_len r)
      have HM := Lib.hid (World.ownsRow_made (e := 3) (size := 1) wr #[] 0 (Nat.le_refl _) (Nat.zero_le _) rfl)
      go_wp2_with (first | (at_builtin; refine wpList_append_fresh _ rfl (.tmp 13) (.tmp 17) 32 rfl wr.heap.size 3 i0 _ 1 8 Try.underlying32 hi0 hz0 hz1 hz2 rfl (by omega) wr.heap.size rfl HM.out B r.length c' (ncells r) rfl (by rw [HE.out, Nat.mul_one]) HS.out (ncells_one r) (by simp only [maxLen]; omega) (by omega) (by simp) ?_; intro g1 cap1 w1 hown1 hg1; obtain ⟨ho1, hb1⟩ := fresh_page hown1 hg1; have hrow := HX.out.row.kept (grown_of_below hb1 none) (.inr (by simp [Value.ownBlock])); have hbs1 := hb1.size; have HF := Lib.hid (And.intro ho1 (And.intro hb1 (hrow.alloc (.cells #[.slice (some ⟨g1, 0, none⟩) r.length cap1] 32)))); clear hown1 hg1 ho1 hb1 hrow) | (at_builtin; refine wpList_append_lies _ rfl (.tmp 12) (.tmp 19) 24 rfl w.heap.size 32 i1 _ 1 24 Try.underlying24 hj0 hy0 hy1 hy2 rfl (by omega) (.slice (some ⟨g, 0, none⟩) k cap) k _ rfl HF.out.2.2 ⟨w1.heap.size, 0, none⟩ 1 1 [.slice (some ⟨g1, 0, none⟩) r.length cap1] rfl rfl (World.news_of_block (heap_alloc_new w1 _)) (by simp [Value.oneCell']) (by omega) (by simp only [maxLen]; omega) (by omega) (by simp; omega) (w1.heap.size + 1) (by simp) ?_; intro g' cap' w2 hown2 hgrow hat hg2; have hst := HX.out.step (o := .cells #[.slice (some ⟨g1, 0, none⟩) r.length cap1] 32) HF.out.2.1 HF.out.1 hown2 (by simpa [Value.ownBlock] using hgrow) (by simpa [Value.ownBlock] using hat); rw [← HT.out] at hst; have HW := Lib.hid hst; clear hown2 hgrow hat hg2 hst))
      go_roundw
      case rel => exact ⟨k + 1, g', cap', _, by omega, by go_num, rfl, HW.out⟩
      case measure => simp [intOf]; omega
    · have hkn : k = n := by omega
      subst hkn
      have hx := HX.out
      rw [List.take_of_length_le (by have := HL.out; omega)] at hx
      have HX := Lib.hid hx
      clear hx
      go_wp2
      go_ret
      exact ⟨_, _, _, _, rfl, HL.out, HX.out.og, HX.out.below⟩
end Go.Proofs.Ytkbcmeachfplnaa.Grid
