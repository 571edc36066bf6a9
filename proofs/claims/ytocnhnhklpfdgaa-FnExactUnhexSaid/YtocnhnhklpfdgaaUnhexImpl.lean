/-
  The project's Unhex, called at any string: what it returns; it changes no memory that was there. No condition.
-/
import Derived.Test.YtocnhnhklpfdgaaUnhexMath
import Derived.Test.YtocnhnhklpfdgaaShelfIdx
namespace Go.Proofs.Ytocnhnhklpfdgaa.UnhexW
open Go.ChangeShapes Go.WideShapes Go.ChangeAt Go.RowKit
open Go.Proofs.Ytocnhnhklpfdgaa.Base

theorem index_any (b : UInt8) (w : World) :
    Calls Try.prog 20 #[.string digits, .int .u8 b.toNat] w fun e w' => e = .returned (.int .i64 (val b)) ∧ w = w' := by
  have h := Shelf.index_byte digits (b.toNat : Int) w
  rw [idx_val b] at h
  exact h.mono fun _ _ ⟨he, hw⟩ => ⟨he, hw.symm⟩

theorem impl_long (s : ByteArray) (w : World) (hs : s.size ≤ 9223372036854775807) (h : 40000 < s.size ∨ s.size % 2 ≠ 0) :
    Calls Try.prog 10 #[.string s] w fun e w' => e = .returned (answer s) ∧ Below w.heap.size w w' := by
  rw [answer_long s (by omega)]
  by_cases h1 : s.size % 2 = 0
  · have h2 : (s.size : Int) % 2 = 0 := by omega
    have h3 : 40000 < s.size := by omega
    clear h h1
    go_enter Try.func10, Try.ntmps10
    go_wp2
    go_ret2
    exact ⟨rfl, Below.refl _ _⟩
  · have h2 : (s.size : Int) % 2 = 1 := by omega
    clear h h1
    go_enter Try.func10, Try.ntmps10
    go_wp2
    go_ret2
    exact ⟨rfl, Below.refl _ _⟩

set_option maxHeartbeats 1000000 in
theorem impl_short (s : ByteArray) (w : World) (hs : s.size ≤ 40000) (he : s.size % 2 = 0) :
    Calls Try.prog 10 #[.string s] w fun e w' => e = .returned (answer s) ∧ Below w.heap.size w w' := by
  obtain ⟨i0, hi0, hz0, hz1, hz2⟩ := info_parts Try.info5
  have HE := Lib.hid he
  have he2 : (s.size : Int) % 2 = 0 := by omega
  clear he
  go_enter Try.func10, Try.ntmps10
  go_wp2_with (at_make; refine wpList_make_own _ rfl _ _ 32 rfl w.heap.size 5 i0 _ 1 Try.underlying32 hi0 hz0 hz1 _ _ _ (s.size / 2) rfl rfl (by omega) (by rw [hz2]; omega) (by simp only [maxLen]; omega) (Nat.le_refl _) ?_; intro w0 hown0 hgrow0)
  clear he2
  go_loopw [4, 5] (fun v i wr => ∃ k j : Nat, 2 * k ≤ j ∧ j ≤ 2 * k ∧ j ≤ s.size ∧ i = .int .i64 j ∧ (∀ t, t < k → 0 ≤ val (byteAt s (2 * t)) ∧ 0 ≤ val (byteAt s (2 * t + 1))) ∧ wr.ownsRow w.heap.size 5 1 v k (bcells (outTo s k)) ∧ Below w.heap.size w wr) (fun _ i _ => s.size - (intOf i).toNat)
  case atStart => exact ⟨0, 0, Nat.le_refl _, Nat.le_refl _, Nat.zero_le _, rfl, fun t ht => by omega, hown0, (Below.refl _ _).grown hgrow0 (Nat.le_refl _) (fun _ h => by cases h)⟩
  case round =>
    obtain ⟨k, j, hk1, hk2, hj, rfl, hgood, hown, hb⟩ := hrel
    have HG := Lib.hid hgood
    clear hgood
    by_cases hlt : j < s.size
    · have hlt2 : j + 1 < s.size := by have := HE.out; omega
      have hi0' : (0 : Int) ≤ (j : Int) := Int.natCast_nonneg _
      have hi1 : (j : Int) < (s.size : Int) := by omega
      have b1 := val_bd s[j]
      have b2 := val_bd s[j + 1]
      have eb1 := byteAt_eq s j hlt
      have eb2 := byteAt_eq s (j + 1) hlt2
      obtain rfl : j = 2 * k := by omega
      have v1 := Lib.hid eb1
      have v2 := Lib.hid eb2
      clear eb1 eb2
      by_cases hv1 : val s[2 * k] < 0
      · go_wp2_with (go_at_call 20; refine (index_any _ _).mono ?_; rintro e w' ⟨rfl, rfl⟩)
        go_ret2
        exact ⟨by rw [answer_bad s k hlt HE.out (by rw [← v1.out]; exact .inl hv1)]; rfl, hb⟩
      · by_cases hv2 : val s[2 * k + 1] < 0
        · go_wp2_with (go_at_call 20; refine (index_any _ _).mono ?_; rintro e w' ⟨rfl, rfl⟩)
          go_ret2
          exact ⟨by rw [answer_bad s k hlt HE.out (by rw [← v2.out]; exact .inr hv2)]; rfl, hb⟩
        · have hv1' : 0 ≤ val s[2 * k] := by omega
          have hv2' : 0 ≤ val s[2 * k + 1] := by omega
          have hz2' := hb.size
          go_wp2_with (first
            | (go_at_call 20; refine (index_any _ _).mono ?_; rintro e w' ⟨rfl, rfl⟩)
            | (at_builtin; refine wpList_append_lies _ rfl _ _ 32 rfl w.heap.size 5 i0 _ 1 1 Try.underlying32 hi0 hz0 hz1 hz2 rfl (by omega) u4 k _ rfl (hown.alloc _) ⟨wr.heap.size, 0, none⟩ 1 1 [.int .u8 (16 * val s[2 * k] + val s[2 * k + 1])] rfl rfl (World.news_of_block (heap_alloc_new wr _)) (by simp [Value.oneCell']) (by omega) (by simp only [maxLen]; omega) (by omega) (by simp; omega) (wr.heap.size + 1) (by simp) ?_; intro g cap w1 hown1 hgrow hat hg1))
          have hbw : Below w.heap.size w w1 := (hb.alloc hz2' _).grown hgrow (by simp; omega) (fun j hj => (hown.lt j hj).1)
          have hrow : w1.ownsRow w.heap.size 5 1 (.slice (some ⟨g, 0, none⟩) (k + 1) cap) (k + 1) (bcells (outTo s (k + 1))) := by
            rw [outTo_succ, bcells_append, pair_cell s k (by rw [← v1.out]; exact hv1') (by rw [← v2.out]; exact hv2'), ← v1.out, ← v2.out]; exact hown1
          have hgd : ∀ t, t < k + 1 → 0 ≤ val (byteAt s (2 * t)) ∧ 0 ≤ val (byteAt s (2 * t + 1)) := fun t ht => by
            by_cases htk : t = k
            · subst htk; rw [← v1.out, ← v2.out]; exact ⟨hv1', hv2'⟩
            · exact HG.out t (by omega)
          go_roundw
          case rel => exact ⟨k + 1, 2 * k + 2, by omega, by omega, by omega, by go_num, hgd, hrow, hbw⟩
          case measure => simp [intOf]; omega
    · have hcv := convert_own (src := 32) (dst := 9) Try.underlying32 Try.underlying5 Try.underlying9 hown
      have hk3 : s.size / 2 = k := by omega
      have ha := answer_good s hs HE.out (fun t ht => HG.out t (by omega))
      rw [hk3] at ha
      have HA := Lib.hid ha
      clear ha hk3
      go_wp2
      go_ret2
      exact ⟨by rw [HA.out]; rfl, hb⟩
end Go.Proofs.Ytocnhnhklpfdgaa.UnhexW
