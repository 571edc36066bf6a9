/-
  The given model's Unhex and the project's Unhex, each called at any string: both return the same text and the same bool, and change no memory that was there. No condition.
-/
import Derived.Test.YtocnhnhklpfdgaaBase
import Derived.Test.YtocnhnhklpfdgaaShelfIdx
import Derived.IntWalk
namespace Go.Proofs.Ytocnhnhklpfdgaa.fnExactUnhex
open Go.ChangeShapes Go.WideShapes Go.ChangeAt Go.RowKit
open Go.Proofs.Ytocnhnhklpfdgaa.Base

theorem Try.info5 : (Try.prog.info? 5).map (fun i => (i.zero, i.size, i.bytes)) = some (some (.int .u8 0), 1, 1) := by kernel_rfl

/-- The value of a digit, -1 if it is none. -/
def val (b : UInt8) : Int := if 48 ≤ b.toNat ∧ b.toNat ≤ 57 then b.toNat - 48 else if 97 ≤ b.toNat ∧ b.toNat ≤ 102 then b.toNat - 87 else -1
theorem val_bd (b : UInt8) : -1 ≤ val b ∧ val b ≤ 15 := by
  unfold val; repeat' split
  all_goals omega

def digits : ByteArray := { data := #[48, 49, 50, 51, 52, 53, 54, 55, 56, 57, 97, 98, 99, 100, 101, 102] }
theorem idx_fin : ∀ n : Fin 256, Lib.indexByte digits.data.toList (UInt8.ofNat n.val) = val (UInt8.ofNat n.val) := by decide +kernel
theorem idx_val (b : UInt8) : Lib.indexByte digits.data.toList ((b.toNat : Int).toNat.toUInt8) = val b := by
  have h := idx_fin ⟨b.toNat, b.toNat_lt⟩
  simpa using h

theorem value_any (b : UInt8) (w : World) :
    Calls Try.prog 19 #[.int .u8 b.toNat] w fun e w' => e = .returned (.int .i64 (val b)) ∧ w = w' := by
  have hb := b.toNat_lt
  unfold val
  generalize b.toNat = n at *
  by_cases h1 : 48 ≤ n
  · by_cases h2 : n ≤ 57
    · rw [if_pos ⟨h1, h2⟩]
      go_enter Try.func19, Try.ntmps19
      go_wp2
      go_ret
      exact ⟨rfl, rfl⟩
    · rw [if_neg (by omega)]
      by_cases h3 : 97 ≤ n
      · by_cases h4 : n ≤ 102
        · rw [if_pos ⟨h3, h4⟩]
          go_enter Try.func19, Try.ntmps19
          go_wp2
          go_ret
          exact ⟨ret_int (by omega), rfl⟩
        · rw [if_neg (by omega)]
          go_enter Try.func19, Try.ntmps19
          go_wp2
          go_ret
          exact ⟨rfl, rfl⟩
      · rw [if_neg (by omega)]
        go_enter Try.func19, Try.ntmps19
        go_wp2
        go_ret
        exact ⟨rfl, rfl⟩
  · rw [if_neg (by omega), if_neg (by omega)]
    have h3 : n < 97 := by omega
    go_enter Try.func19, Try.ntmps19
    go_wp2
    go_ret
    exact ⟨rfl, rfl⟩

theorem index_any (b : UInt8) (w : World) :
    Calls Try.prog 20 #[.string digits, .int .u8 b.toNat] w fun e w' => e = .returned (.int .i64 (val b)) ∧ w = w' := by
  have h := Shelf.index_byte digits (b.toNat : Int) w
  rw [idx_val b] at h
  exact h.mono fun _ _ ⟨he, hw⟩ => ⟨he, hw.symm⟩

def byteAt (s : ByteArray) (i : Nat) : UInt8 := s.data.toList.getD i 0
theorem byteAt_eq (s : ByteArray) (i : Nat) (h : i < s.size) : s[i] = byteAt s i := by
  have h' : i < s.data.toList.length := by simpa using h
  unfold byteAt
  rw [List.getD_eq_getElem?_getD, List.getElem?_eq_getElem h']
  rfl
def goodAt (s : ByteArray) (k : Nat) : Bool := decide (0 ≤ val (byteAt s (2 * k))) && decide (0 ≤ val (byteAt s (2 * k + 1)))
def pairAt (s : ByteArray) (k : Nat) : UInt8 := UInt8.ofNat (16 * val (byteAt s (2 * k)) + val (byteAt s (2 * k + 1))).toNat
def outTo (s : ByteArray) (k : Nat) : List UInt8 := (List.range k).map (pairAt s)
theorem outTo_succ (s : ByteArray) (k : Nat) : outTo s (k + 1) = outTo s k ++ [pairAt s k] := by simp [outTo, List.range_succ]
theorem outTo_len (s : ByteArray) (k : Nat) : (outTo s k).length = k := by simp [outTo]
theorem pair_cell (s : ByteArray) (k : Nat) (h1 : 0 ≤ val (byteAt s (2 * k))) (h2 : 0 ≤ val (byteAt s (2 * k + 1))) :
    bcells [pairAt s k] = [.int .u8 (16 * val (byteAt s (2 * k)) + val (byteAt s (2 * k + 1)))] := by
  have b1 := val_bd (byteAt s (2 * k))
  have b2 := val_bd (byteAt s (2 * k + 1))
  simp only [bcells, List.map_cons, List.map_nil, pairAt, UInt8.toNat_ofNat']
  congr 2
  omega
def allGood (s : ByteArray) : Bool := (List.range (s.size / 2)).all (goodAt s)
def answer (s : ByteArray) : Value :=
  if s.size ≤ 40000 ∧ s.size % 2 = 0 ∧ allGood s = true then .tuple #[.string ⟨(outTo s (s.size / 2)).toArray⟩, .bool true] else .tuple #[.string ⟨#[]⟩, .bool false]
theorem answer_long (s : ByteArray) (h : ¬ s.size ≤ 40000 ∨ s.size % 2 ≠ 0) : answer s = .tuple #[.string ⟨#[]⟩, .bool false] := by
  unfold answer; rw [if_neg]; rintro ⟨h1, h2, _⟩; omega
theorem answer_bad (s : ByteArray) (k : Nat) (hk : 2 * k < s.size) (h2 : s.size % 2 = 0) (h : val (byteAt s (2 * k)) < 0 ∨ val (byteAt s (2 * k + 1)) < 0) : answer s = .tuple #[.string ⟨#[]⟩, .bool false] := by
  unfold answer
  rw [if_neg]
  rintro ⟨_, _, hg⟩
  have := List.all_eq_true.1 hg k (List.mem_range.2 (by omega))
  simp [goodAt] at this
  omega
theorem answer_good (s : ByteArray) (h1 : s.size ≤ 40000) (h2 : s.size % 2 = 0) (h : ∀ j, 2 * j < s.size → 0 ≤ val (byteAt s (2 * j)) ∧ 0 ≤ val (byteAt s (2 * j + 1))) :
    answer s = .tuple #[.string ⟨(outTo s (s.size / 2)).toArray⟩, .bool true] := by
  unfold answer
  rw [if_pos]
  refine ⟨h1, h2, List.all_eq_true.2 fun j hj => ?_⟩
  have := h j (by have := List.mem_range.1 hj; omega)
  simp [goodAt, this.1, this.2]

theorem spec_long (s : ByteArray) (w : World) (hs : s.size ≤ 9223372036854775807) (h : 40000 < s.size ∨ s.size % 2 ≠ 0) :
    Calls Try.prog 9 #[.string s] w fun e w' => e = .returned (answer s) ∧ Below w.heap.size w w' := by
  rw [answer_long s (by omega)]
  by_cases h1 : 40000 < s.size
  · clear h
    go_enter Try.func9, Try.ntmps9
    go_wp2
    go_ret2
    exact ⟨rfl, Below.refl _ _⟩
  · have h2 : (s.size : Int) % 2 = 1 := by omega
    clear h
    go_enter Try.func9, Try.ntmps9
    go_wp2
    go_ret2
    exact ⟨rfl, Below.refl _ _⟩
theorem impl_long (s : ByteArray) (w : World) (hs : s.size ≤ 9223372036854775807) (h : 40000 < s.size ∨ s.size % 2 ≠ 0) :
    Calls Try.prog 10 #[.string s] w fun e w' => e = .returned (answer s) ∧ Below w.heap.size w w' := by
  rw [answer_long s (by omega)]
  by_cases h1 : s.size % 2 = 0
  · have h2 : (s.size : Int) % 2 = 0 := by omega
    have h3 : 40000 < s.size := by omega
    clear h h1
    go_enter Try.func10, Try.ntmps10
    go_wp2
    go_ret2
    exact ⟨rfl, Below.refl _ _⟩
  · have h2 : (s.size : Int) % 2 = 1 := by omega
    clear h h1
    go_enter Try.func10, Try.ntmps10
    go_wp2
    go_ret2
    exact ⟨rfl, Below.refl _ _⟩

set_option maxHeartbeats 1000000 in
theorem spec_short (s : ByteArray) (w : World) (hs : s.size ≤ 40000) (he : s.size % 2 = 0) :
    Calls Try.prog 9 #[.string s] w fun e w' => e = .returned (answer s) ∧ Below w.heap.size w w' := by
  obtain ⟨i0, hi0, hz0, hz1, hz2⟩ := info_parts Try.info5
  have HE := Lib.hid he
  have he2 : (s.size : Int) % 2 = 0 := by omega
  clear he
  go_enter Try.func9, Try.ntmps9
  go_wp2
  clear he2
  go_loopw [4, 5] (fun v i wr => ∃ k j : Nat, 2 * k ≤ j ∧ j ≤ 2 * k ∧ j ≤ s.size ∧ i = .int .i64 j ∧ (∀ t, t < k → 0 ≤ val (byteAt s (2 * t)) ∧ 0 ≤ val (byteAt s (2 * t + 1))) ∧ wr.ownsRow w.heap.size 5 1 v k (bcells (outTo s k)) ∧ Below w.heap.size w wr) (fun _ i _ => s.size - (intOf i).toNat)
  case atStart => exact ⟨0, 0, Nat.le_refl _, Nat.le_refl _, Nat.zero_le _, rfl, fun t ht => by omega, World.ownsRow_made w #[] 0 (Nat.le_refl _) (Nat.zero_le _) rfl, (Below.refl _ _).alloc (Nat.le_refl _) _⟩
  case round =>
    obtain ⟨k, j, hk1, hk2, hj, rfl, hgood, hown, hb⟩ := hrel
    have HG := Lib.hid hgood
    clear hgood
    by_cases hlt : j < s.size
    · have hlt2 : j + 1 < s.size := by have := HE.out; omega
      have hi0' : (0 : Int) ≤ (j : Int) := Int.natCast_nonneg _
      have hi1 : (j : Int) < (s.size : Int) := by omega
      have b1 := val_bd s[j]
      have b2 := val_bd s[j + 1]
      have eb1 := byteAt_eq s j hlt
      have eb2 := byteAt_eq s (j + 1) hlt2
      obtain rfl : j = 2 * k := by omega
      have v1 := Lib.hid eb1
      have v2 := Lib.hid eb2
      clear eb1 eb2
      by_cases hv1 : val s[2 * k] < 0
      · go_wp2_with (go_at_call 19; refine (value_any _ _).mono ?_; rintro e w' ⟨rfl, rfl⟩)
        go_ret2
        exact ⟨by rw [answer_bad s k hlt HE.out (by rw [← v1.out]; exact .inl hv1)]; rfl, hb⟩
      · by_cases hv2 : val s[2 * k + 1] < 0
        · go_wp2_with (go_at_call 19; refine (value_any _ _).mono ?_; rintro e w' ⟨rfl, rfl⟩)
          go_ret2
          exact ⟨by rw [answer_bad s k hlt HE.out (by rw [← v2.out]; exact .inr hv2)]; rfl, hb⟩
        · have hv1' : 0 ≤ val s[2 * k] := by omega
          have hv2' : 0 ≤ val s[2 * k + 1] := by omega
          have hz2' := hb.size
          go_wp2_with (first
            | (go_at_call 19; refine (value_any _ _).mono ?_; rintro e w' ⟨rfl, rfl⟩)
            | (at_builtin; refine wpList_append_lies _ rfl _ _ 32 rfl w.heap.size 5 i0 _ 1 1 Try.underlying32 hi0 hz0 hz1 hz2 rfl (by omega) u4 k _ rfl (hown.alloc _) ⟨wr.heap.size, 0, none⟩ 1 1 [.int .u8 (16 * val s[2 * k] + val s[2 * k + 1])] rfl rfl (World.news_of_block (heap_alloc_new wr _)) (by simp [Value.oneCell']) (by omega) (by simp only [maxLen]; omega) (by omega) (by simp; omega) (wr.heap.size + 1) (by simp) ?_; intro g cap w1 hown1 hgrow hat hg1))
          have hbw : Below w.heap.size w w1 := (hb.alloc hz2' _).grown hgrow (by simp; omega) (fun j hj => (hown.lt j hj).1)
          have hrow : w1.ownsRow w.heap.size 5 1 (.slice (some ⟨g, 0, none⟩) (k + 1) cap) (k + 1) (bcells (outTo s (k + 1))) := by
            rw [outTo_succ, bcells_append, pair_cell s k (by rw [← v1.out]; exact hv1') (by rw [← v2.out]; exact hv2'), ← v1.out, ← v2.out]; exact hown1
          have hgd : ∀ t, t < k + 1 → 0 ≤ val (byteAt s (2 * t)) ∧ 0 ≤ val (byteAt s (2 * t + 1)) := fun t ht => by
            by_cases htk : t = k
            · subst htk; rw [← v1.out, ← v2.out]; exact ⟨hv1', hv2'⟩
            · exact HG.out t (by omega)
          go_roundw
          case rel => exact ⟨k + 1, 2 * k + 2, by omega, by omega, by omega, by go_num, hgd, hrow, hbw⟩
          case measure => simp [intOf]; omega
    · have hcv := convert_own (src := 32) (dst := 9) Try.underlying32 Try.underlying5 Try.underlying9 hown
      have hk3 : s.size / 2 = k := by omega
      have ha := answer_good s hs HE.out (fun t ht => HG.out t (by omega))
      rw [hk3] at ha
      have HA := Lib.hid ha
      clear ha hk3
      go_wp2
      go_ret2
      exact ⟨by rw [HA.out]; rfl, hb⟩

set_option maxHeartbeats 1000000 in
theorem impl_short (s : ByteArray) (w : World) (hs : s.size ≤ 40000) (he : s.size % 2 = 0) :
    Calls Try.prog 10 #[.string s] w fun e w' => e = .returned (answer s) ∧ Below w.heap.size w w' := by
  obtain ⟨i0, hi0, hz0, hz1, hz2⟩ := info_parts Try.info5
  have HE := Lib.hid he
  have he2 : (s.size : Int) % 2 = 0 := by omega
  clear he
  go_enter Try.func10, Try.ntmps10
  go_wp2_with (at_make; refine wpList_make_own _ rfl _ _ 32 rfl w.heap.size 5 i0 _ 1 Try.underlying32 hi0 hz0 hz1 _ _ _ (s.size / 2) rfl rfl (by omega) (by rw [hz2]; omega) (by simp only [maxLen]; omega) (Nat.le_refl _) ?_; intro w0 hown0 hgrow0)
  clear he2
  go_loopw [4, 5] (fun v i wr => ∃ k j : Nat, 2 * k ≤ j ∧ j ≤ 2 * k ∧ j ≤ s.size ∧ i = .int .i64 j ∧ (∀ t, t < k → 0 ≤ val (byteAt s (2 * t)) ∧ 0 ≤ val (byteAt s (2 * t + 1))) ∧ wr.ownsRow w.heap.size 5 1 v k (bcells (outTo s k)) ∧ Below w.heap.size w wr) (fun _ i _ => s.size - (intOf i).toNat)
  case atStart => exact ⟨0, 0, Nat.le_refl _, Nat.le_refl _, Nat.zero_le _, rfl, fun t ht => by omega, hown0, (Below.refl _ _).grown hgrow0 (Nat.le_refl _) (fun _ h => by cases h)⟩
  case round =>
    obtain ⟨k, j, hk1, hk2, hj, rfl, hgood, hown, hb⟩ := hrel
    have HG := Lib.hid hgood
    clear hgood
    by_cases hlt : j < s.size
    · have hlt2 : j + 1 < s.size := by have := HE.out; omega
      have hi0' : (0 : Int) ≤ (j : Int) := Int.natCast_nonneg _
      have hi1 : (j : Int) < (s.size : Int) := by omega
      have b1 := val_bd s[j]
      have b2 := val_bd s[j + 1]
      have eb1 := byteAt_eq s j hlt
      have eb2 := byteAt_eq s (j + 1) hlt2
      obtain rfl : j = 2 * k := by omega
      have v1 := Lib.hid eb1
      have v2 := Lib.hid eb2
      clear eb1 eb2
      by_cases hv1 : val s[2 * k] < 0
      · go_wp2_with (go_at_call 20; refine (index_any _ _).mono ?_; rintro e w' ⟨rfl, rfl⟩)
        go_ret2
        exact ⟨by rw [answer_bad s k hlt HE.out (by rw [← v1.out]; exact .inl hv1)]; rfl, hb⟩
      · by_cases hv2 : val s[2 * k + 1] < 0
        · go_wp2_with (go_at_call 20; refine (index_any _ _).mono ?_; rintro e w' ⟨rfl, rfl⟩)
          go_ret2
          exact ⟨by rw [answer_bad s k hlt HE.out (by rw [← v2.out]; exact .inr hv2)]; rfl, hb⟩
        · have hv1' : 0 ≤ val s[2 * k] := by omega
          have hv2' : 0 ≤ val s[2 * k + 1] := by omega
          have hz2' := hb.size
          go_wp2_with (first
            | (go_at_call 20; refine (index_any _ _).mono ?_; rintro e w' ⟨rfl, rfl⟩)
            | (at_builtin; refine wpList_append_lies _ rfl _ _ 32 rfl w.heap.size 5 i0 _ 1 1 Try.underlying32 hi0 hz0 hz1 hz2 rfl (by omega) u4 k _ rfl (hown.alloc _) ⟨wr.heap.size, 0, none⟩ 1 1 [.int .u8 (16 * val s[2 * k] + val s[2 * k + 1])] rfl rfl (World.news_of_block (heap_alloc_new wr _)) (by simp [Value.oneCell']) (by omega) (by simp only [maxLen]; omega) (by omega) (by simp; omega) (wr.heap.size + 1) (by simp) ?_; intro g cap w1 hown1 hgrow hat hg1))
          have hbw : Below w.heap.size w w1 := (hb.alloc hz2' _).grown hgrow (by simp; omega) (fun j hj => (hown.lt j hj).1)
          have hrow : w1.ownsRow w.heap.size 5 1 (.slice (some ⟨g, 0, none⟩) (k + 1) cap) (k + 1) (bcells (outTo s (k + 1))) := by
            rw [outTo_succ, bcells_append, pair_cell s k (by rw [← v1.out]; exact hv1') (by rw [← v2.out]; exact hv2'), ← v1.out, ← v2.out]; exact hown1
          have hgd : ∀ t, t < k + 1 → 0 ≤ val (byteAt s (2 * t)) ∧ 0 ≤ val (byteAt s (2 * t + 1)) := fun t ht => by
            by_cases htk : t = k
            · subst htk; rw [← v1.out, ← v2.out]; exact ⟨hv1', hv2'⟩
            · exact HG.out t (by omega)
          go_roundw
          case rel => exact ⟨k + 1, 2 * k + 2, by omega, by omega, by omega, by go_num, hgd, hrow, hbw⟩
          case measure => simp [intOf]; omega
    · have hcv := convert_own (src := 32) (dst := 9) Try.underlying32 Try.underlying5 Try.underlying9 hown
      have hk3 : s.size / 2 = k := by omega
      have ha := answer_good s hs HE.out (fun t ht => HG.out t (by omega))
      rw [hk3] at ha
      have HA := Lib.hid ha
      clear ha hk3
      go_wp2
      go_ret2
      exact ⟨by rw [HA.out]; rfl, hb⟩
end Go.Proofs.Ytocnhnhklpfdgaa.fnExactUnhex
