/-
  The given model's ReadDecimal, called at any string: what it returns; it changes no memory that was there. No condition.
-/
import Derived.Test.YtocnhnhklpfdgaaDoorReadMath
import Derived.Test.YtocnhnhklpfdgaaDoorDecSpec
namespace Go.Proofs.YtocnhnhklpfdgaaDoor.ReadW
open Go.ChangeShapes Go.WideShapes Go.ChangeAt Go.RowKit
open Go.Proofs.YtocnhnhklpfdgaaDoor.Base Go.Proofs.YtocnhnhklpfdgaaDoor.Num

theorem spec_long (s : ByteArray) (w : World) (h : 10 < s.size) :
    Calls Tryd.prog 14 #[.string s] w fun e w' => e = .returned (.tuple #[.int .i64 (numV s.data.toList), .bool (numB s.data.toList)]) ∧ Below w.heap.size w w' := by
  have hn : numOf s.data.toList = none := by
    cases hx : numOf s.data.toList with
    | none => rfl
    | some m => have := numOf_len hx; simp at this; omega
  rw [(none_V hn).1, (none_V hn).2]
  clear hn
  go_enter Tryd.func14, Tryd.ntmps14
  go_wp2
  go_ret2
  exact ⟨rfl, Below.refl _ _⟩

theorem toList_at (s : ByteArray) (k : Nat) (h : k < s.size) : s.data.toList[k]? = some s[k] := by
  have h' : k < s.data.toList.length := by simpa using h
  rw [List.getElem?_eq_getElem h']; rfl

set_option maxHeartbeats 1000000 in
theorem spec_short (s : ByteArray) (w : World) (hs : s.size ≤ 10) :
    Calls Tryd.prog 14 #[.string s] w fun e w' => e = .returned (.tuple #[.int .i64 (numV s.data.toList), .bool (numB s.data.toList)]) ∧ Below w.heap.size w w' := by
  go_enter Tryd.func14, Tryd.ntmps14
  go_wp2
  go_loop [4, 5] (fun n i => ∃ (k acc : Nat), k ≤ s.size ∧ i = .int .i64 k ∧ n = .int .i64 acc ∧ Lib.decFrom 0 (s.data.toList.take k) = some acc ∧ acc < 10000000000) (fun _ i => s.size - (intOf i).toNat)
  case atStart => exact ⟨0, 0, Nat.zero_le _, rfl, rfl, rfl, by omega⟩
  case round =>
    obtain ⟨k, acc, hk, rfl, rfl, hd, ha⟩ := hrel
    have HD := Lib.hid hd
    clear hd
    by_cases hlt : k < s.size
    · have hi0' : (0 : Int) ≤ (k : Int) := Int.natCast_nonneg _
      have hi1 : (k : Int) < (s.size : Int) := by omega
      have hb1 := s[k].toNat_lt
      by_cases hbad : s[k].toNat < 48 ∨ 57 < s[k].toNat
      · have hn : numOf s.data.toList = none := by
          cases hx : numOf s.data.toList with
          | none => rfl
          | some m =>
            obtain ⟨_, _, hd⟩ := numOf_some hx
            obtain ⟨d, hd2⟩ := Lib.digit_of_decFrom _ _ _ hd k s[k] (toList_at s k hlt)
            have := Lib.digitVal_eq hd2
            omega
        have hV := Lib.hid (none_V hn)
        clear hn
        rcases hbad with hbad | hbad
        · go_wp2
          go_ret2
          rw [hV.out.1, hV.out.2]
          exact ⟨rfl, Below.refl _ _⟩
        · have hbad2 : ¬ s[k].toNat < 48 := by omega
          go_wp2
          go_ret2
          rw [hV.out.1, hV.out.2]
          exact ⟨rfl, Below.refl _ _⟩
      · have hok1 : 48 ≤ s[k].toNat := by omega
        have hok2 : s[k].toNat ≤ 57 := by omega
        have hdv : Lib.digitVal s[k] = some (s[k].toNat - 48) := by unfold Lib.digitVal; rw [if_pos ⟨hok1, hok2⟩]
        have hstep := Lib.decFrom_take s.data.toList k 0 acc s[k] (s[k].toNat - 48) HD.out (toList_at s k hlt) hdv
        have hlt2 := Lib.decFrom_lt _ _ _ hstep
        have hlt3 : acc * 10 + (s[k].toNat - 48) < 10000000000 := by
          have h1 : (s.data.toList.take (k + 1)).length ≤ 10 := by have := List.length_take_le (k + 1) s.data.toList; omega
          have h2 : 10 ^ (s.data.toList.take (k + 1)).length ≤ 10 ^ 10 := Nat.pow_le_pow_right (by omega) h1
          omega
        have HS := Lib.hid hstep
        clear hstep hlt2 hdv
        go_wp2
        go_round
        case rel => exact ⟨k + 1, acc * 10 + (s[k].toNat - 48), by omega, by go_num, by go_num, HS.out, hlt3⟩
        case measure => simp [intOf]; omega
    · have hd := HD.out
      rw [take_all s k (by omega)] at hd
      clear HD
      by_cases hbig : 1000000000 < acc
      · have hn : numOf s.data.toList = none := by
          cases hx : numOf s.data.toList with
          | none => rfl
          | some m =>
            obtain ⟨h1, _, hd2⟩ := numOf_some hx
            rw [hd] at hd2
            injection hd2 with hd2
            omega
        have hV := Lib.hid (none_V hn)
        clear hn hd
        go_wp2
        go_ret2
        rw [hV.out.1, hV.out.2]
        exact ⟨rfl, Below.refl _ _⟩
      · by_cases heq : Lib.itoa (acc : Int) = s.data.toList
        · have hV := Lib.hid (some_V (numOf_of (by omega) heq))
          have hx : (⟨(Lib.itoa (acc : Int)).toArray⟩ : ByteArray) = s := by rw [heq]
          have c := DecW.decimal_any (acc : Int) (by omega) (by omega) w
          rw [hx] at c
          have H := Lib.hid c
          clear c hx heq hd
          go_wp2_with (go_at_call 13; refine H.out.mono ?_; rintro e w1 ⟨rfl, hb1⟩)
          go_ret2
          rw [hV.out.1, hV.out.2]
          exact ⟨rfl, hb1⟩
        · have hn : numOf s.data.toList = none := by
            cases hx : numOf s.data.toList with
            | none => rfl
            | some m =>
              obtain ⟨h1, h2, hd2⟩ := numOf_some hx
              rw [hd] at hd2
              injection hd2 with hd2
              subst hd2
              exact absurd h2 heq
          have hV := Lib.hid (none_V hn)
          have c := DecW.decimal_any (acc : Int) (by omega) (by omega) w
          have hne : (⟨(Lib.itoa (acc : Int)).toArray⟩ : ByteArray) ≠ s := fun h => heq (by rw [← h])
          generalize (⟨(Lib.itoa (acc : Int)).toArray⟩ : ByteArray) = x at c hne
          have hne1 : (x.toList == s.toList) = false := str_ne hne
          have H := Lib.hid c
          clear c heq hd hn
          go_wp2_with (go_at_call 13; refine H.out.mono ?_; rintro e w1 ⟨rfl, hb1⟩)
          go_ret2
          rw [hV.out.1, hV.out.2]
          exact ⟨rfl, hb1⟩
end Go.Proofs.YtocnhnhklpfdgaaDoor.ReadW
