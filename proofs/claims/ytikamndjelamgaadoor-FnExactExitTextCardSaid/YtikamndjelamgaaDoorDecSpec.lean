/-
  The given model's Decimal, called at any integer: it returns the decimal text, and changes no memory that was there. No condition.
-/
import Derived.Test.YtikamndjelamgaaDoorNum
import Derived.Test.YtikamndjelamgaaDoorFig
namespace Go.Proofs.YtikamndjelamgaaDoor.DecW
set_option maxRecDepth 100000
open Go.ChangeShapes Go.WideShapes Go.ChangeAt Go.RowKit
open Go.Proofs.YtikamndjelamgaaDoor.Base Go.Proofs.YtikamndjelamgaaDoor.Num Go.Proofs.YtikamndjelamgaaDoor.HexW

theorem figI_small (x : Int) (h : x < 10) : figI x = 48 + x := if_pos h

set_option maxHeartbeats 1000000 in
theorem decimal_pos (n : Nat) (hn : 0 < n) (hn2 : n ≤ 9223372036854775807) (w : World) :
    Calls Tryd.prog 36 #[.int .i64 n] w fun e w' => e = .returned (.string ⟨(dec n).toArray⟩) ∧ Below w.heap.size w w' := by
  have hl := dec_len 19 n (by omega)
  have hn0 : ((n : Int) == 0) = false := by simp; omega
  go_enter Tryd.func36, Tryd.ntmps36
  go_wp2
  clear hn0
  go_loopw [0, 4] (fun k o wr => ∃ (j : Nat) (out : ByteArray), j ≤ n ∧ k = .int .i64 j ∧ o = .string out ∧ dec j ++ out.data.toList = dec n ∧ Below w.heap.size w wr) (fun k _ _ => (intOf k).toNat)
  case atStart => exact ⟨n, ⟨#[]⟩, Nat.le_refl _, rfl, rfl, by simp, Below.refl _ _⟩
  case round =>
    obtain ⟨j, out, hj, rfl, rfl, hd, hb⟩ := hrel
    have hlen : (dec j).length + out.size = (dec n).length := by rw [← hd]; simp
    have HD := Lib.hid hd
    clear hd
    by_cases h0 : 0 < j
    · have hj0 : ((j : Int) == 0) = false := by simp; omega
      have hj1 : ((j : Int) != 0) = true := by simp; omega
      have hcv := convert_lit (P := Tryd.prog) wr (src := 22) (dst := 9) Tryd.underlying22 Tryd.underlying5 Tryd.underlying9 (figI ((j : Int) % 10)) (by rw [figI_small _ (by omega)]; omega) (by rw [figI_small _ (by omega)]; omega)
      go_wp2_with (go_at_call 41; refine (figure_any ((j : Int) % 10) (by omega) (by omega) _).mono ?_; rintro e w' ⟨rfl, rfl⟩)
      go_roundw
      case rel =>
        refine ⟨j / 10, _, by omega, by go_num, rfl, ?_, hb.alloc hb.size _⟩
        rw [← HD.out, dec_pos j h0, figI_small _ (by omega)]
        have hx : (48 + (j : Int) % 10).toNat = 48 + j % 10 := by omega
        rw [hx]
        simp [ByteArray.data_append, List.append_assoc]
      case measure => simp [intOf]; omega
    · have hj0 : ((j : Int) == 0) = true := by simp; omega
      have hj1 : ((j : Int) != 0) = false := by simp; omega
      go_wp2
      go_ret
      have hz : j = 0 := by omega
      have he := HD.out
      rw [hz, dec_zero, List.nil_append] at he
      refine ⟨?_, hb⟩
      show Ending.returned (.string out) = _
      rw [← he]

set_option maxHeartbeats 1000000 in
theorem decimal_neg (n : Nat) (hn : 0 < n) (hn2 : n ≤ 9223372036854775808) (w : World) :
    Calls Tryd.prog 36 #[.int .i64 (-(n : Int))] w fun e w' => e = .returned (.string ⟨(45 :: dec n).toArray⟩) ∧ Below w.heap.size w w' := by
  have hl := dec_len 19 n (by omega)
  have hn0 : ((-(n : Int)) == 0) = false := by simp; omega
  have hneg : -(n : Int) < 0 := by omega
  go_enter Tryd.func36, Tryd.ntmps36
  go_wp2
  clear hn0
  go_loopw [0, 4] (fun k o wr => ∃ (j : Nat) (out : ByteArray), j ≤ n ∧ k = .int .i64 (-(j : Int)) ∧ o = .string out ∧ dec j ++ out.data.toList = dec n ∧ Below w.heap.size w wr) (fun k _ _ => (-(intOf k)).toNat)
  case atStart => exact ⟨n, ⟨#[]⟩, Nat.le_refl _, rfl, rfl, by simp, Below.refl _ _⟩
  case round =>
    obtain ⟨j, out, hj, rfl, rfl, hd, hb⟩ := hrel
    have hlen : (dec j).length + out.size = (dec n).length := by rw [← hd]; simp
    have HD := Lib.hid hd
    clear hd
    by_cases h0 : 0 < j
    · have hj0 : ((-(j : Int)) == 0) = false := by simp; omega
      have hj1 : ((-(j : Int)) != 0) = true := by simp; omega
      have t1 : (-(j : Int)).tmod 10 = -((j : Int) % 10) := by rw [Int.neg_tmod, Int.tmod_eq_emod_of_nonneg (by omega)]
      have t2 : (-(j : Int)).tdiv 10 = -((j : Int) / 10) := by rw [Int.neg_tdiv, Int.tdiv_eq_ediv_of_nonneg (by omega)]
      have hcv := convert_lit (P := Tryd.prog) wr (src := 22) (dst := 9) Tryd.underlying22 Tryd.underlying5 Tryd.underlying9 (figI ((j : Int) % 10)) (by rw [figI_small _ (by omega)]; omega) (by rw [figI_small _ (by omega)]; omega)
      have rest : ∀ (o2 : ByteArray), o2 = (⟨#[UInt8.ofNat (figI ((j : Int) % 10)).toNat]⟩ ++ out : ByteArray) → dec (j / 10) ++ o2.data.toList = dec n := by
        intro o2 ho
        rw [← HD.out, dec_pos j h0, ho, figI_small _ (by omega)]
        have hx : (48 + (j : Int) % 10).toNat = 48 + j % 10 := by omega
        rw [hx]
        simp [ByteArray.data_append, List.append_assoc]
      have REST := Lib.hid rest
      clear rest
      by_cases hd0 : (j : Int) % 10 = 0
      · have hd1 : ¬ -((j : Int) % 10) < 0 := by omega
        rw [hd0] at t1 hcv
        go_wp2_with (go_at_call 41; refine (figure_any 0 (by omega) (by omega) _).mono ?_; rintro e w' ⟨rfl, rfl⟩)
        go_roundw
        case rel => exact ⟨j / 10, _, by omega, by go_num, rfl, REST.out _ (by rw [hd0]), hb.alloc hb.size _⟩
        case measure => simp [intOf]; omega
      · have hd1 : -((j : Int) % 10) < 0 := by omega
        go_wp2_with (go_at_call 41; refine (figure_any ((j : Int) % 10) (by omega) (by omega) _).mono ?_; rintro e w' ⟨rfl, rfl⟩)
        go_roundw
        case rel => exact ⟨j / 10, _, by omega, by go_num, rfl, REST.out _ rfl, hb.alloc hb.size _⟩
        case measure => simp [intOf]; omega
    · have hj0 : ((-(j : Int)) == 0) = true := by simp; omega
      have hj1 : ((-(j : Int)) != 0) = false := by simp; omega
      go_wp2
      go_ret
      have hz : j = 0 := by omega
      have he := HD.out
      rw [hz, dec_zero, List.nil_append] at he
      refine ⟨?_, hb⟩
      show Ending.returned (.string ({ data := #[45] } ++ out)) = _
      have hx : ({ data := #[45] } ++ out : ByteArray) = ⟨(45 :: dec n).toArray⟩ := by
        apply ByteArray.ext
        apply Array.toList_inj.1
        simp [ByteArray.data_append, he]
      rw [hx]

theorem decimal_zero (w : World) : Calls Tryd.prog 36 #[.int .i64 0] w fun e w' => e = .returned (.string ⟨#[48]⟩) ∧ Below w.heap.size w w' := by
  go_enter Tryd.func36, Tryd.ntmps36
  go_wp2
  go_ret
  exact ⟨rfl, Below.refl _ _⟩

theorem decimal_any (n : Int) (h0 : -9223372036854775808 ≤ n) (h1 : n ≤ 9223372036854775807) (w : World) :
    Calls Tryd.prog 36 #[.int .i64 n] w fun e w' => e = .returned (.string ⟨(Lib.itoa n).toArray⟩) ∧ Below w.heap.size w w' := by
  by_cases hz : n = 0
  · subst hz
    have h48 : (Lib.itoa 0).toArray = #[48] := by rw [itoa_zero]
    rw [h48]
    exact decimal_zero w
  · by_cases hp : 0 < n
    · obtain ⟨m, rfl⟩ := Int.eq_ofNat_of_zero_le (Int.le_of_lt hp)
      rw [show Lib.itoa (m : Int) = dec m from itoa_pos m (by omega)]
      exact decimal_pos m (by omega) (by omega) w
    · obtain ⟨m, hm⟩ := Int.eq_ofNat_of_zero_le (a := -n) (by omega)
      obtain rfl : n = -(m : Int) := by omega
      rw [itoa_neg m (by omega)]
      exact decimal_neg m (by omega) (by omega) w
end Go.Proofs.YtikamndjelamgaaDoor.DecW
