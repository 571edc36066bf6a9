/-
  Which number a decimal text stands for, in the words of the library's contracts for strconv; no statement about the program stands here. No condition.
-/
import Derived.Test.YtocnhnhklpfdgaaDoorNum
import Derived.Lib.Atoi
import Derived.Lib.AtoiAll
import Derived.Lib.AtoiTie
namespace Go.Proofs.YtocnhnhklpfdgaaDoor.ReadW
open Go.Proofs.YtocnhnhklpfdgaaDoor.Num Go.Lib

theorem str_ne {x s : ByteArray} (h : x ≠ s) : (x.toList == s.toList) = false := by
  rw [beq_eq_false_iff_ne, Go.ByteArray.toList_eq, Go.ByteArray.toList_eq]
  exact fun e => h (ByteArray.ext (Array.toList_inj.1 e))
theorem decFrom_append (l : List UInt8) : ∀ (m : List UInt8) (acc : Nat), decFrom acc (l ++ m) = (decFrom acc l).bind fun n => decFrom n m := by
  induction l with
  | nil => intro m acc; rfl
  | cons b r ih =>
    intro m acc
    simp only [List.cons_append, decFrom]
    cases digitVal b with
    | none => rfl
    | some d => exact ih m _
theorem digitVal_of (d : Nat) (h : d < 10) : digitVal (UInt8.ofNat (48 + d)) = some d := by
  have e : (UInt8.ofNat (48 + d)).toNat = 48 + d := by rw [UInt8.toNat_ofNat']; omega
  unfold digitVal
  rw [e, if_pos ⟨by omega, by omega⟩]
  congr 1
  omega
theorem decFrom_digits (u : Nat) : decFrom 0 (decDigits u) = some u := by
  induction u using Nat.strongRecOn with
  | _ u ih =>
    rw [decDigits]
    by_cases h : u < 10
    · rw [dif_pos h]
      simp only [decFrom, digitVal_of u h]
      congr 1
      omega
    · rw [dif_neg h, decFrom_append, ih (u / 10) (by omega)]
      simp only [Option.bind_some, decFrom, digitVal_of (u % 10) (by omega)]
      congr 1
      omega
theorem digits_ne (u : Nat) : decDigits u ≠ [] := by
  rw [decDigits]
  split
  · simp
  · simp
theorem itoa_nat (u : Nat) : itoa (u : Int) = decDigits u := by unfold itoa; rw [if_neg (by omega)]; simp
theorem atoi_digits (u : Nat) : atoi (decDigits u) = some (u : Int) := by
  have hd := decFrom_digits u
  cases hl : decDigits u with
  | nil => exact absurd hl (digits_ne u)
  | cons b r =>
    rw [hl] at hd
    have hb : ∃ d, digitVal b = some d := by
      simp only [decFrom] at hd
      cases hv : digitVal b with
      | none => rw [hv] at hd; cases hd
      | some d => exact ⟨d, rfl⟩
    obtain ⟨d, hb⟩ := hb
    have hr := digitVal_eq hb
    have n45 : (b == 45) = false := by
      rw [beq_eq_false_iff_ne]; intro h; rw [h] at hr; exact absurd hr.1 (by decide)
    have n43 : (b == 43) = false := by
      rw [beq_eq_false_iff_ne]; intro h; rw [h] at hr; exact absurd hr.1 (by decide)
    simp only [atoi, n45, n43, Bool.false_eq_true, if_false, decNat, List.isEmpty_cons, hd, Option.map_some]
theorem digits_len (u : Nat) (h : u ≤ 1000000000) : (decDigits u).length ≤ 10 := by
  by_cases h0 : u = 0
  · subst h0; decide +kernel
  · rw [← dec_digits u (by omega)]
    exact dec_len 10 u (by omega)
theorem atoiAll_digits (u : Nat) (h : u ≤ 1000000000) : atoiAll (decDigits u) = .ok (u : Int) := by
  rw [atoiAll_short _ (by have := digits_len u h; omega), atoi_digits u]
  rfl

/-- The number from 0 to 1000000000 whose decimal text this is. -/
def numOf (l : List UInt8) : Option Nat :=
  match decFrom 0 l with
  | some m => if m ≤ 1000000000 ∧ itoa (m : Int) = l then some m else none
  | none => none
theorem numOf_some {l : List UInt8} {m : Nat} (h : numOf l = some m) : m ≤ 1000000000 ∧ itoa (m : Int) = l ∧ decFrom 0 l = some m := by
  unfold numOf at h
  cases hd : decFrom 0 l with
  | none => rw [hd] at h; cases h
  | some k =>
    rw [hd] at h
    simp only at h
    split at h
    · rename_i hk
      injection h with h
      subst h
      exact ⟨hk.1, hk.2, rfl⟩
    · cases h
theorem numOf_of {l : List UInt8} {m : Nat} (hm : m ≤ 1000000000) (h : itoa (m : Int) = l) : numOf l = some m := by
  have hd : decFrom 0 l = some m := by rw [← h, itoa_nat]; exact decFrom_digits m
  unfold numOf
  rw [hd]
  exact if_pos ⟨hm, h⟩
theorem numOf_atoi {l : List UInt8} {m : Nat} (h : numOf l = some m) : atoiAll l = .ok (m : Int) := by
  obtain ⟨h1, h2, _⟩ := numOf_some h
  rw [← h2, itoa_nat]
  exact atoiAll_digits m h1
theorem numOf_len {l : List UInt8} {m : Nat} (h : numOf l = some m) : l.length ≤ 10 := by
  obtain ⟨h1, h2, _⟩ := numOf_some h
  rw [← h2, itoa_nat]
  exact digits_len m h1
/-- What ReadDecimal returns. -/
def numV (l : List UInt8) : Int := match numOf l with | some m => (m : Int) | none => 0
def numB (l : List UInt8) : Bool := (numOf l).isSome
theorem none_V {l : List UInt8} (h : numOf l = none) : numV l = 0 ∧ numB l = false := by simp [numV, numB, h]
theorem some_V {l : List UInt8} {m : Nat} (h : numOf l = some m) : numV l = m ∧ numB l = true := by simp [numV, numB, h]
end Go.Proofs.YtocnhnhklpfdgaaDoor.ReadW
