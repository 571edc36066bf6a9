/-
  Decimal digits of a number, and a byte literal turned into a string; no statement about the program stands here. No condition.
-/
import Derived.Test.YtikamndjelamgaaDoorBase
import Derived.Lib.ItoaNum
namespace Go.Proofs.YtikamndjelamgaaDoor.Num
set_option maxRecDepth 100000
open Go.ChangeShapes Go.WideShapes Go.ChangeAt Go.RowKit
open Go.Proofs.YtikamndjelamgaaDoor.Base

/-- The decimal digits of a number above 0; none for 0. -/
def dec (n : Nat) : List UInt8 := if n = 0 then [] else dec (n / 10) ++ [UInt8.ofNat (48 + n % 10)]
  termination_by n
  decreasing_by omega
theorem dec_zero : dec 0 = [] := by rw [dec]; simp
theorem dec_pos (n : Nat) (h : 0 < n) : dec n = dec (n / 10) ++ [UInt8.ofNat (48 + n % 10)] := by rw [dec, if_neg (by omega)]
theorem dec_len (d : Nat) : ∀ n, n < 10 ^ d → (dec n).length ≤ d := by
  induction d with
  | zero => intro n h; have : n = 0 := by omega
            subst this; simp [dec_zero]
  | succ d ih =>
    intro n h
    by_cases h0 : n = 0
    · subst h0; simp [dec_zero]
    · rw [dec_pos n (by omega)]
      have := ih (n / 10) (by rw [Nat.pow_succ] at h; omega)
      simp; omega

theorem convert_lit {P : Program} (w : World) {src dst e : TypeId} (hs : P.underlying src = some (.slice e)) (he : P.underlying e = some (.int .u8)) (hd : P.underlying dst = some .string) (x : Int) (h0 : 0 ≤ x) (h1 : x < 256) :
    (convert src dst (.slice (some ⟨w.heap.size, 0, none⟩) 1 1)).run P (w.alloc (.cells #[.int .u8 x] e)) = .ok (.string ⟨#[UInt8.ofNat x.toNat]⟩) (w.alloc (.cells #[.int .u8 x] e)) := by
  have hb : bcells [UInt8.ofNat x.toNat] = [.int .u8 x] := by
    simp only [bcells, List.map_cons, List.map_nil, UInt8.toNat_ofNat']
    congr 2; omega
  refine convert_own (base := 0) (n := 1) (l := [UInt8.ofNat x.toNat]) hs he hd ?_
  rw [hb]
  exact World.ownsRow_lit w #[.int .u8 x] 1 (Nat.zero_le _) (by decide) rfl

theorem dec_digits (n : Nat) : 0 < n → dec n = Lib.decDigits n := by
  induction n using Nat.strongRecOn with
  | _ n ih =>
    intro h
    rw [dec_pos n h, Lib.decDigits]
    by_cases h10 : n < 10
    · rw [dif_pos h10, show n / 10 = 0 by omega, dec_zero, Nat.mod_eq_of_lt h10]; rfl
    · rw [dif_neg h10, ih (n / 10) (by omega) (by omega)]
theorem itoa_pos (n : Nat) (h : 0 < n) : Lib.itoa (n : Int) = dec n := by
  unfold Lib.itoa; rw [if_neg (by omega), dec_digits n h]; simp
theorem itoa_neg (n : Nat) (h : 0 < n) : Lib.itoa (-(n : Int)) = 45 :: dec n := by
  unfold Lib.itoa; rw [if_pos (by omega), dec_digits n h]; simp
theorem itoa_zero : Lib.itoa 0 = [48] := by decide +kernel
end Go.Proofs.YtikamndjelamgaaDoor.Num
