/-
  The lower-case hexadecimal text of a list of bytes; no statement about the program stands here. No condition.
-/
import Derived.Test.YtikamndjelamgaaDoorBase
import Derived.Test.YtikamndjelamgaaDoorRegion
import Derived.IntWalk
namespace Go.Proofs.YtikamndjelamgaaDoor.HexW
set_option maxRecDepth 100000
open Go.ChangeShapes Go.WideShapes Go.ChangeAt Go.RowKit
open Go.Proofs.YtikamndjelamgaaDoor.Base

def fig (x : Nat) : UInt8 := UInt8.ofNat (if x < 10 then 48 + x else 87 + x)
def hexOf (l : List UInt8) : List UInt8 := l.flatMap fun b => [fig (b.toNat / 16), fig (b.toNat % 16)]
theorem hexOf_snoc (l : List UInt8) (b : UInt8) : hexOf (l ++ [b]) = hexOf l ++ [fig (b.toNat / 16), fig (b.toNat % 16)] := by simp [hexOf]
theorem hexOf_len (l : List UInt8) : (hexOf l).length = 2 * l.length := by
  induction l with
  | nil => rfl
  | cons b l ih => simp [hexOf] at ih ⊢; omega
theorem fig_toNat (x : Nat) (h : x < 16) : ((fig x).toNat : Int) = if x < 10 then 48 + (x : Int) else 87 + (x : Int) := by
  unfold fig
  split <;> simp <;> omega

theorem Tryd.info5 : (Tryd.prog.info? 5).map (fun i => (i.zero, i.size, i.bytes)) = some (some (.int .u8 0), 1, 1) := by kernel_rfl

/-- The digit of 0 .. 15, as a number. -/
def figI (x : Int) : Int := if x < 10 then 48 + x else 87 + x
theorem fig_figI (x : Nat) (h : x < 16) : ((fig x).toNat : Int) = figI x := by
  rw [fig_toNat x h]; unfold figI; split <;> split <;> omega
theorem pair_cells (b : UInt8) : bcells [fig (b.toNat / 16), fig (b.toNat % 16)] = [.int .u8 (figI ((b.toNat : Int) / 16)), .int .u8 (figI ((b.toNat : Int) % 16))] := by
  have h := b.toNat_lt
  have h1 := fig_figI (b.toNat / 16) (by omega)
  have h2 := fig_figI (b.toNat % 16) (by omega)
  simp only [bcells, List.map_cons, List.map_nil, h1, h2]
  norm_cast

def digits : ByteArray := { data := #[48, 49, 50, 51, 52, 53, 54, 55, 56, 57, 97, 98, 99, 100, 101, 102] }
theorem digit_nat : ∀ x : Fin 16, (((digits[x.val]'x.isLt).toNat : Nat) : Int) = figI x.val := by decide
theorem digit_at (x : Int) (h0 : 0 ≤ x) (h : x.toNat < digits.size) : ((digits[x.toNat]'h).toNat : Int) = figI x := by
  have := digit_nat ⟨x.toNat, h⟩
  simp only [Int.toNat_of_nonneg h0] at this
  exact this

end Go.Proofs.YtikamndjelamgaaDoor.HexW
