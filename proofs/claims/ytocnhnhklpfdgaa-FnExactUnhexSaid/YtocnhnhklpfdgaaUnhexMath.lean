/-
  The value of a hexadecimal digit, and the bytes that a text of digits stands for; no statement about the program stands here. No condition.
-/
import Derived.Test.YtocnhnhklpfdgaaBase
import Derived.Lib.Bytealg
import Derived.IntWalk
namespace Go.Proofs.Ytocnhnhklpfdgaa.UnhexW
open Go.ChangeShapes Go.WideShapes Go.ChangeAt Go.RowKit
open Go.Proofs.Ytocnhnhklpfdgaa.Base

theorem Try.info5 : (Try.prog.info? 5).map (fun i => (i.zero, i.size, i.bytes)) = some (some (.int .u8 0), 1, 1) := by kernel_rfl

/-- The value of a digit, -1 if it is none. -/
def val (b : UInt8) : Int := if 48 ≤ b.toNat ∧ b.toNat ≤ 57 then b.toNat - 48 else if 97 ≤ b.toNat ∧ b.toNat ≤ 102 then b.toNat - 87 else -1
theorem val_bd (b : UInt8) : -1 ≤ val b ∧ val b ≤ 15 := by
  unfold val; repeat' split
  all_goals omega

def digits : ByteArray := { data := #[48, 49, 50, 51, 52, 53, 54, 55, 56, 57, 97, 98, 99, 100, 101, 102] }
theorem idx_fin : ∀ n : Fin 256, Lib.indexByte digits.data.toList (UInt8.ofNat n.val) = val (UInt8.ofNat n.val) := by decide +kernel
theorem idx_val (b : UInt8) : Lib.indexByte digits.data.toList ((b.toNat : Int).toNat.toUInt8) = val b := by
  have h := idx_fin ⟨b.toNat, b.toNat_lt⟩
  simpa using h

def byteAt (s : ByteArray) (i : Nat) : UInt8 := s.data.toList.getD i 0
theorem byteAt_eq (s : ByteArray) (i : Nat) (h : i < s.size) : s[i] = byteAt s i := by
  have h' : i < s.data.toList.length := by simpa using h
  unfold byteAt
  rw [List.getD_eq_getElem?_getD, List.getElem?_eq_getElem h']
  rfl
def goodAt (s : ByteArray) (k : Nat) : Bool := decide (0 ≤ val (byteAt s (2 * k))) && decide (0 ≤ val (byteAt s (2 * k + 1)))
def pairAt (s : ByteArray) (k : Nat) : UInt8 := UInt8.ofNat (16 * val (byteAt s (2 * k)) + val (byteAt s (2 * k + 1))).toNat
def outTo (s : ByteArray) (k : Nat) : List UInt8 := (List.range k).map (pairAt s)
theorem outTo_succ (s : ByteArray) (k : Nat) : outTo s (k + 1) = outTo s k ++ [pairAt s k] := by simp [outTo, List.range_succ]
theorem outTo_len (s : ByteArray) (k : Nat) : (outTo s k).length = k := by simp [outTo]
theorem pair_cell (s : ByteArray) (k : Nat) (h1 : 0 ≤ val (byteAt s (2 * k))) (h2 : 0 ≤ val (byteAt s (2 * k + 1))) :
    bcells [pairAt s k] = [.int .u8 (16 * val (byteAt s (2 * k)) + val (byteAt s (2 * k + 1)))] := by
  have b1 := val_bd (byteAt s (2 * k))
  have b2 := val_bd (byteAt s (2 * k + 1))
  simp only [bcells, List.map_cons, List.map_nil, pairAt, UInt8.toNat_ofNat']
  congr 2
  omega
def allGood (s : ByteArray) : Bool := (List.range (s.size / 2)).all (goodAt s)
def answer (s : ByteArray) : Value :=
  if s.size ≤ 40000 ∧ s.size % 2 = 0 ∧ allGood s = true then .tuple #[.string ⟨(outTo s (s.size / 2)).toArray⟩, .bool true] else .tuple #[.string ⟨#[]⟩, .bool false]
theorem answer_long (s : ByteArray) (h : ¬ s.size ≤ 40000 ∨ s.size % 2 ≠ 0) : answer s = .tuple #[.string ⟨#[]⟩, .bool false] := by
  unfold answer; rw [if_neg]; rintro ⟨h1, h2, _⟩; omega
theorem answer_bad (s : ByteArray) (k : Nat) (hk : 2 * k < s.size) (h2 : s.size % 2 = 0) (h : val (byteAt s (2 * k)) < 0 ∨ val (byteAt s (2 * k + 1)) < 0) : answer s = .tuple #[.string ⟨#[]⟩, .bool false] := by
  unfold answer
  rw [if_neg]
  rintro ⟨_, _, hg⟩
  have := List.all_eq_true.1 hg k (List.mem_range.2 (by omega))
  simp [goodAt] at this
  omega
theorem answer_good (s : ByteArray) (h1 : s.size ≤ 40000) (h2 : s.size % 2 = 0) (h : ∀ j, 2 * j < s.size → 0 ≤ val (byteAt s (2 * j)) ∧ 0 ≤ val (byteAt s (2 * j + 1))) :
    answer s = .tuple #[.string ⟨(outTo s (s.size / 2)).toArray⟩, .bool true] := by
  unfold answer
  rw [if_pos]
  refine ⟨h1, h2, List.all_eq_true.2 fun j hj => ?_⟩
  have := h j (by have := List.mem_range.1 hj; omega)
  simp [goodAt, this.1, this.2]

end Go.Proofs.Ytocnhnhklpfdgaa.UnhexW
