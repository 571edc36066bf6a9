/-
  Interrupts: what chapter 14 computes, and the given model's functions of chapter 14; no statement about the project's code stands here. No condition.
-/
import Derived.Test.YtmiokacihcpepaaIn
import Derived.Test.YtmiokacihcpepaaMem
namespace Go.Proofs.Ytmiokacihcpepaa.Irqs
set_option maxRecDepth 100000
open Go.ChangeShapes Go.WideShapes Go.ChangeAt Go.RowKit
open Go.Proofs.Ytmiokacihcpepaa.Base Go.Proofs.Ytmiokacihcpepaa.Mem
set_option linter.unusedVariables false
set_option linter.unusedSimpArgs false

def pend (p : Int) : Bool := inB p 0 255
/-- Bit n of a number, as a number. -/
def bitN (p : Int) (n : Nat) : Int := bits .and .i64 (p / 2 ^ n) 1
def postI (p n : Int) : Int × Bool := if (pend p && inB n 0 7) = true then (bits .or .i64 p (2 ^ n.toNat), true) else (p, false)
def topTo (p : Int) : Nat → Int
  | 0 => -1
  | k + 1 => if bitN p k = 1 then (k : Int) else topTo p k
def topI (p : Int) : Int := if pend p = true then topTo p 8 else -1
def takeI (p : Int) : Int × Int × Bool := if topI p < 0 then (p, -1, false) else (p - 2 ^ (topI p).toNat, topI p, true)
def cntTo (p : Int) : Nat → Int
  | 0 => 0
  | k + 1 => cntTo p k + bitN p k
def cntI (p : Int) : Int := if pend p = true then cntTo p 8 else 0
def splitI (p q : Int) : Int × Int := if (pend p && pend q) = true then (bits .and .i64 p q, bits .and .i64 p (bits .xor .i64 255 q)) else (0, 0)
theorem pend_iff {p : Int} : pend p = true ↔ 0 ≤ p ∧ p ≤ 255 := inB_iff
theorem byte (f : Int → Bool) (h : ∀ x : Fin 256, f (x.val : Int) = true) {p : Int} (h0 : 0 ≤ p) (h1 : p ≤ 255) : f p = true := by
  obtain ⟨x, rfl⟩ := Int.eq_ofNat_of_zero_le h0
  exact h ⟨x, by omega⟩

theorem pow_small {k : Nat} (h : k ≤ 7) : wrap64 (2 ^ k) = 2 ^ k := by
  have h8 : k = 0 ∨ k = 1 ∨ k = 2 ∨ k = 3 ∨ k = 4 ∨ k = 5 ∨ k = 6 ∨ k = 7 := by omega
  rcases h8 with rfl | rfl | rfl | rfl | rfl | rfl | rfl | rfl <;> decide +kernel
theorem bitN_all : ∀ (x : Fin 256) (k : Fin 8), (bitN (x.val : Int) k.val = 0 ∨ bitN (x.val : Int) k.val = 1) := by decide +kernel
theorem bitN_01 {p : Int} (h : pend p = true) {k : Nat} (hk : k < 8) : bitN p k = 0 ∨ bitN p k = 1 := by
  obtain ⟨h0, h1⟩ := pend_iff.1 h
  obtain ⟨x, rfl⟩ := Int.eq_ofNat_of_zero_le h0
  exact bitN_all ⟨x, by omega⟩ ⟨k, hk⟩
theorem cntTo_le {p : Int} (h : pend p = true) : ∀ {k : Nat}, k ≤ 8 → 0 ≤ cntTo p k ∧ cntTo p k ≤ k
  | 0, _ => ⟨Int.le_refl _, Int.le_refl _⟩
  | k + 1, hk => by
    have h1 := cntTo_le h (show k ≤ 8 by omega)
    have h2 := bitN_01 h (show k < 8 by omega)
    have e : cntTo p (k + 1) = cntTo p k + bitN p k := rfl
    rw [e]
    omega
theorem topTo_range (p : Int) : ∀ k : Nat, -1 ≤ topTo p k ∧ topTo p k < k
  | 0 => by simp [topTo]
  | k + 1 => by
    have h1 := topTo_range p k
    unfold topTo
    split <;> omega
theorem topI_range (p : Int) : -1 ≤ topI p ∧ topI p ≤ 7 := by
  unfold topI
  split
  · have := topTo_range p 8; omega
  · omega
theorem topI_pend {p : Int} (h : ¬ topI p < 0) : pend p = true := by
  unfold topI at h
  cases hp : pend p
  · rw [hp] at h; simp at h
  · rfl

theorem wrap_small {x : Int} (h0 : -1000 ≤ x) (h1 : x ≤ 1000) : wrap64 x = x := by unfold wrap64; omega

end Go.Proofs.Ytmiokacihcpepaa.Irqs
