/-
  The plain mathematics of access rights (numbers of 0 .. 3 as sets of two bits); no statement about the program stands here. No condition.
-/
import Derived.Test.YtmiokacihcpepaaBase
namespace Go.Proofs.Ytmiokacihcpepaa.Rights
set_option maxRecDepth 100000
open Go.ChangeShapes Go.WideShapes Go.ChangeAt Go.RowKit

/-- Valid rights. -/
def rok (r : Int) : Bool := decide (0 ≤ r ∧ r ≤ 3)
/-- The one set contains the other. -/
def has (a b : Int) : Bool := bits .and .i64 a b == b
def both (a b : Int) : Int := if rok a = true ∧ rok b = true then bits .and .i64 a b else 0
def enough (a b : Int) : Bool := rok a && rok b && has a b
def need (b : Bool) : Int := if b then 2 else 1
def text (r : Int) : ByteArray := if r = 0 then ⟨#[45, 45]⟩ else if r = 1 then ⟨#[114, 45]⟩ else if r = 2 then ⟨#[45, 119]⟩ else if r = 3 then ⟨#[114, 119]⟩ else ⟨#[63]⟩

theorem rok_iff {r : Int} : rok r = true ↔ 0 ≤ r ∧ r ≤ 3 := by simp [rok]
theorem rok_false {r : Int} : rok r = false ↔ r < 0 ∨ 3 < r := by simp [rok]; omega
theorem rok_mk {r : Int} (h0 : 0 ≤ r) (h1 : r ≤ 3) : rok r = true := rok_iff.2 ⟨h0, h1⟩
theorem rok_four {r : Int} (h : rok r = true) : r = 0 ∨ r = 1 ∨ r = 2 ∨ r = 3 := by
  have := rok_iff.1 h; omega

theorem bv_andNot3 (a : BitVec 64) (h : a &&& ~~~(3#64) = 0#64) : a.toNat ≤ 3 := by
  have e : a = (a &&& 3#64) ||| (a &&& ~~~(3#64)) := by
    ext i hi
    simp only [BitVec.getElem_or, BitVec.getElem_and, BitVec.getElem_not]
    cases a[i] <;> cases (3#64)[i] <;> rfl
  rw [h, BitVec.or_zero] at e
  rw [e, BitVec.toNat_and]
  exact Nat.le_trans Nat.and_le_right (by decide)

/-- The program's test of valid rights. -/
theorem andNot3 {r : Int} (w : (Lit.int .i64 r).wf = true) : (bits .andNot .i64 r 3 == 0) = rok r := by
  by_cases h : rok r = true
  · rcases rok_four h with rfl | rfl | rfl | rfl <;> decide +kernel
  · have h' : rok r = false := by simpa using h
    have hr := rok_false.1 h'
    rw [h', beq_eq_false_iff_ne]
    intro h0
    have hlo : IntKind.i64.min = -9223372036854775808 := by decide
    have hhi : IntKind.i64.max = 9223372036854775807 := by decide
    simp [Lit.wf] at w
    have h1 : IntKind.i64.wrap ((BitVec.ofInt 64 r &&& ~~~(BitVec.ofInt 64 3)).toNat : Nat) = 0 := h0
    have hlt := (BitVec.ofInt 64 r &&& ~~~(BitVec.ofInt 64 3)).isLt
    rw [IntKind.wrap_i64] at h1
    have h2 : (BitVec.ofInt 64 r &&& ~~~(BitVec.ofInt 64 3)).toNat = 0 := by omega
    have h3 : BitVec.ofInt 64 r &&& ~~~(3#64) = 0#64 := BitVec.eq_of_toNat_eq (by rw [show (3#64 : BitVec 64) = BitVec.ofInt 64 3 by decide, h2]; rfl)
    have h4 := bv_andNot3 _ h3
    rw [BitVec.toNat_ofInt] at h4
    omega

theorem wf_both (a b : Int) : (Lit.int .i64 (both a b)).wf = true := by
  unfold both
  split
  · rename_i h
    rcases rok_four h.1 with rfl | rfl | rfl | rfl <;> rcases rok_four h.2 with rfl | rfl | rfl | rfl <;> decide +kernel
  · decide
theorem both_comm (a b : Int) : both a b = both b a := by
  by_cases h : rok a = true ∧ rok b = true
  · rcases rok_four h.1 with rfl | rfl | rfl | rfl <;> rcases rok_four h.2 with rfl | rfl | rfl | rfl <;> decide +kernel
  · have h' : ¬ (rok b = true ∧ rok a = true) := fun k => h ⟨k.2, k.1⟩
    unfold both; rw [if_neg h, if_neg h']
theorem enough_both (a b : Int) (h0 : both a b ≠ 0) : enough a (both a b) = true ∧ enough b (both a b) = true := by
  by_cases h : rok a = true ∧ rok b = true
  · rcases rok_four h.1 with rfl | rfl | rfl | rfl <;> rcases rok_four h.2 with rfl | rfl | rfl | rfl <;> decide +kernel
  · exact absurd (by unfold both; rw [if_neg h]) h0
theorem enough_32 : enough 3 2 = true := by decide +kernel

theorem order_laws {a b c : Int} (ha : 0 ≤ a ∧ a ≤ 3) (hb : 0 ≤ b ∧ b ≤ 3) (hc : 0 ≤ c ∧ c ≤ 3) :
    (enough a b = false ∨ enough b c = false ∨ enough a c = true) ∧ enough a a = true ∧ enough a (both a b) = true ∧ both (both a b) c = both a (both b c) ∧ both 3 a = a := by
  rcases rok_four (rok_iff.2 ha) with rfl | rfl | rfl | rfl <;> rcases rok_four (rok_iff.2 hb) with rfl | rfl | rfl | rfl <;> rcases rok_four (rok_iff.2 hc) with rfl | rfl | rfl | rfl <;> decide +kernel
end Go.Proofs.Ytmiokacihcpepaa.Rights
