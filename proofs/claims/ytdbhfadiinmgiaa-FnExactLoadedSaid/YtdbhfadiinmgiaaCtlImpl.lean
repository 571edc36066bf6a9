/-
  Control blocks: contracts of the project's trapsOk, postOk, faultFrom, CtlFaults, CtlOk, HasTrap and Posts. Conditions: ints of 64 bits.
-/
import Derived.Test.YtdbhfadiinmgiaaCtl2
namespace Go.Proofs.Ytdbhfadiinmgiaa.Ctls
set_option maxRecDepth 100000
open Go.ChangeShapes Go.WideShapes Go.ChangeAt Go.RowKit
open Go.Proofs.Ytdbhfadiinmgiaa.Base Go.Proofs.Ytdbhfadiinmgiaa.Mem Go.Proofs.Ytdbhfadiinmgiaa.Data Go.Proofs.Ytdbhfadiinmgiaa.Ints Go.Proofs.Ytdbhfadiinmgiaa.Slots
set_option linter.unusedVariables false
set_option linter.unusedSimpArgs false

theorem impl_postOk (n : Int) (w : World) :
    Calls Try.prog 133 #[.int .i64 n] w fun e w' => e = .returned (.bool (inB n 0 255)) ∧ w = w' := by
  have hv : inB n 0 255 = (decide (n ≥ 0) && decide (n ≤ 255)) := rfl
  cases h1 : decide (n ≥ 0)
  all_goals
    cases h2 : decide (n ≤ 255)
    all_goals
      rw [h1, h2] at hv
      simp only [Bool.and_false, Bool.and_true] at hv
      rw [hv]; clear hv
      go_enter Try.func133, Try.ntmps133
      go_wp2
      go_ret
      exact ⟨rfl, rfl⟩

/-- The faults that four tests give, in their order. -/
def faultsL (p q r s : Bool) : List Int :=
  (if p = true then [1] else []) ++ ((if q = true then [2] else []) ++ ((if r = true then [3] else []) ++ (if s = true then [4] else [])))
/-- The first fault at or behind the number f. -/
def nextF (p q r s : Bool) (f : Int) : Int :=
  if f = 1 then (if p = true then 1 else if q = true then 2 else if r = true then 3 else if s = true then 4 else 0)
  else if f = 2 then (if q = true then 2 else if r = true then 3 else if s = true then 4 else 0)
  else if f = 3 then (if r = true then 3 else if s = true then 4 else 0)
  else if f = 4 then (if s = true then 4 else 0) else 0
def p1 (s : CT) : Bool := !inB s.1 0 3
def p2 (s : CT) : Bool := !inB s.2.1 0 255
def p3 (s : CT) : Bool := (s.2.1 != 0) && !s.2.2
def p4 (s : CT) : Bool := (s.2.1 != 0) && (s.1 == 2)
/-- How many elements a slice has. -/
def sliceLen : Value → Nat
  | .slice _ n _ => n
  | _ => 0
def nx (s : CT) (f : Int) : Int := nextF (p1 s) (p2 s) (p3 s) (p4 s) f
theorem ctlF_is (s : CT) : ctlF s = faultsL (p1 s) (p2 s) (p3 s) (p4 s) := by
  unfold ctlF faultsL p1 p2 p3 p4
  congr 1
  · cases inB s.1 0 3 <;> simp
  · congr 1
    · cases inB s.2.1 0 255 <;> simp
    · congr 1
      · by_cases h : s.2.1 = 0 <;> cases s.2.2 <;> simp [h]
      · by_cases h : s.2.1 = 0 <;> by_cases h2 : s.1 = 2 <;> simp [h, h2]
/-- The k-th fault, or 0 behind the last one. -/
def kth (p q r s : Bool) (k : Nat) : Int := (faultsL p q r s)[k]?.getD 0
theorem kth_zero : ∀ p q r s : Bool, nextF p q r s 1 = kth p q r s 0 := by decide +kernel
theorem kth_in : ∀ p q r s : Bool, ∀ k : Fin 4, k.val < (faultsL p q r s).length → (kth p q r s k.val = 1 ∨ kth p q r s k.val = 2 ∨ kth p q r s k.val = 3 ∨ kth p q r s k.val = 4) ∧ nextF p q r s (kth p q r s k.val + 1) = kth p q r s (k.val + 1) ∧ faultsL p q r s = faultsL p q r s ∧ (faultsL p q r s).take (k.val + 1) = (faultsL p q r s).take k.val ++ [kth p q r s k.val] := by decide +kernel
theorem kth_out : ∀ p q r s : Bool, kth p q r s (faultsL p q r s).length = 0 := by decide +kernel
theorem faultsL_le : ∀ p q r s : Bool, (faultsL p q r s).length ≤ 4 := by decide +kernel
theorem ok_next : ∀ p q r s : Bool, ((faultsL p q r s).length == 0) = (nextF p q r s 1 == 0) := by decide +kernel
theorem ctlOk_is (s : CT) : ctlOk s = (nx s 1 == 0) := by unfold ctlOk nx; rw [ctlF_is]; exact ok_next _ _ _ _

theorem posts_lo {s : CT} {n : Int} (h : n < 0) : posts s n = false := by unfold posts; rw [inB_false.2 (.inl h), Bool.and_false, Bool.false_and]
theorem posts_hi {s : CT} {n : Int} (h : 7 < n) : posts s n = false := by unfold posts; rw [inB_false.2 (.inr h), Bool.and_false, Bool.false_and]

end Go.Proofs.Ytdbhfadiinmgiaa.Ctls
