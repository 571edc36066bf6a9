/-
  Exits: what chapter 13 computes, and the given model's ExitOk, FaultExit, CallExit, OutExit and ExitName; no statement about the project's code stands here. No condition.
-/
import Derived.Test.YteopkcndkcciaaaExitH
import Derived.Test.YteopkcndkcciaaaIn
import Derived.Test.YteopkcndkcciaaaVar
namespace Go.Proofs.Yteopkcndkcciaaa.Exits
set_option maxRecDepth 100000
open Go.ChangeShapes Go.WideShapes Go.ChangeAt Go.RowKit
open Go.Proofs.Yteopkcndkcciaaa.Base Go.Proofs.Yteopkcndkcciaaa.Mem Go.Proofs.Yteopkcndkcciaaa.Data
set_option linter.unusedVariables false
set_option linter.unusedSimpArgs false

def exitOk (s : QT) : Bool :=
  if s.1 = 0 ∨ s.1 = 4 then (s.2.1 == 0) && (!s.2.2.1) && (s.2.2.2 == 0)
  else if s.1 = 1 then inB s.2.1 0 3 && (s.2.2.2 == 0)
  else if s.1 = 2 ∨ s.1 = 3 then inB s.2.2.2 0 99 && (s.2.1 == 0) && (!s.2.2.1)
  else false
def exitNames : List ByteArray := [⟨#[110, 111, 110, 101]⟩, ⟨#[102, 97, 117, 108, 116]⟩, ⟨#[99, 97, 108, 108]⟩, ⟨#[111, 117, 116]⟩, ⟨#[104, 97, 108, 116]⟩]
def exitName (k : Int) : ByteArray := if inB k 0 4 then exitNames.getD k.toNat ⟨#[]⟩ else ⟨#[63]⟩
def ExitP (w : World) (s : QT) (e : Ending) (w' : World) : Prop := e = .returned (.agg #[.int .i64 s.1, .int .i64 s.2.1, .bool s.2.2.1, .int .i64 s.2.2.2]) ∧ Below w.heap.size w w'
theorem kind_cases (k : Int) : k = 0 ∨ k = 4 ∨ k = 1 ∨ k = 2 ∨ k = 3 ∨ ((k == 0) = false ∧ (k == 1) = false ∧ (k == 2) = false ∧ (k == 3) = false ∧ (k == 4) = false) := by
  simp only [beq_eq_false_iff_ne, ne_eq]
  omega
theorem exitOk_else {k p n : Int} {w : Bool} (h : (k == 0) = false ∧ (k == 1) = false ∧ (k == 2) = false ∧ (k == 3) = false ∧ (k == 4) = false) : exitOk (k, p, w, n) = false := by
  simp only [beq_eq_false_iff_ne, ne_eq] at h
  simp [exitOk, h]
theorem exitName_out {o : Int} (h : inB o 0 4 = false) : exitName o = ⟨#[63]⟩ := by unfold exitName; rw [h]; rfl

set_option maxHeartbeats 8000000 in
theorem spec_exitOk (k p : Int) (q : Bool) (n : Int) (w : World) :
    Calls Try.prog 66 #[.agg #[.int .i64 k, .int .i64 p, .bool q, .int .i64 n]] w fun e w' => e = .returned (.bool (exitOk (k, p, q, n))) ∧ Below w.heap.size w w' := by
  have K1 := Lib.hid (fun V : World => spec_in p 0 3 V)
  have K2 := Lib.hid (fun V : World => spec_in n 0 99 V)
  have HB := Lib.hid ((Below.refl w.heap.size w).alloc (Nat.le_refl _) (.cells #[.int .i64 k, .int .i64 p, .bool q, .int .i64 n] 31))
  rcases kind_cases k with rfl | rfl | rfl | rfl | rfl | h
  · by_cases hp : p = 0 <;> by_cases hn : n = 0 <;> cases q
    · subst hp
      subst hn
      have HV := Lib.hid (show exitOk (0, 0, false, 0) = true from by simp [exitOk])
      go_enter Try.func66, Try.ntmps66
      go_wp2_with fail
      go_ret
      exact ⟨by rw [HV.out]; rfl, HB.out⟩
    · subst hp
      subst hn
      have HV := Lib.hid (show exitOk (0, 0, true, 0) = false from by simp [exitOk])
      go_enter Try.func66, Try.ntmps66
      go_wp2_with fail
      go_ret
      exact ⟨by rw [HV.out]; rfl, HB.out⟩
    · subst hp
      have hn' : (n == 0) = false := by simpa using hn
      have HV := Lib.hid (show exitOk (0, 0, false, n) = false from by simp [exitOk, hn])
      go_enter Try.func66, Try.ntmps66
      go_wp2_with fail
      go_ret
      exact ⟨by rw [HV.out]; rfl, HB.out⟩
    · subst hp
      have hn' : (n == 0) = false := by simpa using hn
      have HV := Lib.hid (show exitOk (0, 0, true, n) = false from by simp [exitOk, hn])
      go_enter Try.func66, Try.ntmps66
      go_wp2_with fail
      go_ret
      exact ⟨by rw [HV.out]; rfl, HB.out⟩
    · have hp' : (p == 0) = false := by simpa using hp
      subst hn
      have HV := Lib.hid (show exitOk (0, p, false, 0) = false from by simp [exitOk, hp])
      go_enter Try.func66, Try.ntmps66
      go_wp2_with fail
      go_ret
      exact ⟨by rw [HV.out]; rfl, HB.out⟩
    · have hp' : (p == 0) = false := by simpa using hp
      subst hn
      have HV := Lib.hid (show exitOk (0, p, true, 0) = false from by simp [exitOk, hp])
      go_enter Try.func66, Try.ntmps66
      go_wp2_with fail
      go_ret
      exact ⟨by rw [HV.out]; rfl, HB.out⟩
    · have hp' : (p == 0) = false := by simpa using hp
      have hn' : (n == 0) = false := by simpa using hn
      have HV := Lib.hid (show exitOk (0, p, false, n) = false from by simp [exitOk, hp, hn])
      go_enter Try.func66, Try.ntmps66
      go_wp2_with fail
      go_ret
      exact ⟨by rw [HV.out]; rfl, HB.out⟩
    · have hp' : (p == 0) = false := by simpa using hp
      have hn' : (n == 0) = false := by simpa using hn
      have HV := Lib.hid (show exitOk (0, p, true, n) = false from by simp [exitOk, hp, hn])
      go_enter Try.func66, Try.ntmps66
      go_wp2_with fail
      go_ret
      exact ⟨by rw [HV.out]; rfl, HB.out⟩
  · by_cases hp : p = 0 <;> by_cases hn : n = 0 <;> cases q
    · subst hp
      subst hn
      have HV := Lib.hid (show exitOk (4, 0, false, 0) = true from by simp [exitOk])
      go_enter Try.func66, Try.ntmps66
      go_wp2_with fail
      go_ret
      exact ⟨by rw [HV.out]; rfl, HB.out⟩
    · subst hp
      subst hn
      have HV := Lib.hid (show exitOk (4, 0, true, 0) = false from by simp [exitOk])
      go_enter Try.func66, Try.ntmps66
      go_wp2_with fail
      go_ret
      exact ⟨by rw [HV.out]; rfl, HB.out⟩
    · subst hp
      have hn' : (n == 0) = false := by simpa using hn
      have HV := Lib.hid (show exitOk (4, 0, false, n) = false from by simp [exitOk, hn])
      go_enter Try.func66, Try.ntmps66
      go_wp2_with fail
      go_ret
      exact ⟨by rw [HV.out]; rfl, HB.out⟩
    · subst hp
      have hn' : (n == 0) = false := by simpa using hn
      have HV := Lib.hid (show exitOk (4, 0, true, n) = false from by simp [exitOk, hn])
      go_enter Try.func66, Try.ntmps66
      go_wp2_with fail
      go_ret
      exact ⟨by rw [HV.out]; rfl, HB.out⟩
    · have hp' : (p == 0) = false := by simpa using hp
      subst hn
      have HV := Lib.hid (show exitOk (4, p, false, 0) = false from by simp [exitOk, hp])
      go_enter Try.func66, Try.ntmps66
      go_wp2_with fail
      go_ret
      exact ⟨by rw [HV.out]; rfl, HB.out⟩
    · have hp' : (p == 0) = false := by simpa using hp
      subst hn
      have HV := Lib.hid (show exitOk (4, p, true, 0) = false from by simp [exitOk, hp])
      go_enter Try.func66, Try.ntmps66
      go_wp2_with fail
      go_ret
      exact ⟨by rw [HV.out]; rfl, HB.out⟩
    · have hp' : (p == 0) = false := by simpa using hp
      have hn' : (n == 0) = false := by simpa using hn
      have HV := Lib.hid (show exitOk (4, p, false, n) = false from by simp [exitOk, hp, hn])
      go_enter Try.func66, Try.ntmps66
      go_wp2_with fail
      go_ret
      exact ⟨by rw [HV.out]; rfl, HB.out⟩
    · have hp' : (p == 0) = false := by simpa using hp
      have hn' : (n == 0) = false := by simpa using hn
      have HV := Lib.hid (show exitOk (4, p, true, n) = false from by simp [exitOk, hp, hn])
      go_enter Try.func66, Try.ntmps66
      go_wp2_with fail
      go_ret
      exact ⟨by rw [HV.out]; rfl, HB.out⟩
  · have hv : exitOk (1, p, q, n) = (inB p 0 3 && (n == 0)) := rfl
    generalize inB p 0 3 = x at K1 hv
    by_cases hn : n = 0 <;> cases x
    · subst hn
      have HV := Lib.hid hv
      clear hv
      go_enter Try.func66, Try.ntmps66
      go_wp2_with fail
      refine (K1.out _).mono ?_
      rintro e w' ⟨rfl, rfl⟩
      go_wp2_with fail
      go_ret
      exact ⟨by rw [HV.out]; rfl, HB.out⟩
    · subst hn
      have HV := Lib.hid hv
      clear hv
      go_enter Try.func66, Try.ntmps66
      go_wp2_with fail
      refine (K1.out _).mono ?_
      rintro e w' ⟨rfl, rfl⟩
      go_wp2_with fail
      go_ret
      exact ⟨by rw [HV.out]; rfl, HB.out⟩
    · have hn' : (n == 0) = false := by simpa using hn
      rw [hn'] at hv
      have HV := Lib.hid hv
      clear hv
      go_enter Try.func66, Try.ntmps66
      go_wp2_with fail
      refine (K1.out _).mono ?_
      rintro e w' ⟨rfl, rfl⟩
      go_wp2_with fail
      go_ret
      exact ⟨by rw [HV.out]; rfl, HB.out⟩
    · have hn' : (n == 0) = false := by simpa using hn
      rw [hn'] at hv
      have HV := Lib.hid hv
      clear hv
      go_enter Try.func66, Try.ntmps66
      go_wp2_with fail
      refine (K1.out _).mono ?_
      rintro e w' ⟨rfl, rfl⟩
      go_wp2_with fail
      go_ret
      exact ⟨by rw [HV.out]; rfl, HB.out⟩
  · have hv : exitOk (2, p, q, n) = (inB n 0 99 && (p == 0) && (!q)) := rfl
    generalize inB n 0 99 = x at K2 hv
    by_cases hp : p = 0 <;> cases x <;> cases q
    · subst hp
      have HV := Lib.hid hv
      clear hv
      go_enter Try.func66, Try.ntmps66
      go_wp2_with fail
      refine (K2.out _).mono ?_
      rintro e w' ⟨rfl, rfl⟩
      go_wp2_with fail
      go_ret
      exact ⟨by rw [HV.out]; rfl, HB.out⟩
    · subst hp
      have HV := Lib.hid hv
      clear hv
      go_enter Try.func66, Try.ntmps66
      go_wp2_with fail
      refine (K2.out _).mono ?_
      rintro e w' ⟨rfl, rfl⟩
      go_wp2_with fail
      go_ret
      exact ⟨by rw [HV.out]; rfl, HB.out⟩
    · subst hp
      have HV := Lib.hid hv
      clear hv
      go_enter Try.func66, Try.ntmps66
      go_wp2_with fail
      refine (K2.out _).mono ?_
      rintro e w' ⟨rfl, rfl⟩
      go_wp2_with fail
      go_ret
      exact ⟨by rw [HV.out]; rfl, HB.out⟩
    · subst hp
      have HV := Lib.hid hv
      clear hv
      go_enter Try.func66, Try.ntmps66
      go_wp2_with fail
      refine (K2.out _).mono ?_
      rintro e w' ⟨rfl, rfl⟩
      go_wp2_with fail
      go_ret
      exact ⟨by rw [HV.out]; rfl, HB.out⟩
    · have hp' : (p == 0) = false := by simpa using hp
      rw [hp'] at hv
      have HV := Lib.hid hv
      clear hv
      go_enter Try.func66, Try.ntmps66
      go_wp2_with fail
      refine (K2.out _).mono ?_
      rintro e w' ⟨rfl, rfl⟩
      go_wp2_with fail
      go_ret
      exact ⟨by rw [HV.out]; rfl, HB.out⟩
    · have hp' : (p == 0) = false := by simpa using hp
      rw [hp'] at hv
      have HV := Lib.hid hv
      clear hv
      go_enter Try.func66, Try.ntmps66
      go_wp2_with fail
      refine (K2.out _).mono ?_
      rintro e w' ⟨rfl, rfl⟩
      go_wp2_with fail
      go_ret
      exact ⟨by rw [HV.out]; rfl, HB.out⟩
    · have hp' : (p == 0) = false := by simpa using hp
      rw [hp'] at hv
      have HV := Lib.hid hv
      clear hv
      go_enter Try.func66, Try.ntmps66
      go_wp2_with fail
      refine (K2.out _).mono ?_
      rintro e w' ⟨rfl, rfl⟩
      go_wp2_with fail
      go_ret
      exact ⟨by rw [HV.out]; rfl, HB.out⟩
    · have hp' : (p == 0) = false := by simpa using hp
      rw [hp'] at hv
      have HV := Lib.hid hv
      clear hv
      go_enter Try.func66, Try.ntmps66
      go_wp2_with fail
      refine (K2.out _).mono ?_
      rintro e w' ⟨rfl, rfl⟩
      go_wp2_with fail
      go_ret
      exact ⟨by rw [HV.out]; rfl, HB.out⟩
  · have hv : exitOk (3, p, q, n) = (inB n 0 99 && (p == 0) && (!q)) := rfl
    generalize inB n 0 99 = x at K2 hv
    by_cases hp : p = 0 <;> cases x <;> cases q
    · subst hp
      have HV := Lib.hid hv
      clear hv
      go_enter Try.func66, Try.ntmps66
      go_wp2_with fail
      refine (K2.out _).mono ?_
      rintro e w' ⟨rfl, rfl⟩
      go_wp2_with fail
      go_ret
      exact ⟨by rw [HV.out]; rfl, HB.out⟩
    · subst hp
      have HV := Lib.hid hv
      clear hv
      go_enter Try.func66, Try.ntmps66
      go_wp2_with fail
      refine (K2.out _).mono ?_
      rintro e w' ⟨rfl, rfl⟩
      go_wp2_with fail
      go_ret
      exact ⟨by rw [HV.out]; rfl, HB.out⟩
    · subst hp
      have HV := Lib.hid hv
      clear hv
      go_enter Try.func66, Try.ntmps66
      go_wp2_with fail
      refine (K2.out _).mono ?_
      rintro e w' ⟨rfl, rfl⟩
      go_wp2_with fail
      go_ret
      exact ⟨by rw [HV.out]; rfl, HB.out⟩
    · subst hp
      have HV := Lib.hid hv
      clear hv
      go_enter Try.func66, Try.ntmps66
      go_wp2_with fail
      refine (K2.out _).mono ?_
      rintro e w' ⟨rfl, rfl⟩
      go_wp2_with fail
      go_ret
      exact ⟨by rw [HV.out]; rfl, HB.out⟩
    · have hp' : (p == 0) = false := by simpa using hp
      rw [hp'] at hv
      have HV := Lib.hid hv
      clear hv
      go_enter Try.func66, Try.ntmps66
      go_wp2_with fail
      refine (K2.out _).mono ?_
      rintro e w' ⟨rfl, rfl⟩
      go_wp2_with fail
      go_ret
      exact ⟨by rw [HV.out]; rfl, HB.out⟩
    · have hp' : (p == 0) = false := by simpa using hp
      rw [hp'] at hv
      have HV := Lib.hid hv
      clear hv
      go_enter Try.func66, Try.ntmps66
      go_wp2_with fail
      refine (K2.out _).mono ?_
      rintro e w' ⟨rfl, rfl⟩
      go_wp2_with fail
      go_ret
      exact ⟨by rw [HV.out]; rfl, HB.out⟩
    · have hp' : (p == 0) = false := by simpa using hp
      rw [hp'] at hv
      have HV := Lib.hid hv
      clear hv
      go_enter Try.func66, Try.ntmps66
      go_wp2_with fail
      refine (K2.out _).mono ?_
      rintro e w' ⟨rfl, rfl⟩
      go_wp2_with fail
      go_ret
      exact ⟨by rw [HV.out]; rfl, HB.out⟩
    · have hp' : (p == 0) = false := by simpa using hp
      rw [hp'] at hv
      have HV := Lib.hid hv
      clear hv
      go_enter Try.func66, Try.ntmps66
      go_wp2_with fail
      refine (K2.out _).mono ?_
      rintro e w' ⟨rfl, rfl⟩
      go_wp2_with fail
      go_ret
      exact ⟨by rw [HV.out]; rfl, HB.out⟩
  · have HV := Lib.hid (exitOk_else (p := p) (n := n) (w := q) h)
    obtain ⟨h0, h1, h2, h3, h4⟩ := h
    go_enter Try.func66, Try.ntmps66
    go_wp2_with fail
    go_ret
    exact ⟨by rw [HV.out]; rfl, HB.out⟩

end Go.Proofs.Yteopkcndkcciaaa.Exits
