/-
  Control blocks: contracts of the project's trapsOk, postOk, faultFrom, CtlFaults, CtlOk, HasTrap and Posts. Conditions: ints of 64 bits.
-/
import Derived.Test.YtcdkagpmepdggaaDoorCtl2
namespace Go.Proofs.YtcdkagpmepdggaaDoor.Ctls
set_option maxRecDepth 100000
open Go.ChangeShapes Go.WideShapes Go.ChangeAt Go.RowKit
open Go.Proofs.YtcdkagpmepdggaaDoor.Base Go.Proofs.YtcdkagpmepdggaaDoor.Mem Go.Proofs.YtcdkagpmepdggaaDoor.Data Go.Proofs.YtcdkagpmepdggaaDoor.Ints Go.Proofs.YtcdkagpmepdggaaDoor.Slots
set_option linter.unusedVariables false
set_option linter.unusedSimpArgs false

theorem impl_trapsOk (n : Int) (w : World) :
    Calls Tryd.prog 26 #[.int .i64 n] w fun e w' => e = .returned (.bool (inB n 0 3)) ∧ w = w' := by
  have hv : inB n 0 3 = (decide (n ≥ 0) && decide (n ≤ 3)) := rfl
  cases h1 : decide (n ≥ 0)
  all_goals
    cases h2 : decide (n ≤ 3)
    all_goals
      rw [h1, h2] at hv
      simp only [Bool.and_false, Bool.and_true] at hv
      rw [hv]; clear hv
      go_enter Tryd.func26, Tryd.ntmps26
      go_wp2
      go_ret
      exact ⟨rfl, rfl⟩

theorem impl_postOk (n : Int) (w : World) :
    Calls Tryd.prog 31 #[.int .i64 n] w fun e w' => e = .returned (.bool (inB n 0 255)) ∧ w = w' := by
  have hv : inB n 0 255 = (decide (n ≥ 0) && decide (n ≤ 255)) := rfl
  cases h1 : decide (n ≥ 0)
  all_goals
    cases h2 : decide (n ≤ 255)
    all_goals
      rw [h1, h2] at hv
      simp only [Bool.and_false, Bool.and_true] at hv
      rw [hv]; clear hv
      go_enter Tryd.func31, Tryd.ntmps31
      go_wp2
      go_ret
      exact ⟨rfl, rfl⟩

/-- The faults that four tests give, in their order. -/
def faultsL (p q r s : Bool) : List Int :=
  (if p = true then [1] else []) ++ ((if q = true then [2] else []) ++ ((if r = true then [3] else []) ++ (if s = true then [4] else [])))
/-- The first fault at or behind the number f. -/
def nextF (p q r s : Bool) (f : Int) : Int :=
  if f = 1 then (if p = true then 1 else if q = true then 2 else if r = true then 3 else if s = true then 4 else 0)
  else if f = 2 then (if q = true then 2 else if r = true then 3 else if s = true then 4 else 0)
  else if f = 3 then (if r = true then 3 else if s = true then 4 else 0)
  else if f = 4 then (if s = true then 4 else 0) else 0
def p1 (s : CT) : Bool := !inB s.1 0 3
def p2 (s : CT) : Bool := !inB s.2.1 0 255
def p3 (s : CT) : Bool := (s.2.1 != 0) && !s.2.2
def p4 (s : CT) : Bool := (s.2.1 != 0) && (s.1 == 2)
/-- How many elements a slice has. -/
def sliceLen : Value → Nat
  | .slice _ n _ => n
  | _ => 0
def nx (s : CT) (f : Int) : Int := nextF (p1 s) (p2 s) (p3 s) (p4 s) f
theorem ctlF_is (s : CT) : ctlF s = faultsL (p1 s) (p2 s) (p3 s) (p4 s) := by
  unfold ctlF faultsL p1 p2 p3 p4
  congr 1
  · cases inB s.1 0 3 <;> simp
  · congr 1
    · cases inB s.2.1 0 255 <;> simp
    · congr 1
      · by_cases h : s.2.1 = 0 <;> cases s.2.2 <;> simp [h]
      · by_cases h : s.2.1 = 0 <;> by_cases h2 : s.1 = 2 <;> simp [h, h2]
/-- The k-th fault, or 0 behind the last one. -/
def kth (p q r s : Bool) (k : Nat) : Int := (faultsL p q r s)[k]?.getD 0
theorem kth_zero : ∀ p q r s : Bool, nextF p q r s 1 = kth p q r s 0 := by decide +kernel
theorem kth_in : ∀ p q r s : Bool, ∀ k : Fin 4, k.val < (faultsL p q r s).length → (kth p q r s k.val = 1 ∨ kth p q r s k.val = 2 ∨ kth p q r s k.val = 3 ∨ kth p q r s k.val = 4) ∧ nextF p q r s (kth p q r s k.val + 1) = kth p q r s (k.val + 1) ∧ faultsL p q r s = faultsL p q r s ∧ (faultsL p q r s).take (k.val + 1) = (faultsL p q r s).take k.val ++ [kth p q r s k.val] := by decide +kernel
theorem kth_out : ∀ p q r s : Bool, kth p q r s (faultsL p q r s).length = 0 := by decide +kernel
theorem faultsL_le : ∀ p q r s : Bool, (faultsL p q r s).length ≤ 4 := by decide +kernel
theorem ok_next : ∀ p q r s : Bool, ((faultsL p q r s).length == 0) = (nextF p q r s 1 == 0) := by decide +kernel
theorem ctlOk_is (s : CT) : ctlOk s = (nx s 1 == 0) := by unfold ctlOk nx; rw [ctlF_is]; exact ok_next _ _ _ _

set_option maxRecDepth 100000 in
set_option maxHeartbeats 8000000 in
theorem impl_faultFrom (a b f : Int) (o : Bool) (w : World) (hf : f = 1 ∨ f = 2 ∨ f = 3 ∨ f = 4 ∨ f = 5) :
    Calls Tryd.prog 22 #[.agg #[.int .i64 a, .int .i64 b, .bool o], .int .i64 f] w fun e w' => e = .returned (.int .i64 (nx (a, b, o) f)) ∧ Below w.heap.size w w' := by
  have hb0 : Below w.heap.size w (w.alloc (.cells #[.int .i64 a, .int .i64 b, .bool o] 25)) := (Below.refl _ _).alloc (Nat.le_refl _) _
  have t0 := Var.new w [.int .i64 a, .int .i64 b, .bool o] 25
  change Var (w.alloc (.cells #[.int .i64 a, .int .i64 b, .bool o] 25)) w.heap.size [.int .i64 a, .int .i64 b, .bool o] at t0
  have K1 := fun V : World => impl_trapsOk a V
  have K2 := fun V : World => impl_postOk b V
  have hv : nx (a, b, o) f = nextF (!inB a 0 3) (!inB b 0 255) ((b != 0) && !o) ((b != 0) && (a == 2)) f := rfl
  generalize inB a 0 3 = x at K1 hv
  generalize inB b 0 255 = y at K2 hv
  rcases hf with rfl | rfl | rfl | rfl | rfl
  · skip
    cases x
    · skip
      have HV := Lib.hid (show nx (a, b, o) 1 = 1 from by rw [hv]; simp [nextF])
      clear hv
      go_enter Tryd.func22, Tryd.ntmps22
      go_wp2_with fail
      generalize w.alloc (.cells #[.int .i64 a, .int .i64 b, .bool o] 25) = W0 at t0 hb0 ⊢
      have v0 := t0.cell 0 (v := .int .i64 a) rfl
      have v1 := t0.cell 1 (v := .int .i64 b) rfl
      have v2 := t0.cell 2 (v := .bool o) rfl
      refine (K1 _).mono ?_
      rintro e w' ⟨rfl, rfl⟩
      go_wp2_with fail
      go_ret
      exact ⟨by rw [HV.out]; rfl, hb0⟩
    · skip
      cases y
      · skip
        have HV := Lib.hid (show nx (a, b, o) 1 = 2 from by rw [hv]; simp [nextF])
        clear hv
        go_enter Tryd.func22, Tryd.ntmps22
        go_wp2_with fail
        generalize w.alloc (.cells #[.int .i64 a, .int .i64 b, .bool o] 25) = W0 at t0 hb0 ⊢
        have v0 := t0.cell 0 (v := .int .i64 a) rfl
        have v1 := t0.cell 1 (v := .int .i64 b) rfl
        have v2 := t0.cell 2 (v := .bool o) rfl
        refine (K1 _).mono ?_
        rintro e w' ⟨rfl, rfl⟩
        go_wp2_with fail
        refine (K2 _).mono ?_
        rintro e w' ⟨rfl, rfl⟩
        go_wp2_with fail
        go_ret
        exact ⟨by rw [HV.out]; rfl, hb0⟩
      · skip
        by_cases hb2 : b = 0
        · subst hb2
          have HV := Lib.hid (show nx (a, 0, o) 1 = 0 from by rw [hv]; simp [nextF])
          clear hv
          go_enter Tryd.func22, Tryd.ntmps22
          go_wp2_with fail
          generalize w.alloc (.cells #[.int .i64 a, .int .i64 0, .bool o] 25) = W0 at t0 hb0 ⊢
          have v0 := t0.cell 0 (v := .int .i64 a) rfl
          have v1 := t0.cell 1 (v := .int .i64 0) rfl
          have v2 := t0.cell 2 (v := .bool o) rfl
          refine (K1 _).mono ?_
          rintro e w' ⟨rfl, rfl⟩
          go_wp2_with fail
          refine (K2 _).mono ?_
          rintro e w' ⟨rfl, rfl⟩
          go_wp2_with fail
          go_ret
          exact ⟨by rw [HV.out]; rfl, hb0⟩
        · have hbn : (b != 0) = true := by simpa using hb2
          cases o
          · skip
            have HV := Lib.hid (show nx (a, b, false) 1 = 3 from by rw [hv]; simp [nextF, hbn])
            clear hv
            go_enter Tryd.func22, Tryd.ntmps22
            go_wp2_with fail
            generalize w.alloc (.cells #[.int .i64 a, .int .i64 b, .bool false] 25) = W0 at t0 hb0 ⊢
            have v0 := t0.cell 0 (v := .int .i64 a) rfl
            have v1 := t0.cell 1 (v := .int .i64 b) rfl
            have v2 := t0.cell 2 (v := .bool false) rfl
            refine (K1 _).mono ?_
            rintro e w' ⟨rfl, rfl⟩
            go_wp2_with fail
            refine (K2 _).mono ?_
            rintro e w' ⟨rfl, rfl⟩
            go_wp2_with fail
            go_ret
            exact ⟨by rw [HV.out]; rfl, hb0⟩
          · skip
            by_cases ha2 : a = 2
            · subst ha2
              have HV := Lib.hid (show nx (2, b, true) 1 = 4 from by rw [hv]; simp [nextF, hbn])
              clear hv
              go_enter Tryd.func22, Tryd.ntmps22
              go_wp2_with fail
              generalize w.alloc (.cells #[.int .i64 2, .int .i64 b, .bool true] 25) = W0 at t0 hb0 ⊢
              have v0 := t0.cell 0 (v := .int .i64 2) rfl
              have v1 := t0.cell 1 (v := .int .i64 b) rfl
              have v2 := t0.cell 2 (v := .bool true) rfl
              refine (K1 _).mono ?_
              rintro e w' ⟨rfl, rfl⟩
              go_wp2_with fail
              refine (K2 _).mono ?_
              rintro e w' ⟨rfl, rfl⟩
              go_wp2_with fail
              go_ret
              exact ⟨by rw [HV.out]; rfl, hb0⟩
            · have han : (a == 2) = false := by simpa using ha2
              have HV := Lib.hid (show nx (a, b, true) 1 = 0 from by rw [hv]; simp [nextF, hbn, han])
              clear hv
              go_enter Tryd.func22, Tryd.ntmps22
              go_wp2_with fail
              generalize w.alloc (.cells #[.int .i64 a, .int .i64 b, .bool true] 25) = W0 at t0 hb0 ⊢
              have v0 := t0.cell 0 (v := .int .i64 a) rfl
              have v1 := t0.cell 1 (v := .int .i64 b) rfl
              have v2 := t0.cell 2 (v := .bool true) rfl
              refine (K1 _).mono ?_
              rintro e w' ⟨rfl, rfl⟩
              go_wp2_with fail
              refine (K2 _).mono ?_
              rintro e w' ⟨rfl, rfl⟩
              go_wp2_with fail
              go_ret
              exact ⟨by rw [HV.out]; rfl, hb0⟩
  · skip
    cases y
    · skip
      have HV := Lib.hid (show nx (a, b, o) 2 = 2 from by rw [hv]; simp [nextF])
      clear hv
      go_enter Tryd.func22, Tryd.ntmps22
      go_wp2_with fail
      generalize w.alloc (.cells #[.int .i64 a, .int .i64 b, .bool o] 25) = W0 at t0 hb0 ⊢
      have v0 := t0.cell 0 (v := .int .i64 a) rfl
      have v1 := t0.cell 1 (v := .int .i64 b) rfl
      have v2 := t0.cell 2 (v := .bool o) rfl
      refine (K2 _).mono ?_
      rintro e w' ⟨rfl, rfl⟩
      go_wp2_with fail
      go_ret
      exact ⟨by rw [HV.out]; rfl, hb0⟩
    · skip
      by_cases hb2 : b = 0
      · subst hb2
        have HV := Lib.hid (show nx (a, 0, o) 2 = 0 from by rw [hv]; simp [nextF])
        clear hv
        go_enter Tryd.func22, Tryd.ntmps22
        go_wp2_with fail
        generalize w.alloc (.cells #[.int .i64 a, .int .i64 0, .bool o] 25) = W0 at t0 hb0 ⊢
        have v0 := t0.cell 0 (v := .int .i64 a) rfl
        have v1 := t0.cell 1 (v := .int .i64 0) rfl
        have v2 := t0.cell 2 (v := .bool o) rfl
        refine (K2 _).mono ?_
        rintro e w' ⟨rfl, rfl⟩
        go_wp2_with fail
        go_ret
        exact ⟨by rw [HV.out]; rfl, hb0⟩
      · have hbn : (b != 0) = true := by simpa using hb2
        cases o
        · skip
          have HV := Lib.hid (show nx (a, b, false) 2 = 3 from by rw [hv]; simp [nextF, hbn])
          clear hv
          go_enter Tryd.func22, Tryd.ntmps22
          go_wp2_with fail
          generalize w.alloc (.cells #[.int .i64 a, .int .i64 b, .bool false] 25) = W0 at t0 hb0 ⊢
          have v0 := t0.cell 0 (v := .int .i64 a) rfl
          have v1 := t0.cell 1 (v := .int .i64 b) rfl
          have v2 := t0.cell 2 (v := .bool false) rfl
          refine (K2 _).mono ?_
          rintro e w' ⟨rfl, rfl⟩
          go_wp2_with fail
          go_ret
          exact ⟨by rw [HV.out]; rfl, hb0⟩
        · skip
          by_cases ha2 : a = 2
          · subst ha2
            have HV := Lib.hid (show nx (2, b, true) 2 = 4 from by rw [hv]; simp [nextF, hbn])
            clear hv
            go_enter Tryd.func22, Tryd.ntmps22
            go_wp2_with fail
            generalize w.alloc (.cells #[.int .i64 2, .int .i64 b, .bool true] 25) = W0 at t0 hb0 ⊢
            have v0 := t0.cell 0 (v := .int .i64 2) rfl
            have v1 := t0.cell 1 (v := .int .i64 b) rfl
            have v2 := t0.cell 2 (v := .bool true) rfl
            refine (K2 _).mono ?_
            rintro e w' ⟨rfl, rfl⟩
            go_wp2_with fail
            go_ret
            exact ⟨by rw [HV.out]; rfl, hb0⟩
          · have han : (a == 2) = false := by simpa using ha2
            have HV := Lib.hid (show nx (a, b, true) 2 = 0 from by rw [hv]; simp [nextF, hbn, han])
            clear hv
            go_enter Tryd.func22, Tryd.ntmps22
            go_wp2_with fail
            generalize w.alloc (.cells #[.int .i64 a, .int .i64 b, .bool true] 25) = W0 at t0 hb0 ⊢
            have v0 := t0.cell 0 (v := .int .i64 a) rfl
            have v1 := t0.cell 1 (v := .int .i64 b) rfl
            have v2 := t0.cell 2 (v := .bool true) rfl
            refine (K2 _).mono ?_
            rintro e w' ⟨rfl, rfl⟩
            go_wp2_with fail
            go_ret
            exact ⟨by rw [HV.out]; rfl, hb0⟩
  · skip
    by_cases hb2 : b = 0
    · subst hb2
      have HV := Lib.hid (show nx (a, 0, o) 3 = 0 from by rw [hv]; simp [nextF])
      clear hv
      go_enter Tryd.func22, Tryd.ntmps22
      go_wp2_with fail
      generalize w.alloc (.cells #[.int .i64 a, .int .i64 0, .bool o] 25) = W0 at t0 hb0 ⊢
      have v0 := t0.cell 0 (v := .int .i64 a) rfl
      have v1 := t0.cell 1 (v := .int .i64 0) rfl
      have v2 := t0.cell 2 (v := .bool o) rfl
      go_ret
      exact ⟨by rw [HV.out]; rfl, hb0⟩
    · have hbn : (b != 0) = true := by simpa using hb2
      cases o
      · skip
        have HV := Lib.hid (show nx (a, b, false) 3 = 3 from by rw [hv]; simp [nextF, hbn])
        clear hv
        go_enter Tryd.func22, Tryd.ntmps22
        go_wp2_with fail
        generalize w.alloc (.cells #[.int .i64 a, .int .i64 b, .bool false] 25) = W0 at t0 hb0 ⊢
        have v0 := t0.cell 0 (v := .int .i64 a) rfl
        have v1 := t0.cell 1 (v := .int .i64 b) rfl
        have v2 := t0.cell 2 (v := .bool false) rfl
        go_ret
        exact ⟨by rw [HV.out]; rfl, hb0⟩
      · skip
        by_cases ha2 : a = 2
        · subst ha2
          have HV := Lib.hid (show nx (2, b, true) 3 = 4 from by rw [hv]; simp [nextF, hbn])
          clear hv
          go_enter Tryd.func22, Tryd.ntmps22
          go_wp2_with fail
          generalize w.alloc (.cells #[.int .i64 2, .int .i64 b, .bool true] 25) = W0 at t0 hb0 ⊢
          have v0 := t0.cell 0 (v := .int .i64 2) rfl
          have v1 := t0.cell 1 (v := .int .i64 b) rfl
          have v2 := t0.cell 2 (v := .bool true) rfl
          go_ret
          exact ⟨by rw [HV.out]; rfl, hb0⟩
        · have han : (a == 2) = false := by simpa using ha2
          have HV := Lib.hid (show nx (a, b, true) 3 = 0 from by rw [hv]; simp [nextF, hbn, han])
          clear hv
          go_enter Tryd.func22, Tryd.ntmps22
          go_wp2_with fail
          generalize w.alloc (.cells #[.int .i64 a, .int .i64 b, .bool true] 25) = W0 at t0 hb0 ⊢
          have v0 := t0.cell 0 (v := .int .i64 a) rfl
          have v1 := t0.cell 1 (v := .int .i64 b) rfl
          have v2 := t0.cell 2 (v := .bool true) rfl
          go_ret
          exact ⟨by rw [HV.out]; rfl, hb0⟩
  · skip
    by_cases hb2 : b = 0
    · subst hb2
      have HV := Lib.hid (show nx (a, 0, o) 4 = 0 from by rw [hv]; simp [nextF])
      clear hv
      go_enter Tryd.func22, Tryd.ntmps22
      go_wp2_with fail
      generalize w.alloc (.cells #[.int .i64 a, .int .i64 0, .bool o] 25) = W0 at t0 hb0 ⊢
      have v0 := t0.cell 0 (v := .int .i64 a) rfl
      have v1 := t0.cell 1 (v := .int .i64 0) rfl
      have v2 := t0.cell 2 (v := .bool o) rfl
      go_ret
      exact ⟨by rw [HV.out]; rfl, hb0⟩
    · have hbn : (b != 0) = true := by simpa using hb2
      by_cases ha2 : a = 2
      · subst ha2
        have HV := Lib.hid (show nx (2, b, o) 4 = 4 from by rw [hv]; simp [nextF, hbn])
        clear hv
        go_enter Tryd.func22, Tryd.ntmps22
        go_wp2_with fail
        generalize w.alloc (.cells #[.int .i64 2, .int .i64 b, .bool o] 25) = W0 at t0 hb0 ⊢
        have v0 := t0.cell 0 (v := .int .i64 2) rfl
        have v1 := t0.cell 1 (v := .int .i64 b) rfl
        have v2 := t0.cell 2 (v := .bool o) rfl
        go_ret
        exact ⟨by rw [HV.out]; rfl, hb0⟩
      · have han : (a == 2) = false := by simpa using ha2
        have HV := Lib.hid (show nx (a, b, o) 4 = 0 from by rw [hv]; simp [nextF, hbn, han])
        clear hv
        go_enter Tryd.func22, Tryd.ntmps22
        go_wp2_with fail
        generalize w.alloc (.cells #[.int .i64 a, .int .i64 b, .bool o] 25) = W0 at t0 hb0 ⊢
        have v0 := t0.cell 0 (v := .int .i64 a) rfl
        have v1 := t0.cell 1 (v := .int .i64 b) rfl
        have v2 := t0.cell 2 (v := .bool o) rfl
        go_ret
        exact ⟨by rw [HV.out]; rfl, hb0⟩
  · skip
    have HV := Lib.hid (show nx (a, b, o) 5 = 0 from by rw [hv]; simp [nextF])
    clear hv
    go_enter Tryd.func22, Tryd.ntmps22
    go_wp2_with fail
    generalize w.alloc (.cells #[.int .i64 a, .int .i64 b, .bool o] 25) = W0 at t0 hb0 ⊢
    have v0 := t0.cell 0 (v := .int .i64 a) rfl
    have v1 := t0.cell 1 (v := .int .i64 b) rfl
    have v2 := t0.cell 2 (v := .bool o) rfl
    go_ret
    exact ⟨by rw [HV.out]; rfl, hb0⟩

set_option maxRecDepth 100000 in
set_option maxHeartbeats 8000000 in
theorem impl_ctlF (a b : Int) (o : Bool) (w : World) (ws : wfC (a, b, o)) :
    Calls Tryd.prog 7 #[.agg #[.int .i64 a, .int .i64 b, .bool o]] w (UsesPost w (ctlF (a, b, o))) := by
  obtain ⟨i0, hi0, hz0, hz1, hz2⟩ := info_parts Tryd.infoNum
  clear ws
  have hb0 : Below w.heap.size w (w.alloc (.cells #[.int .i64 a, .int .i64 b, .bool o] 25)) := (Below.refl _ _).alloc (Nat.le_refl _) _
  have t0 := Var.new w [.int .i64 a, .int .i64 b, .bool o] 25
  change Var (w.alloc (.cells #[.int .i64 a, .int .i64 b, .bool o] 25)) w.heap.size [.int .i64 a, .int .i64 b, .bool o] at t0
  have hz : w.heap.size + 1 ≤ (w.alloc (.cells #[.int .i64 a, .int .i64 b, .bool o] 25)).heap.size := by simp
  have hq : w.heap.size + 1 = (w.alloc (.cells #[.int .i64 a, .int .i64 b, .bool o] 25)).heap.size := by simp
  have HQ := Lib.hid hq
  clear hq
  have HF := Lib.hid (fun (f : Int) (hf : f = 1 ∨ f = 2 ∨ f = 3 ∨ f = 4 ∨ f = 5) (V : World) => impl_faultFrom a b f o V hf)
  have HC := Lib.hid (ctlF_is (a, b, o))
  have hx : ∀ f, nx (a, b, o) f = nextF (p1 (a, b, o)) (p2 (a, b, o)) (p3 (a, b, o)) (p4 (a, b, o)) f := fun f => rfl
  generalize p1 (a, b, o) = p at hx HC
  generalize p2 (a, b, o) = q at hx HC
  generalize p3 (a, b, o) = r at hx HC
  generalize p4 (a, b, o) = s at hx HC
  have h1 : nx (a, b, o) 1 = kth p q r s 0 := (hx 1).trans (kth_zero p q r s)
  have hin : ∀ k : Nat, k < (faultsL p q r s).length → (kth p q r s k = 1 ∨ kth p q r s k = 2 ∨ kth p q r s k = 3 ∨ kth p q r s k = 4) ∧ nx (a, b, o) (kth p q r s k + 1) = kth p q r s (k + 1) ∧ (faultsL p q r s).take (k + 1) = (faultsL p q r s).take k ++ [kth p q r s k] := fun k hk => by
    have hle := faultsL_le p q r s
    have := kth_in p q r s ⟨k, by omega⟩ hk
    exact ⟨this.1, (hx _).trans this.2.1, this.2.2.2⟩
  have hout := kth_out p q r s
  have hlen := faultsL_le p q r s
  generalize faultsL p q r s = L at HC hin hout hlen
  generalize hg : kth p q r s = g at h1 hin hout
  clear hx hg
  have HIN := Lib.hid (And.intro h1 (And.intro hin (And.intro hout hlen)))
  clear h1 hin hout hlen
  go_enter Tryd.func7, Tryd.ntmps7
  go_wp2_with fail
  rw [HQ.out]
  clear HQ
  generalize w.alloc (.cells #[.int .i64 a, .int .i64 b, .bool o] 25) = W0 at t0 hb0 hz ⊢
  have HO0 := Lib.hid (World.ownsRow_made (e := 3) (size := 1) W0 #[] 0 (Nat.le_refl _) (Nat.zero_le _) rfl : (W0.alloc (.cells #[] 3)).ownsRow W0.heap.size 3 1 (.slice (some ⟨W0.heap.size, 0, none⟩) 0 0) 0 (ncells []))
  have HB0 := Lib.hid (show Below W0.heap.size W0 (W0.alloc (.cells #[] 3)) from (Below.refl _ _).alloc (Nat.le_refl _) _)
  generalize W0.alloc (.cells #[] 3) = w0 at HO0 HB0 ⊢
  have v0 := (Var.below t0 HB0.out hz).cell 0 (v := .int .i64 a) rfl
  have v1 := (Var.below t0 HB0.out hz).cell 1 (v := .int .i64 b) rfl
  have v2 := (Var.below t0 HB0.out hz).cell 2 (v := .bool o) rfl
  have hcall := HF.out 1 (.inl rfl) w0
  rw [HIN.out.1] at hcall
  have HCALL := Lib.hid hcall
  clear hcall
  go_wp2_with fail
  refine HCALL.out.mono ?_
  rintro e w1 ⟨rfl, hb1⟩
  have HB1 := Lib.hid (btr HB0.out hb1)
  have HO1 := Lib.hid (HO0.out.kept (Slots.grown_of_below hb1 none) (Or.inr (by simp [Value.ownBlock])))
  clear v0 v1 v2 hb1 HCALL HB0 HO0
  go_wp2_with fail
  go_loopw [3, 4] (fun v i wr => ∃ (k : Nat), k ≤ L.length ∧ i = .int .i64 (g k) ∧ wr.ownsRow W0.heap.size 3 1 v k (ncells (L.take k)) ∧ Below W0.heap.size W0 wr) (fun v _ _ => L.length - sliceLen v)
  case atStart => exact ⟨0, Nat.zero_le _, rfl, HO1.out, HB1.out⟩
  case round =>
    obtain ⟨k, hk, rfl, hown, hb⟩ := hrel
    by_cases hlt : k < L.length
    · obtain ⟨hg4, hnx, htk⟩ := HIN.out.2.1 k hlt
      have hk4 := HIN.out.2.2.2
      have hne : (g k != 0) = true := by rcases hg4 with h | h | h | h <;> rw [h] <;> rfl
      have hwr : IntKind.i64.wrap (g k + 1) = g k + 1 := by rcases hg4 with h | h | h | h <;> rw [h] <;> rfl
      have hcall := fun V : World => HF.out (g k + 1) (by rcases hg4 with h | h | h | h <;> rw [h] <;> simp) V
      rw [hnx] at hcall
      have HCALL := Lib.hid hcall
      have HT := Lib.hid htk
      obtain ⟨gk, hgk⟩ : ∃ z, z = g k := ⟨_, rfl⟩
      rw [← hgk] at HCALL HT hne hwr ⊢
      have hbs := hb.size
      have HO := Lib.hid hown
      have HB := Lib.hid hb
      have hvf : ∃ A n c, u3 = .slice A n c ∧ n = k := by
        rcases Go.Joins.ownsRow_forms hown with ⟨rfl, h0⟩ | ⟨g', cap, rfl⟩
        · exact ⟨none, 0, 0, rfl, h0.symm⟩
        · exact ⟨_, k, cap, rfl, rfl⟩
      have HVF := Lib.hid hvf
      clear hcall hnx htk hg4 hown hb hgk hvf
      go_wp2_with (at_builtin; refine wpList_append_lies _ rfl _ _ 27 rfl W0.heap.size 3 i0 _ 1 8 Tryd.underlying27 hi0 hz0 hz1 hz2 rfl (by omega) u3 k _ rfl (HO.out.alloc _) ⟨wr.heap.size, 0, none⟩ 1 1 [.int .i64 gk] rfl rfl (World.news_of_block (heap_alloc_new wr _)) (by simp [Value.oneCell']) (by omega) (by simp only [maxLen]; omega) (by omega) (by simp; omega) (wr.heap.size + 1) (by simp) ?_; intro g' cap' w2 hown2 hgrow hat hg2; have HO2 := Lib.hid (show w2.ownsRow W0.heap.size 3 1 (.slice (some ⟨g', 0, none⟩) (k + 1) cap') (k + 1) (ncells (L.take (k + 1))) from by rw [HT.out]; simpa [ncells] using hown2); have HB2 := Lib.hid (show Below W0.heap.size W0 w2 from (HB.out.alloc (by first | omega | (simp; omega)) _).grown hgrow (by first | omega | (simp; omega)) (fun j hj => (HO.out.lt j hj).1)); clear hown2 hgrow hat hg2 HO HB; have v0 := (Var.below t0 HB2.out hz).cell 0 (v := .int .i64 a) rfl; have v1 := (Var.below t0 HB2.out hz).cell 1 (v := .int .i64 b) rfl; have v2 := (Var.below t0 HB2.out hz).cell 2 (v := .bool o) rfl)
      refine (HCALL.out _).mono ?_
      rintro e w3 ⟨rfl, hb3⟩
      have HB3 := Lib.hid (btr HB2.out hb3)
      have HO3 := Lib.hid (HO2.out.kept (Slots.grown_of_below hb3 none) (Or.inr (by simp [Value.ownBlock])))
      clear v0 v1 v2 hb3 HCALL HB2 HO2
      go_wp2_with fail
      go_roundw
      case rel => exact ⟨k + 1, hlt, rfl, HO3.out, HB3.out⟩
      case measure =>
        obtain ⟨A, n, c, rfl, rfl⟩ := HVF.out
        simp [sliceLen]
        omega
    · obtain rfl : k = L.length := by omega
      have hz0 := HIN.out.2.2.1
      rw [hz0]
      have HF2 := Lib.hid (And.intro hown hb)
      clear hown hb hz0
      go_wp2_with fail
      go_ret
      rw [HC.out]
      have hf := HF2.out
      rw [List.take_length] at hf
      rcases Go.Joins.ownsRow_forms hf.1 with ⟨hg, h0⟩ | ⟨g', cap, hg⟩
      · have hL : L = [] := List.eq_nil_of_length_eq_zero h0
        subst hL
        exact ⟨none, 0, 0, by first | exact congrArg Ending.returned hg | (rw [hg]; rfl), rfl, ⟨Lies.nil, fun _ _ _ hn => absurd hn (by simp [ncells])⟩, btr hb0 hf.2⟩
      · have hf1 := hf.1
        rw [hg] at hf1
        exact ⟨some ⟨g', 0, none⟩, L.length, cap, by first | exact congrArg Ending.returned hg | (rw [hg]; rfl), rfl, ⟨(Owned.of_row hf1).1.wide (by omega) (Nat.le_refl _), (Owned.of_row hf1).2⟩, btr hb0 hf.2⟩

theorem impl_ctlOk (a b : Int) (o : Bool) (w : World) (ws : wfC (a, b, o)) :
    Calls Tryd.prog 12 #[.agg #[.int .i64 a, .int .i64 b, .bool o]] w fun e w' => e = .returned (.bool (ctlOk (a, b, o))) ∧ Below w.heap.size w w' := by
  have H1 := Lib.hid (fun V : World => impl_faultFrom a b 1 o V (.inl rfl))
  have HV := Lib.hid (ctlOk_is (a, b, o))
  generalize nx (a, b, o) 1 = z at H1 HV
  go_enter Tryd.func12, Tryd.ntmps12
  go_wp2_with fail
  refine (H1.out _).mono ?_
  rintro e w1 ⟨rfl, hb1⟩
  have HB1 := Lib.hid (btr ((Below.refl w.heap.size w).alloc (Nat.le_refl _) (.cells #[.int .i64 a, .int .i64 b, .bool o] 25)) hb1)
  clear hb1
  go_wp2_with fail
  go_ret
  exact ⟨by rw [HV.out]; rfl, HB1.out⟩

set_option maxHeartbeats 2000000 in
theorem impl_hasTrap (a b : Int) (w : World) (wa : (Lit.int .i64 a).wf = true) (wb : (Lit.int .i64 b).wf = true) :
    Calls Tryd.prog 13 #[.int .i64 a, .int .i64 b] w fun e w' => e = .returned (.bool (hasTrap a b)) ∧ Below w.heap.size w w' := by
  clear wa wb
  have K1 := Lib.hid (fun V : World => impl_trapsOk a V)
  have hv : hasTrap a b = (inB a 0 3 && inB b 1 2 && (bits .and .i64 a b != 0)) := rfl
  generalize inB a 0 3 = x at K1 hv
  cases x
  · simp only [Bool.false_and] at hv
    have HV := Lib.hid hv
    clear hv
    go_enter Tryd.func13, Tryd.ntmps13
    go_wp2_with fail
    refine (K1.out _).mono ?_
    rintro e w' ⟨rfl, rfl⟩
    go_wp2_with fail
    go_ret
    exact ⟨by rw [HV.out]; rfl, Below.refl _ _⟩
  · by_cases h1 : b = 1
    · subst h1
      have hv2 : hasTrap a 1 = (bits .and .i64 a 1 != 0) := by rw [hv, show inB 1 1 2 = true from rfl]; rfl
      have HV := Lib.hid hv2
      clear hv hv2
      go_enter Tryd.func13, Tryd.ntmps13
      go_wp2_with fail
      refine (K1.out _).mono ?_
      rintro e w' ⟨rfl, rfl⟩
      go_wp2_with fail
      go_ret
      exact ⟨by rw [HV.out]; rfl, Below.refl _ _⟩
    · have h1' : (b == 1) = false := by simpa using h1
      by_cases h2 : b = 2
      · subst h2
        have hv2 : hasTrap a 2 = (bits .and .i64 a 2 != 0) := by rw [hv, show inB 2 1 2 = true from rfl]; rfl
        have HV := Lib.hid hv2
        clear hv hv2
        go_enter Tryd.func13, Tryd.ntmps13
        go_wp2_with fail
        refine (K1.out _).mono ?_
        rintro e w' ⟨rfl, rfl⟩
        go_wp2_with fail
        go_ret
        exact ⟨by rw [HV.out]; rfl, Below.refl _ _⟩
      · have h2' : (b == 2) = false := by simpa using h2
        have hv2 : hasTrap a b = false := by rw [hv, inB_false.2 (by omega)]; rfl
        have HV := Lib.hid hv2
        clear hv hv2
        go_enter Tryd.func13, Tryd.ntmps13
        go_wp2_with fail
        refine (K1.out _).mono ?_
        rintro e w' ⟨rfl, rfl⟩
        go_wp2_with fail
        go_ret
        exact ⟨by rw [HV.out]; rfl, Below.refl _ _⟩

theorem posts_lo {s : CT} {n : Int} (h : n < 0) : posts s n = false := by unfold posts; rw [inB_false.2 (.inl h), Bool.and_false, Bool.false_and]
theorem posts_hi {s : CT} {n : Int} (h : 7 < n) : posts s n = false := by unfold posts; rw [inB_false.2 (.inr h), Bool.and_false, Bool.false_and]
set_option maxHeartbeats 2000000 in
theorem impl_posts (a b : Int) (o : Bool) (n : Int) (w : World) (ws : wfC (a, b, o)) (wn : (Lit.int .i64 n).wf = true) :
    Calls Tryd.prog 15 #[.agg #[.int .i64 a, .int .i64 b, .bool o], .int .i64 n] w fun e w' => e = .returned (.bool (posts (a, b, o) n)) ∧ Below w.heap.size w w' := by
  have hb0 : Below w.heap.size w (w.alloc (.cells #[.int .i64 a, .int .i64 b, .bool o] 25)) := (Below.refl _ _).alloc (Nat.le_refl _) _
  have t0 := Var.new w [.int .i64 a, .int .i64 b, .bool o] 25
  change Var (w.alloc (.cells #[.int .i64 a, .int .i64 b, .bool o] 25)) w.heap.size [.int .i64 a, .int .i64 b, .bool o] at t0
  have hz : w.heap.size < (w.alloc (.cells #[.int .i64 a, .int .i64 b, .bool o] 25)).heap.size := by simp
  by_cases hn0 : n < 0
  · have HV := Lib.hid (posts_lo (s := (a, b, o)) hn0)
    have h0 : decide (n ≥ 0) = false := decide_eq_false (by omega)
    clear ws wn
    go_enter Tryd.func15, Tryd.ntmps15
    go_wp2_with fail
    go_ret
    exact ⟨by rw [HV.out]; rfl, hb0⟩
  · have h0 : decide (n ≥ 0) = true := decide_eq_true (by omega)
    by_cases hn7 : 7 < n
    · have HV := Lib.hid (posts_hi (s := (a, b, o)) hn7)
      have h7 : decide (n ≤ 7) = false := decide_eq_false (by omega)
      clear ws wn
      go_enter Tryd.func15, Tryd.ntmps15
      go_wp2_with fail
      go_ret
      exact ⟨by rw [HV.out]; rfl, hb0⟩
    · have h7 : decide (n ≤ 7) = true := decide_eq_true (by omega)
      have K1 := Lib.hid (fun V : World => impl_ctlOk a b o V ws)
      have hv : posts (a, b, o) n = (ctlOk (a, b, o) && inB n 0 7 && bitAt b n) := rfl
      rw [inB_iff.2 ⟨by omega, by omega⟩] at hv
      generalize ctlOk (a, b, o) = x at K1 hv
      obtain ⟨k, rfl⟩ := Int.eq_ofNat_of_zero_le (show 0 ≤ n by omega)
      cases x
      · simp only [Bool.false_and] at hv
        have HV := Lib.hid hv
        clear hv ws wn
        go_enter Tryd.func15, Tryd.ntmps15
        go_wp2_with fail
        generalize w.alloc (.cells #[.int .i64 a, .int .i64 b, .bool o] 25) = W0 at t0 hb0 hz ⊢
        refine (K1.out _).mono ?_
        rintro e w1 ⟨rfl, hb1⟩
        have HB := Lib.hid (btr hb0 hb1)
        clear hb0 hb1
        go_wp2_with fail
        go_ret
        exact ⟨by rw [HV.out]; rfl, HB.out⟩
      · simp only [Bool.true_and] at hv
        have HV := Lib.hid hv
        clear hv ws wn
        go_enter Tryd.func15, Tryd.ntmps15
        go_wp2_with fail
        generalize w.alloc (.cells #[.int .i64 a, .int .i64 b, .bool o] 25) = W0 at t0 hb0 hz ⊢
        refine (K1.out _).mono ?_
        rintro e w1 ⟨rfl, hb1⟩
        have HB := Lib.hid (btr hb0 hb1)
        have v1 := (t0.below hb1 hz).cell 1 (v := .int .i64 b) rfl
        clear hb0 hb1 t0
        go_wp2_with fail
        go_ret
        exact ⟨by rw [HV.out]; rfl, HB.out⟩
end Go.Proofs.YtcdkagpmepdggaaDoor.Ctls
