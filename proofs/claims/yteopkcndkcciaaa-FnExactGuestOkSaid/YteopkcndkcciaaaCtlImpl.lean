/-
  Control blocks: contracts of the project's trapsOk, postOk, faultFrom, CtlFaults, CtlOk, HasTrap and Posts. Conditions: ints of 64 bits.
-/
import Derived.Test.YteopkcndkcciaaaCtl2
namespace Go.Proofs.Yteopkcndkcciaaa.Ctls
set_option maxRecDepth 100000
open Go.ChangeShapes Go.WideShapes Go.ChangeAt Go.RowKit
open Go.Proofs.Yteopkcndkcciaaa.Base Go.Proofs.Yteopkcndkcciaaa.Mem Go.Proofs.Yteopkcndkcciaaa.Data Go.Proofs.Yteopkcndkcciaaa.Ints Go.Proofs.Yteopkcndkcciaaa.Slots
set_option linter.unusedVariables false
set_option linter.unusedSimpArgs false

theorem impl_trapsOk (n : Int) (w : World) :
    Calls Try.prog 118 #[.int .i64 n] w fun e w' => e = .returned (.bool (inB n 0 3)) ∧ w = w' := by
  have hv : inB n 0 3 = (decide (n ≥ 0) && decide (n ≤ 3)) := rfl
  cases h1 : decide (n ≥ 0)
  all_goals
    cases h2 : decide (n ≤ 3)
    all_goals
      rw [h1, h2] at hv
      simp only [Bool.and_false, Bool.and_true] at hv
      rw [hv]; clear hv
      go_enter Try.func118, Try.ntmps118
      go_wp2
      go_ret
      exact ⟨rfl, rfl⟩

theorem impl_postOk (n : Int) (w : World) :
    Calls Try.prog 110 #[.int .i64 n] w fun e w' => e = .returned (.bool (inB n 0 255)) ∧ w = w' := by
  have hv : inB n 0 255 = (decide (n ≥ 0) && decide (n ≤ 255)) := rfl
  cases h1 : decide (n ≥ 0)
  all_goals
    cases h2 : decide (n ≤ 255)
    all_goals
      rw [h1, h2] at hv
      simp only [Bool.and_false, Bool.and_true] at hv
      rw [hv]; clear hv
      go_enter Try.func110, Try.ntmps110
      go_wp2
      go_ret
      exact ⟨rfl, rfl⟩

/-- The faults that four tests give, in their order. -/
def faultsL (p q r s : Bool) : List Int :=
  (if p = true then [1] else []) ++ ((if q = true then [2] else []) ++ ((if r = true then [3] else []) ++ (if s = true then [4] else [])))
/-- The first fault at or behind the number f. -/
def nextF (p q r s : Bool) (f : Int) : Int :=
  if f = 1 then (if p = true then 1 else if q = true then 2 else if r = true then 3 else if s = true then 4 else 0)
  else if f = 2 then (if q = true then 2 else if r = true then 3 else if s = true then 4 else 0)
  else if f = 3 then (if r = true then 3 else if s = true then 4 else 0)
  else if f = 4 then (if s = true then 4 else 0) else 0
def p1 (s : CT) : Bool := !inB s.1 0 3
def p2 (s : CT) : Bool := !inB s.2.1 0 255
def p3 (s : CT) : Bool := (s.2.1 != 0) && !s.2.2
def p4 (s : CT) : Bool := (s.2.1 != 0) && (s.1 == 2)
/-- How many elements a slice has. -/
def sliceLen : Value → Nat
  | .slice _ n _ => n
  | _ => 0
def nx (s : CT) (f : Int) : Int := nextF (p1 s) (p2 s) (p3 s) (p4 s) f
theorem ctlF_is (s : CT) : ctlF s = faultsL (p1 s) (p2 s) (p3 s) (p4 s) := by
  unfold ctlF faultsL p1 p2 p3 p4
  congr 1
  · cases inB s.1 0 3 <;> simp
  · congr 1
    · cases inB s.2.1 0 255 <;> simp
    · congr 1
      · by_cases h : s.2.1 = 0 <;> cases s.2.2 <;> simp [h]
      · by_cases h : s.2.1 = 0 <;> by_cases h2 : s.1 = 2 <;> simp [h, h2]
/-- The k-th fault, or 0 behind the last one. -/
def kth (p q r s : Bool) (k : Nat) : Int := (faultsL p q r s)[k]?.getD 0
theorem kth_zero : ∀ p q r s : Bool, nextF p q r s 1 = kth p q r s 0 := by decide +kernel
theorem kth_in : ∀ p q r s : Bool, ∀ k : Fin 4, k.val < (faultsL p q r s).length → (kth p q r s k.val = 1 ∨ kth p q r s k.val = 2 ∨ kth p q r s k.val = 3 ∨ kth p q r s k.val = 4) ∧ nextF p q r s (kth p q r s k.val + 1) = kth p q r s (k.val + 1) ∧ faultsL p q r s = faultsL p q r s ∧ (faultsL p q r s).take (k.val + 1) = (faultsL p q r s).take k.val ++ [kth p q r s k.val] := by decide +kernel
theorem kth_out : ∀ p q r s : Bool, kth p q r s (faultsL p q r s).length = 0 := by decide +kernel
theorem faultsL_le : ∀ p q r s : Bool, (faultsL p q r s).length ≤ 4 := by decide +kernel
theorem ok_next : ∀ p q r s : Bool, ((faultsL p q r s).length == 0) = (nextF p q r s 1 == 0) := by decide +kernel
theorem ctlOk_is (s : CT) : ctlOk s = (nx s 1 == 0) := by unfold ctlOk nx; rw [ctlF_is]; exact ok_next _ _ _ _

set_option maxRecDepth 100000 in
set_option maxHeartbeats 8000000 in
theorem impl_faultFrom (a b f : Int) (o : Bool) (w : World) (hf : f = 1 ∨ f = 2 ∨ f = 3 ∨ f = 4 ∨ f = 5) :
    Calls Try.prog 109 #[.agg #[.int .i64 a, .int .i64 b, .bool o], .int .i64 f] w fun e w' => e = .returned (.int .i64 (nx (a, b, o) f)) ∧ Below w.heap.size w w' := by
  have hb0 : Below w.heap.size w (w.alloc (.cells #[.int .i64 a, .int .i64 b, .bool o] 29)) := (Below.refl _ _).alloc (Nat.le_refl _) _
  have t0 := Var.new w [.int .i64 a, .int .i64 b, .bool o] 29
  change Var (w.alloc (.cells #[.int .i64 a, .int .i64 b, .bool o] 29)) w.heap.size [.int .i64 a, .int .i64 b, .bool o] at t0
  have K1 := fun V : World => impl_trapsOk a V
  have K2 := fun V : World => impl_postOk b V
  have hv : nx (a, b, o) f = nextF (!inB a 0 3) (!inB b 0 255) ((b != 0) && !o) ((b != 0) && (a == 2)) f := rfl
  generalize inB a 0 3 = x at K1 hv
  generalize inB b 0 255 = y at K2 hv
  rcases hf with rfl | rfl | rfl | rfl | rfl
  · skip
    cases x
    · skip
      have HV := Lib.hid (show nx (a, b, o) 1 = 1 from by rw [hv]; simp [nextF])
      clear hv
      go_enter Try.func109, Try.ntmps109
      go_wp2_with fail
      generalize w.alloc (.cells #[.int .i64 a, .int .i64 b, .bool o] 29) = W0 at t0 hb0 ⊢
      have v0 := t0.cell 0 (v := .int .i64 a) rfl
      have v1 := t0.cell 1 (v := .int .i64 b) rfl
      have v2 := t0.cell 2 (v := .bool o) rfl
      refine (K1 _).mono ?_
      rintro e w' ⟨rfl, rfl⟩
      go_wp2_with fail
      go_ret
      exact ⟨by rw [HV.out]; rfl, hb0⟩
    · skip
      cases y
      · skip
        have HV := Lib.hid (show nx (a, b, o) 1 = 2 from by rw [hv]; simp [nextF])
        clear hv
        go_enter Try.func109, Try.ntmps109
        go_wp2_with fail
        generalize w.alloc (.cells #[.int .i64 a, .int .i64 b, .bool o] 29) = W0 at t0 hb0 ⊢
        have v0 := t0.cell 0 (v := .int .i64 a) rfl
        have v1 := t0.cell 1 (v := .int .i64 b) rfl
        have v2 := t0.cell 2 (v := .bool o) rfl
        refine (K1 _).mono ?_
        rintro e w' ⟨rfl, rfl⟩
        go_wp2_with fail
        refine (K2 _).mono ?_
        rintro e w' ⟨rfl, rfl⟩
        go_wp2_with fail
        go_ret
        exact ⟨by rw [HV.out]; rfl, hb0⟩
      · skip
        by_cases hb2 : b = 0
        · subst hb2
          have HV := Lib.hid (show nx (a, 0, o) 1 = 0 from by rw [hv]; simp [nextF])
          clear hv
          go_enter Try.func109, Try.ntmps109
          go_wp2_with fail
          generalize w.alloc (.cells #[.int .i64 a, .int .i64 0, .bool o] 29) = W0 at t0 hb0 ⊢
          have v0 := t0.cell 0 (v := .int .i64 a) rfl
          have v1 := t0.cell 1 (v := .int .i64 0) rfl
          have v2 := t0.cell 2 (v := .bool o) rfl
          refine (K1 _).mono ?_
          rintro e w' ⟨rfl, rfl⟩
          go_wp2_with fail
          refine (K2 _).mono ?_
          rintro e w' ⟨rfl, rfl⟩
          go_wp2_with fail
          go_ret
          exact ⟨by rw [HV.out]; rfl, hb0⟩
        · have hbn : (b != 0) = true := by simpa using hb2
          cases o
          · skip
            have HV := Lib.hid (show nx (a, b, false) 1 = 3 from by rw [hv]; simp [nextF, hbn])
            clear hv
            go_enter Try.func109, Try.ntmps109
            go_wp2_with fail
            generalize w.alloc (.cells #[.int .i64 a, .int .i64 b, .bool false] 29) = W0 at t0 hb0 ⊢
            have v0 := t0.cell 0 (v := .int .i64 a) rfl
            have v1 := t0.cell 1 (v := .int .i64 b) rfl
            have v2 := t0.cell 2 (v := .bool false) rfl
            refine (K1 _).mono ?_
            rintro e w' ⟨rfl, rfl⟩
            go_wp2_with fail
            refine (K2 _).mono ?_
            rintro e w' ⟨rfl, rfl⟩
            go_wp2_with fail
            go_ret
            exact ⟨by rw [HV.out]; rfl, hb0⟩
          · skip
            by_cases ha2 : a = 2
            · subst ha2
              have HV := Lib.hid (show nx (2, b, true) 1 = 4 from by rw [hv]; simp [nextF, hbn])
              clear hv
              go_enter Try.func109, Try.ntmps109
              go_wp2_with fail
              generalize w.alloc (.cells #[.int .i64 2, .int .i64 b, .bool true] 29) = W0 at t0 hb0 ⊢
              have v0 := t0.cell 0 (v := .int .i64 2) rfl
              have v1 := t0.cell 1 (v := .int .i64 b) rfl
              have v2 := t0.cell 2 (v := .bool true) rfl
              refine (K1 _).mono ?_
              rintro e w' ⟨rfl, rfl⟩
              go_wp2_with fail
              refine (K2 _).mono ?_
              rintro e w' ⟨rfl, rfl⟩
              go_wp2_with fail
              go_ret
              exact ⟨by rw [HV.out]; rfl, hb0⟩
            · have han : (a == 2) = false := by simpa using ha2
              have HV := Lib.hid (show nx (a, b, true) 1 = 0 from by rw [hv]; simp [nextF, hbn, han])
              clear hv
              go_enter Try.func109, Try.ntmps109
              go_wp2_with fail
              generalize w.alloc (.cells #[.int .i64 a, .int .i64 b, .bool true] 29) = W0 at t0 hb0 ⊢
              have v0 := t0.cell 0 (v := .int .i64 a) rfl
              have v1 := t0.cell 1 (v := .int .i64 b) rfl
              have v2 := t0.cell 2 (v := .bool true) rfl
              refine (K1 _).mono ?_
              rintro e w' ⟨rfl, rfl⟩
              go_wp2_with fail
              refine (K2 _).mono ?_
              rintro e w' ⟨rfl, rfl⟩
              go_wp2_with fail
              go_ret
              exact ⟨by rw [HV.out]; rfl, hb0⟩
  · skip
    cases y
    · skip
      have HV := Lib.hid (show nx (a, b, o) 2 = 2 from by rw [hv]; simp [nextF])
      clear hv
      go_enter Try.func109, Try.ntmps109
      go_wp2_with fail
      generalize w.alloc (.cells #[.int .i64 a, .int .i64 b, .bool o] 29) = W0 at t0 hb0 ⊢
      have v0 := t0.cell 0 (v := .int .i64 a) rfl
      have v1 := t0.cell 1 (v := .int .i64 b) rfl
      have v2 := t0.cell 2 (v := .bool o) rfl
      refine (K2 _).mono ?_
      rintro e w' ⟨rfl, rfl⟩
      go_wp2_with fail
      go_ret
      exact ⟨by rw [HV.out]; rfl, hb0⟩
    · skip
      by_cases hb2 : b = 0
      · subst hb2
        have HV := Lib.hid (show nx (a, 0, o) 2 = 0 from by rw [hv]; simp [nextF])
        clear hv
        go_enter Try.func109, Try.ntmps109
        go_wp2_with fail
        generalize w.alloc (.cells #[.int .i64 a, .int .i64 0, .bool o] 29) = W0 at t0 hb0 ⊢
        have v0 := t0.cell 0 (v := .int .i64 a) rfl
        have v1 := t0.cell 1 (v := .int .i64 0) rfl
        have v2 := t0.cell 2 (v := .bool o) rfl
        refine (K2 _).mono ?_
        rintro e w' ⟨rfl, rfl⟩
        go_wp2_with fail
        go_ret
        exact ⟨by rw [HV.out]; rfl, hb0⟩
      · have hbn : (b != 0) = true := by simpa using hb2
        cases o
        · skip
          have HV := Lib.hid (show nx (a, b, false) 2 = 3 from by rw [hv]; simp [nextF, hbn])
          clear hv
          go_enter Try.func109, Try.ntmps109
          go_wp2_with fail
          generalize w.alloc (.cells #[.int .i64 a, .int .i64 b, .bool false] 29) = W0 at t0 hb0 ⊢
          have v0 := t0.cell 0 (v := .int .i64 a) rfl
          have v1 := t0.cell 1 (v := .int .i64 b) rfl
          have v2 := t0.cell 2 (v := .bool false) rfl
          refine (K2 _).mono ?_
          rintro e w' ⟨rfl, rfl⟩
          go_wp2_with fail
          go_ret
          exact ⟨by rw [HV.out]; rfl, hb0⟩
        · skip
          by_cases ha2 : a = 2
          · subst ha2
            have HV := Lib.hid (show nx (2, b, true) 2 = 4 from by rw [hv]; simp [nextF, hbn])
            clear hv
            go_enter Try.func109, Try.ntmps109
            go_wp2_with fail
            generalize w.alloc (.cells #[.int .i64 2, .int .i64 b, .bool true] 29) = W0 at t0 hb0 ⊢
            have v0 := t0.cell 0 (v := .int .i64 2) rfl
            have v1 := t0.cell 1 (v := .int .i64 b) rfl
            have v2 := t0.cell 2 (v := .bool true) rfl
            refine (K2 _).mono ?_
            rintro e w' ⟨rfl, rfl⟩
            go_wp2_with fail
            go_ret
            exact ⟨by rw [HV.out]; rfl, hb0⟩
          · have han : (a == 2) = false := by simpa using ha2
            have HV := Lib.hid (show nx (a, b, true) 2 = 0 from by rw [hv]; simp [nextF, hbn, han])
            clear hv
            go_enter Try.func109, Try.ntmps109
            go_wp2_with fail
            generalize w.alloc (.cells #[.int .i64 a, .int .i64 b, .bool true] 29) = W0 at t0 hb0 ⊢
            have v0 := t0.cell 0 (v := .int .i64 a) rfl
            have v1 := t0.cell 1 (v := .int .i64 b) rfl
            have v2 := t0.cell 2 (v := .bool true) rfl
            refine (K2 _).mono ?_
            rintro e w' ⟨rfl, rfl⟩
            go_wp2_with fail
            go_ret
            exact ⟨by rw [HV.out]; rfl, hb0⟩
  · skip
    by_cases hb2 : b = 0
    · subst hb2
      have HV := Lib.hid (show nx (a, 0, o) 3 = 0 from by rw [hv]; simp [nextF])
      clear hv
      go_enter Try.func109, Try.ntmps109
      go_wp2_with fail
      generalize w.alloc (.cells #[.int .i64 a, .int .i64 0, .bool o] 29) = W0 at t0 hb0 ⊢
      have v0 := t0.cell 0 (v := .int .i64 a) rfl
      have v1 := t0.cell 1 (v := .int .i64 0) rfl
      have v2 := t0.cell 2 (v := .bool o) rfl
      go_ret
      exact ⟨by rw [HV.out]; rfl, hb0⟩
    · have hbn : (b != 0) = true := by simpa using hb2
      cases o
      · skip
        have HV := Lib.hid (show nx (a, b, false) 3 = 3 from by rw [hv]; simp [nextF, hbn])
        clear hv
        go_enter Try.func109, Try.ntmps109
        go_wp2_with fail
        generalize w.alloc (.cells #[.int .i64 a, .int .i64 b, .bool false] 29) = W0 at t0 hb0 ⊢
        have v0 := t0.cell 0 (v := .int .i64 a) rfl
        have v1 := t0.cell 1 (v := .int .i64 b) rfl
        have v2 := t0.cell 2 (v := .bool false) rfl
        go_ret
        exact ⟨by rw [HV.out]; rfl, hb0⟩
      · skip
        by_cases ha2 : a = 2
        · subst ha2
          have HV := Lib.hid (show nx (2, b, true) 3 = 4 from by rw [hv]; simp [nextF, hbn])
          clear hv
          go_enter Try.func109, Try.ntmps109
          go_wp2_with fail
          generalize w.alloc (.cells #[.int .i64 2, .int .i64 b, .bool true] 29) = W0 at t0 hb0 ⊢
          have v0 := t0.cell 0 (v := .int .i64 2) rfl
          have v1 := t0.cell 1 (v := .int .i64 b) rfl
          have v2 := t0.cell 2 (v := .bool true) rfl
          go_ret
          exact ⟨by rw [HV.out]; rfl, hb0⟩
        · have han : (a == 2) = false := by simpa using ha2
          have HV := Lib.hid (show nx (a, b, true) 3 = 0 from by rw [hv]; simp [nextF, hbn, han])
          clear hv
          go_enter Try.func109, Try.ntmps109
          go_wp2_with fail
          generalize w.alloc (.cells #[.int .i64 a, .int .i64 b, .bool true] 29) = W0 at t0 hb0 ⊢
          have v0 := t0.cell 0 (v := .int .i64 a) rfl
          have v1 := t0.cell 1 (v := .int .i64 b) rfl
          have v2 := t0.cell 2 (v := .bool true) rfl
          go_ret
          exact ⟨by rw [HV.out]; rfl, hb0⟩
  · skip
    by_cases hb2 : b = 0
    · subst hb2
      have HV := Lib.hid (show nx (a, 0, o) 4 = 0 from by rw [hv]; simp [nextF])
      clear hv
      go_enter Try.func109, Try.ntmps109
      go_wp2_with fail
      generalize w.alloc (.cells #[.int .i64 a, .int .i64 0, .bool o] 29) = W0 at t0 hb0 ⊢
      have v0 := t0.cell 0 (v := .int .i64 a) rfl
      have v1 := t0.cell 1 (v := .int .i64 0) rfl
      have v2 := t0.cell 2 (v := .bool o) rfl
      go_ret
      exact ⟨by rw [HV.out]; rfl, hb0⟩
    · have hbn : (b != 0) = true := by simpa using hb2
      by_cases ha2 : a = 2
      · subst ha2
        have HV := Lib.hid (show nx (2, b, o) 4 = 4 from by rw [hv]; simp [nextF, hbn])
        clear hv
        go_enter Try.func109, Try.ntmps109
        go_wp2_with fail
        generalize w.alloc (.cells #[.int .i64 2, .int .i64 b, .bool o] 29) = W0 at t0 hb0 ⊢
        have v0 := t0.cell 0 (v := .int .i64 2) rfl
        have v1 := t0.cell 1 (v := .int .i64 b) rfl
        have v2 := t0.cell 2 (v := .bool o) rfl
        go_ret
        exact ⟨by rw [HV.out]; rfl, hb0⟩
      · have han : (a == 2) = false := by simpa using ha2
        have HV := Lib.hid (show nx (a, b, o) 4 = 0 from by rw [hv]; simp [nextF, hbn, han])
        clear hv
        go_enter Try.func109, Try.ntmps109
        go_wp2_with fail
        generalize w.alloc (.cells #[.int .i64 a, .int .i64 b, .bool o] 29) = W0 at t0 hb0 ⊢
        have v0 := t0.cell 0 (v := .int .i64 a) rfl
        have v1 := t0.cell 1 (v := .int .i64 b) rfl
        have v2 := t0.cell 2 (v := .bool o) rfl
        go_ret
        exact ⟨by rw [HV.out]; rfl, hb0⟩
  · skip
    have HV := Lib.hid (show nx (a, b, o) 5 = 0 from by rw [hv]; simp [nextF])
    clear hv
    go_enter Try.func109, Try.ntmps109
    go_wp2_with fail
    generalize w.alloc (.cells #[.int .i64 a, .int .i64 b, .bool o] 29) = W0 at t0 hb0 ⊢
    have v0 := t0.cell 0 (v := .int .i64 a) rfl
    have v1 := t0.cell 1 (v := .int .i64 b) rfl
    have v2 := t0.cell 2 (v := .bool o) rfl
    go_ret
    exact ⟨by rw [HV.out]; rfl, hb0⟩

theorem impl_ctlOk (a b : Int) (o : Bool) (w : World) (ws : wfC (a, b, o)) :
    Calls Try.prog 100 #[.agg #[.int .i64 a, .int .i64 b, .bool o]] w fun e w' => e = .returned (.bool (ctlOk (a, b, o))) ∧ Below w.heap.size w w' := by
  have H1 := Lib.hid (fun V : World => impl_faultFrom a b 1 o V (.inl rfl))
  have HV := Lib.hid (ctlOk_is (a, b, o))
  generalize nx (a, b, o) 1 = z at H1 HV
  go_enter Try.func100, Try.ntmps100
  go_wp2_with fail
  refine (H1.out _).mono ?_
  rintro e w1 ⟨rfl, hb1⟩
  have HB1 := Lib.hid (btr ((Below.refl w.heap.size w).alloc (Nat.le_refl _) (.cells #[.int .i64 a, .int .i64 b, .bool o] 29)) hb1)
  clear hb1
  go_wp2_with fail
  go_ret
  exact ⟨by rw [HV.out]; rfl, HB1.out⟩

theorem posts_lo {s : CT} {n : Int} (h : n < 0) : posts s n = false := by unfold posts; rw [inB_false.2 (.inl h), Bool.and_false, Bool.false_and]
theorem posts_hi {s : CT} {n : Int} (h : 7 < n) : posts s n = false := by unfold posts; rw [inB_false.2 (.inr h), Bool.and_false, Bool.false_and]

end Go.Proofs.Yteopkcndkcciaaa.Ctls
