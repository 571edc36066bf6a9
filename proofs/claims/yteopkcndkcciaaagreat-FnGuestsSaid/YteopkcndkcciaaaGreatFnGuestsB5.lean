/-
  The texts that FnGuests wants, part 5: CtlImpl InsImpl GuestImpl Big. No condition.
-/
import Derived.Test.YteopkcndkcciaaaGreatFnGuestsB4
import Derived.Laws.StructEq
import Derived.BigQuiet
namespace Go.Proofs.YteopkcndkcciaaaGreat.Ctls
set_option maxRecDepth 100000
open Go.ChangeShapes Go.WideShapes Go.ChangeAt Go.RowKit
open Go.Proofs.YteopkcndkcciaaaGreat.Base Go.Proofs.YteopkcndkcciaaaGreat.Mem Go.Proofs.YteopkcndkcciaaaGreat.Data Go.Proofs.YteopkcndkcciaaaGreat.Ints Go.Proofs.YteopkcndkcciaaaGreat.Slots
set_option linter.unusedVariables false
set_option linter.unusedSimpArgs false
theorem impl_trapsOk (n : Int) (w : World) :
    Calls Tryz.prog 109 #[.int .i64 n] w fun e w' => e = .returned (.bool (inB n 0 3)) ∧ w = w' := by
  have hv : inB n 0 3 = (decide (n ≥ 0) && decide (n ≤ 3)) := rfl
  cases h1 : decide (n ≥ 0)
  all_goals
    cases h2 : decide (n ≤ 3)
    all_goals
      rw [h1, h2] at hv
      simp only [Bool.and_false, Bool.and_true] at hv
      rw [hv]; clear hv
      go_enter Tryz.func109, Tryz.ntmps109
      go_wp2
      go_ret
      exact ⟨rfl, rfl⟩
theorem impl_postOk (n : Int) (w : World) :
    Calls Tryz.prog 101 #[.int .i64 n] w fun e w' => e = .returned (.bool (inB n 0 255)) ∧ w = w' := by
  have hv : inB n 0 255 = (decide (n ≥ 0) && decide (n ≤ 255)) := rfl
  cases h1 : decide (n ≥ 0)
  all_goals
    cases h2 : decide (n ≤ 255)
    all_goals
      rw [h1, h2] at hv
      simp only [Bool.and_false, Bool.and_true] at hv
      rw [hv]; clear hv
      go_enter Tryz.func101, Tryz.ntmps101
      go_wp2
      go_ret
      exact ⟨rfl, rfl⟩
/-- The faults that four tests give, in their order. -/
def faultsL (p q r s : Bool) : List Int :=
  (if p = true then [1] else []) ++ ((if q = true then [2] else []) ++ ((if r = true then [3] else []) ++ (if s = true then [4] else [])))
/-- The first fault at or behind the number f. -/
def nextF (p q r s : Bool) (f : Int) : Int :=
  if f = 1 then (if p = true then 1 else if q = true then 2 else if r = true then 3 else if s = true then 4 else 0)
  else if f = 2 then (if q = true then 2 else if r = true then 3 else if s = true then 4 else 0)
  else if f = 3 then (if r = true then 3 else if s = true then 4 else 0)
  else if f = 4 then (if s = true then 4 else 0) else 0
def p1 (s : CT) : Bool := !inB s.1 0 3
def p2 (s : CT) : Bool := !inB s.2.1 0 255
def p3 (s : CT) : Bool := (s.2.1 != 0) && !s.2.2
def p4 (s : CT) : Bool := (s.2.1 != 0) && (s.1 == 2)
def nx (s : CT) (f : Int) : Int := nextF (p1 s) (p2 s) (p3 s) (p4 s) f
theorem ctlF_is (s : CT) : ctlF s = faultsL (p1 s) (p2 s) (p3 s) (p4 s) := by
  unfold ctlF faultsL p1 p2 p3 p4
  congr 1
  · cases inB s.1 0 3 <;> simp
  · congr 1
    · cases inB s.2.1 0 255 <;> simp
    · congr 1
      · by_cases h : s.2.1 = 0 <;> cases s.2.2 <;> simp [h]
      · by_cases h : s.2.1 = 0 <;> by_cases h2 : s.1 = 2 <;> simp [h, h2]
theorem ok_next : ∀ p q r s : Bool, ((faultsL p q r s).length == 0) = (nextF p q r s 1 == 0) := by decide +kernel
theorem ctlOk_is (s : CT) : ctlOk s = (nx s 1 == 0) := by unfold ctlOk nx; rw [ctlF_is]; exact ok_next _ _ _ _
set_option maxRecDepth 100000 in
set_option maxHeartbeats 8000000 in
theorem impl_faultFrom (a b f : Int) (o : Bool) (w : World) (hf : f = 1 ∨ f = 2 ∨ f = 3 ∨ f = 4 ∨ f = 5) :
    Calls Tryz.prog 100 #[.agg #[.int .i64 a, .int .i64 b, .bool o], .int .i64 f] w fun e w' => e = .returned (.int .i64 (nx (a, b, o) f)) ∧ Below w.heap.size w w' := by
  have hb0 : Below w.heap.size w (w.alloc (.cells #[.int .i64 a, .int .i64 b, .bool o] 28)) := (Below.refl _ _).alloc (Nat.le_refl _) _
  have t0 := Var.new w [.int .i64 a, .int .i64 b, .bool o] 28
  change Var (w.alloc (.cells #[.int .i64 a, .int .i64 b, .bool o] 28)) w.heap.size [.int .i64 a, .int .i64 b, .bool o] at t0
  have K1 := fun V : World => impl_trapsOk a V
  have K2 := fun V : World => impl_postOk b V
  have hv : nx (a, b, o) f = nextF (!inB a 0 3) (!inB b 0 255) ((b != 0) && !o) ((b != 0) && (a == 2)) f := rfl
  generalize inB a 0 3 = x at K1 hv
  generalize inB b 0 255 = y at K2 hv
  rcases hf with rfl | rfl | rfl | rfl | rfl
  · skip
    cases x
    · skip
      have HV := Lib.hid (show nx (a, b, o) 1 = 1 from by rw [hv]; simp [nextF])
      clear hv
      go_enter Tryz.func100, Tryz.ntmps100
      go_wp2_with fail
      generalize w.alloc (.cells #[.int .i64 a, .int .i64 b, .bool o] 28) = W0 at t0 hb0 ⊢
      have v0 := t0.cell 0 (v := .int .i64 a) rfl
      have v1 := t0.cell 1 (v := .int .i64 b) rfl
      have v2 := t0.cell 2 (v := .bool o) rfl
      refine (K1 _).mono ?_
      rintro e w' ⟨rfl, rfl⟩
      go_wp2_with fail
      go_ret
      exact ⟨by rw [HV.out]; rfl, hb0⟩
    · skip
      cases y
      · skip
        have HV := Lib.hid (show nx (a, b, o) 1 = 2 from by rw [hv]; simp [nextF])
        clear hv
        go_enter Tryz.func100, Tryz.ntmps100
        go_wp2_with fail
        generalize w.alloc (.cells #[.int .i64 a, .int .i64 b, .bool o] 28) = W0 at t0 hb0 ⊢
        have v0 := t0.cell 0 (v := .int .i64 a) rfl
        have v1 := t0.cell 1 (v := .int .i64 b) rfl
        have v2 := t0.cell 2 (v := .bool o) rfl
        refine (K1 _).mono ?_
        rintro e w' ⟨rfl, rfl⟩
        go_wp2_with fail
        refine (K2 _).mono ?_
        rintro e w' ⟨rfl, rfl⟩
        go_wp2_with fail
        go_ret
        exact ⟨by rw [HV.out]; rfl, hb0⟩
      · skip
        by_cases hb2 : b = 0
        · subst hb2
          have HV := Lib.hid (show nx (a, 0, o) 1 = 0 from by rw [hv]; simp [nextF])
          clear hv
          go_enter Tryz.func100, Tryz.ntmps100
          go_wp2_with fail
          generalize w.alloc (.cells #[.int .i64 a, .int .i64 0, .bool o] 28) = W0 at t0 hb0 ⊢
          have v0 := t0.cell 0 (v := .int .i64 a) rfl
          have v1 := t0.cell 1 (v := .int .i64 0) rfl
          have v2 := t0.cell 2 (v := .bool o) rfl
          refine (K1 _).mono ?_
          rintro e w' ⟨rfl, rfl⟩
          go_wp2_with fail
          refine (K2 _).mono ?_
          rintro e w' ⟨rfl, rfl⟩
          go_wp2_with fail
          go_ret
          exact ⟨by rw [HV.out]; rfl, hb0⟩
        · have hbn : (b != 0) = true := by simpa using hb2
          cases o
          · skip
            have HV := Lib.hid (show nx (a, b, false) 1 = 3 from by rw [hv]; simp [nextF, hbn])
            clear hv
            go_enter Tryz.func100, Tryz.ntmps100
            go_wp2_with fail
            generalize w.alloc (.cells #[.int .i64 a, .int .i64 b, .bool false] 28) = W0 at t0 hb0 ⊢
            have v0 := t0.cell 0 (v := .int .i64 a) rfl
            have v1 := t0.cell 1 (v := .int .i64 b) rfl
            have v2 := t0.cell 2 (v := .bool false) rfl
            refine (K1 _).mono ?_
            rintro e w' ⟨rfl, rfl⟩
            go_wp2_with fail
            refine (K2 _).mono ?_
            rintro e w' ⟨rfl, rfl⟩
            go_wp2_with fail
            go_ret
            exact ⟨by rw [HV.out]; rfl, hb0⟩
          · skip
            by_cases ha2 : a = 2
            · subst ha2
              have HV := Lib.hid (show nx (2, b, true) 1 = 4 from by rw [hv]; simp [nextF, hbn])
              clear hv
              go_enter Tryz.func100, Tryz.ntmps100
              go_wp2_with fail
              generalize w.alloc (.cells #[.int .i64 2, .int .i64 b, .bool true] 28) = W0 at t0 hb0 ⊢
              have v0 := t0.cell 0 (v := .int .i64 2) rfl
              have v1 := t0.cell 1 (v := .int .i64 b) rfl
              have v2 := t0.cell 2 (v := .bool true) rfl
              refine (K1 _).mono ?_
              rintro e w' ⟨rfl, rfl⟩
              go_wp2_with fail
              refine (K2 _).mono ?_
              rintro e w' ⟨rfl, rfl⟩
              go_wp2_with fail
              go_ret
              exact ⟨by rw [HV.out]; rfl, hb0⟩
            · have han : (a == 2) = false := by simpa using ha2
              have HV := Lib.hid (show nx (a, b, true) 1 = 0 from by rw [hv]; simp [nextF, hbn, han])
              clear hv
              go_enter Tryz.func100, Tryz.ntmps100
              go_wp2_with fail
              generalize w.alloc (.cells #[.int .i64 a, .int .i64 b, .bool true] 28) = W0 at t0 hb0 ⊢
              have v0 := t0.cell 0 (v := .int .i64 a) rfl
              have v1 := t0.cell 1 (v := .int .i64 b) rfl
              have v2 := t0.cell 2 (v := .bool true) rfl
              refine (K1 _).mono ?_
              rintro e w' ⟨rfl, rfl⟩
              go_wp2_with fail
              refine (K2 _).mono ?_
              rintro e w' ⟨rfl, rfl⟩
              go_wp2_with fail
              go_ret
              exact ⟨by rw [HV.out]; rfl, hb0⟩
  · skip
    cases y
    · skip
      have HV := Lib.hid (show nx (a, b, o) 2 = 2 from by rw [hv]; simp [nextF])
      clear hv
      go_enter Tryz.func100, Tryz.ntmps100
      go_wp2_with fail
      generalize w.alloc (.cells #[.int .i64 a, .int .i64 b, .bool o] 28) = W0 at t0 hb0 ⊢
      have v0 := t0.cell 0 (v := .int .i64 a) rfl
      have v1 := t0.cell 1 (v := .int .i64 b) rfl
      have v2 := t0.cell 2 (v := .bool o) rfl
      refine (K2 _).mono ?_
      rintro e w' ⟨rfl, rfl⟩
      go_wp2_with fail
      go_ret
      exact ⟨by rw [HV.out]; rfl, hb0⟩
    · skip
      by_cases hb2 : b = 0
      · subst hb2
        have HV := Lib.hid (show nx (a, 0, o) 2 = 0 from by rw [hv]; simp [nextF])
        clear hv
        go_enter Tryz.func100, Tryz.ntmps100
        go_wp2_with fail
        generalize w.alloc (.cells #[.int .i64 a, .int .i64 0, .bool o] 28) = W0 at t0 hb0 ⊢
        have v0 := t0.cell 0 (v := .int .i64 a) rfl
        have v1 := t0.cell 1 (v := .int .i64 0) rfl
        have v2 := t0.cell 2 (v := .bool o) rfl
        refine (K2 _).mono ?_
        rintro e w' ⟨rfl, rfl⟩
        go_wp2_with fail
        go_ret
        exact ⟨by rw [HV.out]; rfl, hb0⟩
      · have hbn : (b != 0) = true := by simpa using hb2
        cases o
        · skip
          have HV := Lib.hid (show nx (a, b, false) 2 = 3 from by rw [hv]; simp [nextF, hbn])
          clear hv
          go_enter Tryz.func100, Tryz.ntmps100
          go_wp2_with fail
          generalize w.alloc (.cells #[.int .i64 a, .int .i64 b, .bool false] 28) = W0 at t0 hb0 ⊢
          have v0 := t0.cell 0 (v := .int .i64 a) rfl
          have v1 := t0.cell 1 (v := .int .i64 b) rfl
          have v2 := t0.cell 2 (v := .bool false) rfl
          refine (K2 _).mono ?_
          rintro e w' ⟨rfl, rfl⟩
          go_wp2_with fail
          go_ret
          exact ⟨by rw [HV.out]; rfl, hb0⟩
        · skip
          by_cases ha2 : a = 2
          · subst ha2
            have HV := Lib.hid (show nx (2, b, true) 2 = 4 from by rw [hv]; simp [nextF, hbn])
            clear hv
            go_enter Tryz.func100, Tryz.ntmps100
            go_wp2_with fail
            generalize w.alloc (.cells #[.int .i64 2, .int .i64 b, .bool true] 28) = W0 at t0 hb0 ⊢
            have v0 := t0.cell 0 (v := .int .i64 2) rfl
            have v1 := t0.cell 1 (v := .int .i64 b) rfl
            have v2 := t0.cell 2 (v := .bool true) rfl
            refine (K2 _).mono ?_
            rintro e w' ⟨rfl, rfl⟩
            go_wp2_with fail
            go_ret
            exact ⟨by rw [HV.out]; rfl, hb0⟩
          · have han : (a == 2) = false := by simpa using ha2
            have HV := Lib.hid (show nx (a, b, true) 2 = 0 from by rw [hv]; simp [nextF, hbn, han])
            clear hv
            go_enter Tryz.func100, Tryz.ntmps100
            go_wp2_with fail
            generalize w.alloc (.cells #[.int .i64 a, .int .i64 b, .bool true] 28) = W0 at t0 hb0 ⊢
            have v0 := t0.cell 0 (v := .int .i64 a) rfl
            have v1 := t0.cell 1 (v := .int .i64 b) rfl
            have v2 := t0.cell 2 (v := .bool true) rfl
            refine (K2 _).mono ?_
            rintro e w' ⟨rfl, rfl⟩
            go_wp2_with fail
            go_ret
            exact ⟨by rw [HV.out]; rfl, hb0⟩
  · skip
    by_cases hb2 : b = 0
    · subst hb2
      have HV := Lib.hid (show nx (a, 0, o) 3 = 0 from by rw [hv]; simp [nextF])
      clear hv
      go_enter Tryz.func100, Tryz.ntmps100
      go_wp2_with fail
      generalize w.alloc (.cells #[.int .i64 a, .int .i64 0, .bool o] 28) = W0 at t0 hb0 ⊢
      have v0 := t0.cell 0 (v := .int .i64 a) rfl
      have v1 := t0.cell 1 (v := .int .i64 0) rfl
      have v2 := t0.cell 2 (v := .bool o) rfl
      go_ret
      exact ⟨by rw [HV.out]; rfl, hb0⟩
    · have hbn : (b != 0) = true := by simpa using hb2
      cases o
      · skip
        have HV := Lib.hid (show nx (a, b, false) 3 = 3 from by rw [hv]; simp [nextF, hbn])
        clear hv
        go_enter Tryz.func100, Tryz.ntmps100
        go_wp2_with fail
        generalize w.alloc (.cells #[.int .i64 a, .int .i64 b, .bool false] 28) = W0 at t0 hb0 ⊢
        have v0 := t0.cell 0 (v := .int .i64 a) rfl
        have v1 := t0.cell 1 (v := .int .i64 b) rfl
        have v2 := t0.cell 2 (v := .bool false) rfl
        go_ret
        exact ⟨by rw [HV.out]; rfl, hb0⟩
      · skip
        by_cases ha2 : a = 2
        · subst ha2
          have HV := Lib.hid (show nx (2, b, true) 3 = 4 from by rw [hv]; simp [nextF, hbn])
          clear hv
          go_enter Tryz.func100, Tryz.ntmps100
          go_wp2_with fail
          generalize w.alloc (.cells #[.int .i64 2, .int .i64 b, .bool true] 28) = W0 at t0 hb0 ⊢
          have v0 := t0.cell 0 (v := .int .i64 2) rfl
          have v1 := t0.cell 1 (v := .int .i64 b) rfl
          have v2 := t0.cell 2 (v := .bool true) rfl
          go_ret
          exact ⟨by rw [HV.out]; rfl, hb0⟩
        · have han : (a == 2) = false := by simpa using ha2
          have HV := Lib.hid (show nx (a, b, true) 3 = 0 from by rw [hv]; simp [nextF, hbn, han])
          clear hv
          go_enter Tryz.func100, Tryz.ntmps100
          go_wp2_with fail
          generalize w.alloc (.cells #[.int .i64 a, .int .i64 b, .bool true] 28) = W0 at t0 hb0 ⊢
          have v0 := t0.cell 0 (v := .int .i64 a) rfl
          have v1 := t0.cell 1 (v := .int .i64 b) rfl
          have v2 := t0.cell 2 (v := .bool true) rfl
          go_ret
          exact ⟨by rw [HV.out]; rfl, hb0⟩
  · skip
    by_cases hb2 : b = 0
    · subst hb2
      have HV := Lib.hid (show nx (a, 0, o) 4 = 0 from by rw [hv]; simp [nextF])
      clear hv
      go_enter Tryz.func100, Tryz.ntmps100
      go_wp2_with fail
      generalize w.alloc (.cells #[.int .i64 a, .int .i64 0, .bool o] 28) = W0 at t0 hb0 ⊢
      have v0 := t0.cell 0 (v := .int .i64 a) rfl
      have v1 := t0.cell 1 (v := .int .i64 0) rfl
      have v2 := t0.cell 2 (v := .bool o) rfl
      go_ret
      exact ⟨by rw [HV.out]; rfl, hb0⟩
    · have hbn : (b != 0) = true := by simpa using hb2
      by_cases ha2 : a = 2
      · subst ha2
        have HV := Lib.hid (show nx (2, b, o) 4 = 4 from by rw [hv]; simp [nextF, hbn])
        clear hv
        go_enter Tryz.func100, Tryz.ntmps100
        go_wp2_with fail
        generalize w.alloc (.cells #[.int .i64 2, .int .i64 b, .bool o] 28) = W0 at t0 hb0 ⊢
        have v0 := t0.cell 0 (v := .int .i64 2) rfl
        have v1 := t0.cell 1 (v := .int .i64 b) rfl
        have v2 := t0.cell 2 (v := .bool o) rfl
        go_ret
        exact ⟨by rw [HV.out]; rfl, hb0⟩
      · have han : (a == 2) = false := by simpa using ha2
        have HV := Lib.hid (show nx (a, b, o) 4 = 0 from by rw [hv]; simp [nextF, hbn, han])
        clear hv
        go_enter Tryz.func100, Tryz.ntmps100
        go_wp2_with fail
        generalize w.alloc (.cells #[.int .i64 a, .int .i64 b, .bool o] 28) = W0 at t0 hb0 ⊢
        have v0 := t0.cell 0 (v := .int .i64 a) rfl
        have v1 := t0.cell 1 (v := .int .i64 b) rfl
        have v2 := t0.cell 2 (v := .bool o) rfl
        go_ret
        exact ⟨by rw [HV.out]; rfl, hb0⟩
  · skip
    have HV := Lib.hid (show nx (a, b, o) 5 = 0 from by rw [hv]; simp [nextF])
    clear hv
    go_enter Tryz.func100, Tryz.ntmps100
    go_wp2_with fail
    generalize w.alloc (.cells #[.int .i64 a, .int .i64 b, .bool o] 28) = W0 at t0 hb0 ⊢
    have v0 := t0.cell 0 (v := .int .i64 a) rfl
    have v1 := t0.cell 1 (v := .int .i64 b) rfl
    have v2 := t0.cell 2 (v := .bool o) rfl
    go_ret
    exact ⟨by rw [HV.out]; rfl, hb0⟩
theorem impl_ctlOk (a b : Int) (o : Bool) (w : World) (ws : wfC (a, b, o)) :
    Calls Tryz.prog 84 #[.agg #[.int .i64 a, .int .i64 b, .bool o]] w fun e w' => e = .returned (.bool (ctlOk (a, b, o))) ∧ Below w.heap.size w w' := by
  have H1 := Lib.hid (fun V : World => impl_faultFrom a b 1 o V (.inl rfl))
  have HV := Lib.hid (ctlOk_is (a, b, o))
  generalize nx (a, b, o) 1 = z at H1 HV
  go_enter Tryz.func84, Tryz.ntmps84
  go_wp2_with fail
  refine (H1.out _).mono ?_
  rintro e w1 ⟨rfl, hb1⟩
  have HB1 := Lib.hid (btr ((Below.refl w.heap.size w).alloc (Nat.le_refl _) (.cells #[.int .i64 a, .int .i64 b, .bool o] 28)) hb1)
  clear hb1
  go_wp2_with fail
  go_ret
  exact ⟨by rw [HV.out]; rfl, HB1.out⟩
end Go.Proofs.YteopkcndkcciaaaGreat.Ctls
namespace Go.Proofs.YteopkcndkcciaaaGreat.Inss
set_option maxRecDepth 100000
open Go.ChangeShapes Go.WideShapes Go.ChangeAt Go.RowKit
open Go.Proofs.YteopkcndkcciaaaGreat.Base Go.Proofs.YteopkcndkcciaaaGreat.Mem Go.Proofs.YteopkcndkcciaaaGreat.Data Go.Proofs.YteopkcndkcciaaaGreat.Addrs Go.Proofs.YteopkcndkcciaaaGreat.Rights
set_option linter.unusedVariables false
set_option linter.unusedSimpArgs false
/-- The largest X of an operation. -/
def topX (o : Int) : Int := if o = 1 ∨ o = 2 ∨ o = 5 ∨ o = 6 then 99 else if o = 3 ∨ o = 4 then 15 else if o = 7 then 0 else if o = 8 then 11 else -1
theorem insOk_top (o x : Int) : insOk (o, x) = (decide (0 ≤ x) && decide (x ≤ topX o)) := by
  unfold insOk topX
  dsimp only
  have hz : (x == 0) = (decide (0 ≤ x) && decide (x ≤ 0)) := by
    rw [Bool.eq_iff_iff, beq_iff_eq, Bool.and_eq_true, decide_eq_true_iff, decide_eq_true_iff]; omega
  have hb : ∀ k : Int, inB x 0 k = (decide (0 ≤ x) && decide (x ≤ k)) := fun k => by
    rw [Bool.eq_iff_iff, inB_iff, Bool.and_eq_true, decide_eq_true_iff, decide_eq_true_iff]
  have hn : false = (decide (0 ≤ x) && decide (x ≤ -1)) := by
    rw [eq_comm, Bool.and_eq_false_iff, decide_eq_false_iff_not, decide_eq_false_iff_not]; omega
  split
  · exact hb 99
  · split
    · exact hb 15
    · split
      · exact hz
      · split
        · exact hb 11
        · exact hn
set_option maxHeartbeats 4000000 in
theorem impl_topX (o : Int) (w : World) :
    Calls Tryz.prog 99 #[.int .i64 o] w fun e w' => e = .returned (.int .i64 (topX o)) ∧ w' = w := by
  rcases op_cases o with rfl | rfl | rfl | rfl | rfl | rfl | rfl | rfl | h
  iterate 8
    · go_enter Tryz.func99, Tryz.ntmps99
      go_wp2_with fail
      go_ret
      exact ⟨rfl, rfl⟩
  · have HV := Lib.hid (show topX o = -1 by
      simp only [beq_eq_false_iff_ne, ne_eq] at h
      simp [topX, h])
    obtain ⟨h1, h2, h3, h4, h5, h6, h7, h8⟩ := h
    go_enter Tryz.func99, Tryz.ntmps99
    go_wp2_with fail
    go_ret
    exact ⟨by rw [HV.out]; rfl, rfl⟩
set_option maxHeartbeats 4000000 in
theorem impl_insOk (o x : Int) (w : World) (ws : wfJ (o, x)) :
    Calls Tryz.prog 82 #[.agg #[.int .i64 o, .int .i64 x]] w fun e w' => e = .returned (.bool (insOk (o, x))) ∧ Below w.heap.size w w' := by
  have hb0 : Below w.heap.size w (w.alloc (.cells #[.int .i64 o, .int .i64 x] 54)) := (Below.refl _ _).alloc (Nat.le_refl _) _
  have k0 : (w.alloc (.cells #[.int .i64 o, .int .i64 x] 54)).cell? ⟨w.heap.size, 0, none⟩ = some (.int .i64 o) := cell_of_row _ _ 0 _ _ _ (heap_alloc_new w _)
  have k1 : (w.alloc (.cells #[.int .i64 o, .int .i64 x] 54)).cell? ⟨w.heap.size, 1, none⟩ = some (.int .i64 x) := cell_of_row _ _ 1 _ _ _ (heap_alloc_new w _)
  have HB := Lib.hid hb0
  have HC := Lib.hid (show ∀ V : World, Calls Tryz.prog 99 #[.int .i64 o] V fun e w' => e = .returned (.int .i64 (topX o)) ∧ w' = V from impl_topX o)
  have hv := insOk_top o x
  generalize topX o = t at hv HC
  clear hb0 ws
  by_cases h0 : 0 ≤ x
  · have hd : decide (x ≥ 0) = true := decide_eq_true h0
    rw [decide_eq_true h0, Bool.true_and] at hv
    have HV := Lib.hid hv
    clear hv h0
    go_enter Tryz.func82, Tryz.ntmps82
    go_wp2_with fail
    generalize w.alloc (.cells #[.int .i64 o, .int .i64 x] 54) = W at k0 k1 HB ⊢
    go_quiet ((go_at_call 99; exact Calls.quiet_of_same (HC.out _)))
    go_wp2_with fail
    go_ret
    exact ⟨by rw [HV.out]; rfl, btr HB.out (below_drewN (Below.refl _ _) _)⟩
  · have hd : decide (x ≥ 0) = false := decide_eq_false (by omega)
    rw [decide_eq_false h0, Bool.false_and] at hv
    have HV := Lib.hid hv
    clear hv h0
    go_enter Tryz.func82, Tryz.ntmps82
    go_wp2_with fail
    generalize w.alloc (.cells #[.int .i64 o, .int .i64 x] 54) = W at k0 k1 HB ⊢
    go_quiet ((go_at_call 99; exact Calls.quiet_of_same (HC.out _)))
    go_wp2_with fail
    go_ret
    exact ⟨by rw [HV.out]; rfl, btr HB.out (below_drewN (Below.refl _ _) _)⟩
theorem progOk_len {l : List JT} (h : l.length = 0 ∨ 12 < l.length) : progOk l = false := by
  unfold progOk
  rw [inB_false.2 (by omega), Bool.and_false]
set_option maxHeartbeats 2000000 in
theorem impl_progOk (A : Option Addr) (n c : Nat) (l : List JT) (w : World) (hn : n ≤ 1048576) (hl : l.length = n) (h1 : Lies w 0 w.heap.size A (jcells l)) (wl : wfJL l) :
    Calls Tryz.prog 51 #[.slice A n c] w fun e w' => e = .returned (.bool (progOk l)) ∧ Below w.heap.size w w' := by
  have H1 := Lib.hid h1
  have HL := Lib.hid hl
  have HW := Lib.hid wl
  clear h1 hl wl
  by_cases h0 : n = 0
  · subst h0
    have HV := Lib.hid (progOk_len (l := l) (.inl HL.out))
    go_enter Tryz.func51, Tryz.ntmps51
    go_wp2_with fail
    go_ret
    exact ⟨by rw [HV.out]; rfl, Below.refl _ _⟩
  · by_cases h12 : 12 < n
    · have HV := Lib.hid (progOk_len (l := l) (.inr (by rw [HL.out]; exact h12)))
      have e0 : ((n : Int) == 0) = false := by simpa using h0
      have e12 : decide ((n : Int) > 12) = true := decide_eq_true (by omega)
      go_enter Tryz.func51, Tryz.ntmps51
      go_wp2_with fail
      go_ret
      exact ⟨by rw [HV.out]; rfl, Below.refl _ _⟩
    · have e0 : ((n : Int) == 0) = false := by simpa using h0
      have e12 : decide ((n : Int) > 12) = false := decide_eq_false (by omega)
      go_enter Tryz.func51, Tryz.ntmps51
      go_wp2_with fail
      go_loopw [14] (fun i wr => ∃ (k : Nat), k ≤ n ∧ i = .int .i64 k ∧ (∀ (j : Nat) (hj : j < l.length), j < k → insOk l[j] = true) ∧ Below w.heap.size w wr) (fun i _ => n - (intOf i).toNat)
      case atStart => exact ⟨0, Nat.zero_le _, rfl, fun j hj h => absurd h (Nat.not_lt_zero _), Below.refl _ _⟩
      case round =>
        obtain ⟨k, hk, rfl, hall, hb⟩ := hrel
        have HA := Lib.hid hall
        have HB := Lib.hid hb
        clear hall
        by_cases hlt : k < n
        · have hkl : k < l.length := by have := HL.out; omega
          obtain ⟨b, off, rfl, _, hbw, c0, c1⟩ := j_at H1.out k hkl
          have d0 := (hb.cell (p := ⟨b, off + k * 2, none⟩) hbw).trans c0
          have d1 := (hb.cell (p := ⟨b, off + k * 2 + 1, none⟩) hbw).trans c1
          have hj0 : (0 : Int) ≤ (k : Int) := Int.natCast_nonneg _
          have hj1 : (k : Int) < (n : Int) := by omega
          have hcall := impl_insOk l[k].1 l[k].2 wr (HW.out _ (List.getElem_mem hkl))
          obtain ⟨v, hv⟩ : ∃ v, insOk l[k] = v := ⟨_, rfl⟩
          rw [show insOk (l[k].1, l[k].2) = v from hv] at hcall
          have HCALL := Lib.hid hcall
          have HV := Lib.hid hv
          clear hcall hv c0 c1 hb
          generalize l[k].1 = o at d0 HCALL
          generalize l[k].2 = x at d1 HCALL
          cases v
          · go_wp2_with fail
            refine HCALL.out.mono ?_
            rintro e w1 ⟨rfl, hb1⟩
            have HB1 := Lib.hid (btr HB.out hb1)
            clear hb1
            go_wp2_with fail
            go_ret
            exact ⟨by rw [progOk_no hkl HV.out]; rfl, HB1.out⟩
          · go_wp2_with fail
            refine HCALL.out.mono ?_
            rintro e w1 ⟨rfl, hb1⟩
            have HB1 := Lib.hid (btr HB.out hb1)
            clear hb1
            go_wp2_with fail
            go_roundw
            case rel =>
              refine ⟨k + 1, by omega, by go_num, fun j hj h => ?_, HB1.out⟩
              rcases Nat.lt_succ_iff_lt_or_eq.1 h with h2 | rfl
              · exact HA.out j hj h2
              · exact HV.out
            case measure => simp [intOf]; omega
        · obtain rfl : k = n := by omega
          have hv := progOk_yes (l := l) (fun j hj => HA.out j hj (by have := HL.out; omega))
          rw [HL.out, inB_iff.2 ⟨by omega, by omega⟩] at hv
          have HV := Lib.hid hv
          clear hv hb
          go_wp2_with fail
          go_ret
          exact ⟨by rw [HV.out]; rfl, HB.out⟩
theorem neq_pair (x y u v : Int) (W : World) : (binOp .neq 54 (.agg #[.int .i64 x, .int .i64 y]) (.agg #[.int .i64 u, .int .i64 v])).run Tryz.prog W = .ok (.bool (!(x == u && y == v))) W := by
  have u3 := Tryz.underlying3
  have a3 := Tryz.isAgg3
  have z3 := Tryz.sizeOf3
  have hS : Tryz.prog.underlying 54 = some (.struct (Tryz.prog.fieldsOf 54)) := by kernel_rfl
  have hp : Tryz.prog.stoodInHeld 54 = false := by kernel_rfl
  rw [run_neq_struct, show (10000 : Nat) = 9999 + 1 from rfl, run_equalIn_agg W 9999 54 _ _ hS hp]
  simp only [Program.fieldsOf, Tryz.underlying54]
  go_simp
  by_cases hx : x = u <;> by_cases hy : y = v <;> simp [hx, hy]
set_option maxHeartbeats 2000000 in
theorem impl_sameD (A B : Option Addr) (n n' c d : Nat) (l m : List JT) (w : World) (hn : n ≤ 1048576) (hn' : n' ≤ 1048576) (hl : l.length = n) (hm : m.length = n')
    (h1 : Lies w 0 w.heap.size A (jcells l)) (h2 : Lies w 0 w.heap.size B (jcells m)) :
    Calls Tryz.prog 48 #[.slice A n c, .slice B n' d] w (SamePost w l m) := by
  have H1 := Lib.hid h1
  have H2 := Lib.hid h2
  have HL := Lib.hid hl
  have HM := Lib.hid hm
  clear h1 h2 hl hm
  by_cases hnn : n = n'
  · subst hnn
    go_enter Tryz.func48, Tryz.ntmps48
    go_wp2
    go_loopw [13] (fun i wr => ∃ (k q : Nat), k ≤ n ∧ i = .int .i64 k ∧ l.take k = m.take k ∧ wr = w.drewN q) (fun i _ => n - (intOf i).toNat)
    case atStart => exact ⟨0, 0, Nat.zero_le _, rfl, rfl, rfl⟩
    case round =>
      obtain ⟨k, q, hk, rfl, ht, rfl⟩ := hrel
      have HT := Lib.hid ht
      clear ht
      by_cases hlt : k < n
      · have hkl : k < l.length := by have := HL.out; omega
        have hkm : k < m.length := by have := HM.out; omega
        obtain ⟨b, off, rfl, _, hbw, c1, c2⟩ := j_at H1.out k hkl
        obtain ⟨b', off', rfl, _, hbw', c1', c2'⟩ := j_at H2.out k hkm
        have hi0 : (0 : Int) ≤ (k : Int) := Int.natCast_nonneg _
        have hi1 : (k : Int) < (n : Int) := by omega
        have hstep := same_step hkl hkm HT.out
        have hne := neq_pair l[k].1 l[k].2 m[k].1 m[k].2
        have HP := Lib.hid hstep
        clear hstep
        generalize l[k].1 = x at c1 HP hne
        generalize l[k].2 = y at c2 HP hne
        generalize m[k].1 = x' at c1' HP hne
        generalize m[k].2 = y' at c2' HP hne
        by_cases hx : x = x' ∧ y = y'
        · obtain ⟨rfl, rfl⟩ := hx
          rw [show (!(x == x && y == y)) = false by simp] at hne
          go_wp2
          go_quiet (fail)
          go_wp2
          go_roundw
          case rel => exact ⟨k + 1, _, by omega, by go_num, HP.out.1 (by simp), rfl⟩
          case measure => simp [intOf]; omega
        · have hno := HP.out.2 hx
          have HX := Lib.hid hno
          rw [show (!(x == x' && y == y')) = true by
            rw [Bool.not_eq_true', Bool.and_eq_false_iff, beq_eq_false_iff_ne, beq_eq_false_iff_ne]
            by_cases h : x = x'
            · exact .inr (fun h2 => hx ⟨h, h2⟩)
            · exact .inl h] at hne
          clear hno hx HP
          go_wp2
          go_quiet (fail)
          go_wp2
          go_ret
          exact same_no2 _ _ HX.out
      · have hkn : k = n := by omega
        subst hkn
        go_wp2
        go_ret
        exact same_yes _ HT.out HL.out HM.out
  · have hd : (n == n') = false := by simpa using hnn
    have hd' : ((n : Int) == (n' : Int)) = false := by simp; omega
    have hd2 : ((n : Int) != (n' : Int)) = true := by simp; omega
    go_enter Tryz.func48, Tryz.ntmps48
    go_wp2
    go_ret
    exact same_no 0 (fun e => hnn (by rw [← HL.out, ← HM.out, e]))
theorem impl_same (A B : Option Addr) (n n' c d : Nat) (l m : List JT) (w : World) (hn : n ≤ 1048576) (hn' : n' ≤ 1048576) (hl : l.length = n) (hm : m.length = n')
    (h1 : Lies w 0 w.heap.size A (jcells l)) (h2 : Lies w 0 w.heap.size B (jcells m)) (wl : wfJL l) (wm : wfJL m) :
    Calls Tryz.prog 48 #[.slice A n c, .slice B n' d] w fun e w' => e = .returned (.bool (decide (l = m))) ∧ Below w.heap.size w w' :=
  (impl_sameD A B n n' c d l m w hn hn' hl hm h1 h2).mono fun e w' ⟨h, q, hq⟩ => ⟨h, hq ▸ below_drewN (Below.refl _ _) _⟩
end Go.Proofs.YteopkcndkcciaaaGreat.Inss
namespace Go.Proofs.YteopkcndkcciaaaGreat.Guests
set_option maxRecDepth 100000
open Go.ChangeShapes Go.WideShapes Go.ChangeAt Go.RowKit
open Go.Proofs.YteopkcndkcciaaaGreat.Base Go.Proofs.YteopkcndkcciaaaGreat.Mem Go.Proofs.YteopkcndkcciaaaGreat.Data Go.Proofs.YteopkcndkcciaaaGreat.Slots Go.Proofs.YteopkcndkcciaaaGreat.Ints Go.Proofs.YteopkcndkcciaaaGreat.Ctls Go.Proofs.YteopkcndkcciaaaGreat.Exits Go.Proofs.YteopkcndkcciaaaGreat.Stt Go.Proofs.YteopkcndkcciaaaGreat.Irqs Go.Proofs.YteopkcndkcciaaaGreat.Inss
set_option linter.unusedVariables false
set_option linter.unusedSimpArgs false
/-- The numbers of a guest are of an int's range. -/
def gnum (g : gT) : Prop := wfGuest g
theorem gnum_pd {g : gT} (h : gnum g) : (Lit.int .i64 g.pd).wf = true := h.2.2.2.2.2.2.1
theorem gnum_t {g : gT} (h : gnum g) : wfC g.t := h.2.2.2.2.2.1
theorem gnum_x {g : gT} (h : gnum g) : wfQ g.x := h.2.2.2.2.2.2.2.1
theorem impl_new4 (w : World) : Calls Tryz.prog 32 #[.int .i64 4] w (RowPost w 4 (Slots.nosL 4)) := by
  have h := Slots.impl_new 4 w
  rwa [show Slots.newN 4 = 4 by decide] at h
set_option maxRecDepth 100000 in
set_option maxHeartbeats 4000000 in
theorem lib_cloneIns (xs : List (Int × Int)) (A : Option Addr) (c : Nat) (w : World) (hp : xs.length ≤ 1048576) (h : rdLst (rPair rInt rInt) w 0 w.heap.size xs [.slice A xs.length c]) : Calls Tryz.prog 31 #[.slice A xs.length c] w (Gives (rLst 54 (rPair rInt rInt)) w xs) := by
  rcases A with _ | ad
  · obtain rfl := Sx.p2_nothing h
    refine Sx.enter (args := [.slice none 0 c]) Tryz.func31 rfl Tryz.ntmps31 rfl ?_
    refine Sx.C.seq ?_
    refine Sx.C.region ?_
    refine Sx.G.pure (.slice none 0 0) (by kernel_rfl) (fun w => by kernel_rfl) ?_
    refine Sx.G.nil ?_
    refine Sx.E.next ?_
    refine Sx.C.seq ?_
    refine Sx.C.seq ?_
    refine Sx.C.region ?_
    refine Sx.G.pure (.slice none 0 c) (by kernel_rfl) (fun w => by kernel_rfl) ?_
    refine Sx.G.pure (.bool true) (by kernel_rfl) (fun w => by kernel_rfl) ?_
    refine Sx.G.nil ?_
    refine Sx.E.next ?_
    refine Sx.C.yes (by kernel_rfl) (by kernel_rfl) ?_
    refine Sx.C.seq ?_
    refine Sx.C.region ?_
    refine Sx.G.pure (.slice none 0 0) (by kernel_rfl) (fun w => by kernel_rfl) ?_
    refine Sx.G.nil ?_
    refine Sx.E.next ?_
    refine Sx.C.ret ?_
    refine Sx.E.then_ret ?_
    refine Sx.E.ret1 (.slice none 0 0) rfl (by kernel_rfl) (fun w S => ?_)
    have S' := St.nil S 54 (rPair rInt rInt)
    exact ⟨[_], _, rfl, S'.own 0 rfl, S'.nodup 0 rfl, S.below⟩
  · refine Sx.enter (args := [.slice (some ad) xs.length c]) Tryz.func31 rfl Tryz.ntmps31 rfl ?_
    refine Sx.C.seq ?_
    refine Sx.C.region ?_
    refine Sx.G.pure (.slice none 0 0) (by kernel_rfl) (fun w => by kernel_rfl) ?_
    refine Sx.G.nil ?_
    refine Sx.E.next ?_
    refine Sx.C.seq ?_
    refine Sx.C.seq ?_
    refine Sx.C.region ?_
    refine Sx.G.pure (.slice (some ad) xs.length c) (by kernel_rfl) (fun w => by kernel_rfl) ?_
    refine Sx.G.pure (.bool false) (by kernel_rfl) (fun w => by kernel_rfl) ?_
    refine Sx.G.nil ?_
    refine Sx.E.next ?_
    refine Sx.C.no (by kernel_rfl) (by kernel_rfl) ?_
    refine Sx.C.skip ?_
    refine Sx.E.next ?_
    refine Sx.C.seq ?_
    refine Sx.C.region ?_
    refine Sx.G.fresh 54 (rPair rInt rInt) (by kernel_rfl) (fun w => by kernel_rfl) (fun b1 hi1 => ?_)
    refine Sx.G.pure (.slice (some ad) xs.length c) (by kernel_rfl) (fun w => by kernel_rfl) ?_
    refine Sx.G.apps 0 rfl xs (fun w S => St.old (r := rLsw (rPair rInt rInt)) S h) (List.nil_append _) xs.length (by simp) flat_P2 (.tmp 5) (.tmp 6) 24 2 16 rfl rfl (by kernel_rfl) (by kernel_rfl) rfl (by kernel_rfl) (by kernel_rfl) (by simp only [maxLen, List.length_nil, List.length_cons]; omega) (by simp only [List.length_nil, List.length_cons]; omega) (fun A2 c2 F2 hi2 hm2 => ?_)
    refine Sx.G.pure (.slice A2 xs.length c2) (by kernel_rfl) (fun w => by kernel_rfl) ?_
    refine Sx.G.nil ?_
    refine Sx.E.next ?_
    refine Sx.C.ret ?_
    refine Sx.E.ret1 (.slice A2 xs.length c2) rfl (by kernel_rfl) (fun w S => ?_)
    exact ⟨[_], _, rfl, S.own 0 rfl, S.nodup 0 rfl, S.below⟩
set_option maxRecDepth 100000 in
set_option maxHeartbeats 4000000 in
theorem lib_cloneSlot (xs : List (Int × Int)) (A : Option Addr) (c : Nat) (w : World) (hp : xs.length ≤ 1048576) (h : rdLst (rPair rInt rInt) w 0 w.heap.size xs [.slice A xs.length c]) : Calls Tryz.prog 73 #[.slice A xs.length c] w (Gives (rLst 86 (rPair rInt rInt)) w xs) := by
  rcases A with _ | ad
  · obtain rfl := Sx.p2_nothing h
    refine Sx.enter (args := [.slice none 0 c]) Tryz.func73 rfl Tryz.ntmps73 rfl ?_
    refine Sx.C.seq ?_
    refine Sx.C.region ?_
    refine Sx.G.pure (.slice none 0 0) (by kernel_rfl) (fun w => by kernel_rfl) ?_
    refine Sx.G.nil ?_
    refine Sx.E.next ?_
    refine Sx.C.seq ?_
    refine Sx.C.seq ?_
    refine Sx.C.region ?_
    refine Sx.G.pure (.slice none 0 c) (by kernel_rfl) (fun w => by kernel_rfl) ?_
    refine Sx.G.pure (.bool true) (by kernel_rfl) (fun w => by kernel_rfl) ?_
    refine Sx.G.nil ?_
    refine Sx.E.next ?_
    refine Sx.C.yes (by kernel_rfl) (by kernel_rfl) ?_
    refine Sx.C.seq ?_
    refine Sx.C.region ?_
    refine Sx.G.pure (.slice none 0 0) (by kernel_rfl) (fun w => by kernel_rfl) ?_
    refine Sx.G.nil ?_
    refine Sx.E.next ?_
    refine Sx.C.ret ?_
    refine Sx.E.then_ret ?_
    refine Sx.E.ret1 (.slice none 0 0) rfl (by kernel_rfl) (fun w S => ?_)
    have S' := St.nil S 86 (rPair rInt rInt)
    exact ⟨[_], _, rfl, S'.own 0 rfl, S'.nodup 0 rfl, S.below⟩
  · refine Sx.enter (args := [.slice (some ad) xs.length c]) Tryz.func73 rfl Tryz.ntmps73 rfl ?_
    refine Sx.C.seq ?_
    refine Sx.C.region ?_
    refine Sx.G.pure (.slice none 0 0) (by kernel_rfl) (fun w => by kernel_rfl) ?_
    refine Sx.G.nil ?_
    refine Sx.E.next ?_
    refine Sx.C.seq ?_
    refine Sx.C.seq ?_
    refine Sx.C.region ?_
    refine Sx.G.pure (.slice (some ad) xs.length c) (by kernel_rfl) (fun w => by kernel_rfl) ?_
    refine Sx.G.pure (.bool false) (by kernel_rfl) (fun w => by kernel_rfl) ?_
    refine Sx.G.nil ?_
    refine Sx.E.next ?_
    refine Sx.C.no (by kernel_rfl) (by kernel_rfl) ?_
    refine Sx.C.skip ?_
    refine Sx.E.next ?_
    refine Sx.C.seq ?_
    refine Sx.C.region ?_
    refine Sx.G.fresh 86 (rPair rInt rInt) (by kernel_rfl) (fun w => by kernel_rfl) (fun b1 hi1 => ?_)
    refine Sx.G.pure (.slice (some ad) xs.length c) (by kernel_rfl) (fun w => by kernel_rfl) ?_
    refine Sx.G.apps 0 rfl xs (fun w S => St.old (r := rLsw (rPair rInt rInt)) S h) (List.nil_append _) xs.length (by simp) flat_P2 (.tmp 5) (.tmp 6) 26 2 16 rfl rfl (by kernel_rfl) (by kernel_rfl) rfl (by kernel_rfl) (by kernel_rfl) (by simp only [maxLen, List.length_nil, List.length_cons]; omega) (by simp only [List.length_nil, List.length_cons]; omega) (fun A2 c2 F2 hi2 hm2 => ?_)
    refine Sx.G.pure (.slice A2 xs.length c2) (by kernel_rfl) (fun w => by kernel_rfl) ?_
    refine Sx.G.nil ?_
    refine Sx.E.next ?_
    refine Sx.C.ret ?_
    refine Sx.E.ret1 (.slice A2 xs.length c2) rfl (by kernel_rfl) (fun w S => ?_)
    exact ⟨[_], _, rfl, S.own 0 rfl, S.nodup 0 rfl, S.below⟩
set_option maxRecDepth 100000 in
set_option maxHeartbeats 4000000 in
theorem lib_cloneInt (xs : List (Int)) (A : Option Addr) (c : Nat) (w : World) (hp : xs.length ≤ 1048576) (h : rdLst rInt w 0 w.heap.size xs [.slice A xs.length c]) : Calls Tryz.prog 74 #[.slice A xs.length c] w (Gives (rLst 3 rInt) w xs) := by
  rcases A with _ | ad
  · obtain rfl := Sx.i1_nothing h
    refine Sx.enter (args := [.slice none 0 c]) Tryz.func74 rfl Tryz.ntmps74 rfl ?_
    refine Sx.C.seq ?_
    refine Sx.C.region ?_
    refine Sx.G.pure (.slice none 0 0) (by kernel_rfl) (fun w => by kernel_rfl) ?_
    refine Sx.G.nil ?_
    refine Sx.E.next ?_
    refine Sx.C.seq ?_
    refine Sx.C.seq ?_
    refine Sx.C.region ?_
    refine Sx.G.pure (.slice none 0 c) (by kernel_rfl) (fun w => by kernel_rfl) ?_
    refine Sx.G.pure (.bool true) (by kernel_rfl) (fun w => by kernel_rfl) ?_
    refine Sx.G.nil ?_
    refine Sx.E.next ?_
    refine Sx.C.yes (by kernel_rfl) (by kernel_rfl) ?_
    refine Sx.C.seq ?_
    refine Sx.C.region ?_
    refine Sx.G.pure (.slice none 0 0) (by kernel_rfl) (fun w => by kernel_rfl) ?_
    refine Sx.G.nil ?_
    refine Sx.E.next ?_
    refine Sx.C.ret ?_
    refine Sx.E.then_ret ?_
    refine Sx.E.ret1 (.slice none 0 0) rfl (by kernel_rfl) (fun w S => ?_)
    have S' := St.nil S 3 rInt
    exact ⟨[_], _, rfl, S'.own 0 rfl, S'.nodup 0 rfl, S.below⟩
  · refine Sx.enter (args := [.slice (some ad) xs.length c]) Tryz.func74 rfl Tryz.ntmps74 rfl ?_
    refine Sx.C.seq ?_
    refine Sx.C.region ?_
    refine Sx.G.pure (.slice none 0 0) (by kernel_rfl) (fun w => by kernel_rfl) ?_
    refine Sx.G.nil ?_
    refine Sx.E.next ?_
    refine Sx.C.seq ?_
    refine Sx.C.seq ?_
    refine Sx.C.region ?_
    refine Sx.G.pure (.slice (some ad) xs.length c) (by kernel_rfl) (fun w => by kernel_rfl) ?_
    refine Sx.G.pure (.bool false) (by kernel_rfl) (fun w => by kernel_rfl) ?_
    refine Sx.G.nil ?_
    refine Sx.E.next ?_
    refine Sx.C.no (by kernel_rfl) (by kernel_rfl) ?_
    refine Sx.C.skip ?_
    refine Sx.E.next ?_
    refine Sx.C.seq ?_
    refine Sx.C.region ?_
    refine Sx.G.fresh 3 rInt (by kernel_rfl) (fun w => by kernel_rfl) (fun b1 hi1 => ?_)
    refine Sx.G.pure (.slice (some ad) xs.length c) (by kernel_rfl) (fun w => by kernel_rfl) ?_
    refine Sx.G.apps 0 rfl xs (fun w S => St.old (r := rLsw rInt) S h) (List.nil_append _) xs.length (by simp) flat_int (.tmp 5) (.tmp 6) 31 1 8 rfl rfl (by kernel_rfl) (by kernel_rfl) rfl (by kernel_rfl) (by kernel_rfl) (by simp only [maxLen, List.length_nil, List.length_cons]; omega) (by simp only [List.length_nil, List.length_cons]; omega) (fun A2 c2 F2 hi2 hm2 => ?_)
    refine Sx.G.pure (.slice A2 xs.length c2) (by kernel_rfl) (fun w => by kernel_rfl) ?_
    refine Sx.G.nil ?_
    refine Sx.E.next ?_
    refine Sx.C.ret ?_
    refine Sx.E.ret1 (.slice A2 xs.length c2) rfl (by kernel_rfl) (fun w S => ?_)
    exact ⟨[_], _, rfl, S.own 0 rfl, S.nodup 0 rfl, S.below⟩
set_option maxRecDepth 100000 in
set_option maxHeartbeats 4000000 in
theorem impl_regs (g : gT) (cs : List Value) (w : World) (h : rG.rd w 0 w.heap.size g cs) : Calls Tryz.prog 47 #[.agg cs.toArray] w (fun e w' => e = .returned (.agg #[.int .i64 g.a, .int .i64 g.pc, .int .i64 g.t.1, .int .i64 g.t.2.1, .bool g.t.2.2, .int .i64 g.pd, .int .i64 g.x.1, .int .i64 g.x.2.1, .bool g.x.2.2.1, .int .i64 g.x.2.2.2, .bool g.hl]) ∧ Below w.heap.size w w') := by
  have hr := h
  obtain ⟨P0, P1, P2, P3, rfl, h0, h1, h2, h3⟩ := rG_rd h
  obtain ⟨PA0, Pc0, e0, hP0⟩ := lst_val h0
  subst e0
  obtain ⟨PA1, Pc1, e1, hP1⟩ := lst_val h1
  subst e1
  obtain ⟨PA2, Pc2, e2, hP2⟩ := lst_val h2
  subst e2
  obtain ⟨PA3, Pc3, e3, hP3⟩ := lst_val h3
  subst e3
  refine Sx.enter (args := [.agg #[.slice PA0 g.prog.length Pc0, .int .i64 g.a, .int .i64 g.pc, .slice PA1 g.wr.length Pc1, .slice PA2 g.lv.length Pc2, .int .i64 g.t.1, .int .i64 g.t.2.1, .bool g.t.2.2, .int .i64 g.pd, .int .i64 g.x.1, .int .i64 g.x.2.1, .bool g.x.2.2.1, .int .i64 g.x.2.2.2, .bool g.hl, .slice PA3 g.seen.length Pc3]]) Tryz.func47 rfl Tryz.ntmps47 rfl ?_
  refine Sx.C.seq ?_
  refine Sx.C.region ?_
  refine Sx.G.box 33 (.tmp 0) [.slice PA0 g.prog.length Pc0, .int .i64 g.a, .int .i64 g.pc, .slice PA1 g.wr.length Pc1, .slice PA2 g.lv.length Pc2, .int .i64 g.t.1, .int .i64 g.t.2.1, .bool g.t.2.2, .int .i64 g.pd, .int .i64 g.x.1, .int .i64 g.x.2.1, .bool g.x.2.2.1, .int .i64 g.x.2.2.2, .bool g.hl, .slice PA3 g.seen.length Pc3] rfl (by kernel_rfl) (by kernel_rfl) (fun b1 => ?_)
  refine Sx.G.alloc 70 (.agg #[.int .i64 0, .int .i64 0, .int .i64 0, .int .i64 0, .bool false, .int .i64 0, .int .i64 0, .int .i64 0, .bool false, .int .i64 0, .bool false]) [.int .i64 0, .int .i64 0, .int .i64 0, .int .i64 0, .bool false, .int .i64 0, .int .i64 0, .int .i64 0, .bool false, .int .i64 0, .bool false] rfl (by kernel_rfl) (fun w => by kernel_rfl) (by kernel_rfl) (fun b2 => ?_)
  refine Sx.G.nil ?_
  refine Sx.E.next ?_
  refine Sx.C.seq ?_
  refine Sx.C.region ?_
  refine Sx.G.pure (.pointer (some ⟨b1, 1, none⟩)) (by kernel_rfl) (fun w => by kernel_rfl) ?_
  refine Sx.G.ld1 3 (.tmp 3) b1 1 1 [.slice PA0 g.prog.length Pc0, .int .i64 g.a, .int .i64 g.pc, .slice PA1 g.wr.length Pc1, .slice PA2 g.lv.length Pc2, .int .i64 g.t.1, .int .i64 g.t.2.1, .bool g.t.2.2, .int .i64 g.pd, .int .i64 g.x.1, .int .i64 g.x.2.1, .bool g.x.2.2.1, .int .i64 g.x.2.2.2, .bool g.hl, .slice PA3 g.seen.length Pc3] (.int .i64 g.a) rfl (by kernel_rfl) (by kernel_rfl) rfl (by kernel_rfl) (by kernel_rfl) ?_
  refine Sx.G.pure (.pointer (some ⟨b1, 2, none⟩)) (by kernel_rfl) (fun w => by kernel_rfl) ?_
  refine Sx.G.ld1 3 (.tmp 5) b1 2 1 [.slice PA0 g.prog.length Pc0, .int .i64 g.a, .int .i64 g.pc, .slice PA1 g.wr.length Pc1, .slice PA2 g.lv.length Pc2, .int .i64 g.t.1, .int .i64 g.t.2.1, .bool g.t.2.2, .int .i64 g.pd, .int .i64 g.x.1, .int .i64 g.x.2.1, .bool g.x.2.2.1, .int .i64 g.x.2.2.2, .bool g.hl, .slice PA3 g.seen.length Pc3] (.int .i64 g.pc) rfl (by kernel_rfl) (by kernel_rfl) rfl (by kernel_rfl) (by kernel_rfl) ?_
  refine Sx.G.pure (.pointer (some ⟨b1, 5, none⟩)) (by kernel_rfl) (fun w => by kernel_rfl) ?_
  refine Sx.G.ld 28 (.tmp 7) b1 5 1 [.slice PA0 g.prog.length Pc0, .int .i64 g.a, .int .i64 g.pc, .slice PA1 g.wr.length Pc1, .slice PA2 g.lv.length Pc2, .int .i64 g.t.1, .int .i64 g.t.2.1, .bool g.t.2.2, .int .i64 g.pd, .int .i64 g.x.1, .int .i64 g.x.2.1, .bool g.x.2.2.1, .int .i64 g.x.2.2.2, .bool g.hl, .slice PA3 g.seen.length Pc3] [.int .i64 g.t.1, .int .i64 g.t.2.1, .bool g.t.2.2] rfl (by kernel_rfl) (by kernel_rfl) rfl (by kernel_rfl) (by kernel_rfl) (by kernel_rfl) ?_
  refine Sx.G.pure (.pointer (some ⟨b1, 8, none⟩)) (by kernel_rfl) (fun w => by kernel_rfl) ?_
  refine Sx.G.ld1 3 (.tmp 9) b1 8 1 [.slice PA0 g.prog.length Pc0, .int .i64 g.a, .int .i64 g.pc, .slice PA1 g.wr.length Pc1, .slice PA2 g.lv.length Pc2, .int .i64 g.t.1, .int .i64 g.t.2.1, .bool g.t.2.2, .int .i64 g.pd, .int .i64 g.x.1, .int .i64 g.x.2.1, .bool g.x.2.2.1, .int .i64 g.x.2.2.2, .bool g.hl, .slice PA3 g.seen.length Pc3] (.int .i64 g.pd) rfl (by kernel_rfl) (by kernel_rfl) rfl (by kernel_rfl) (by kernel_rfl) ?_
  refine Sx.G.pure (.pointer (some ⟨b1, 9, none⟩)) (by kernel_rfl) (fun w => by kernel_rfl) ?_
  refine Sx.G.ld 30 (.tmp 11) b1 9 1 [.slice PA0 g.prog.length Pc0, .int .i64 g.a, .int .i64 g.pc, .slice PA1 g.wr.length Pc1, .slice PA2 g.lv.length Pc2, .int .i64 g.t.1, .int .i64 g.t.2.1, .bool g.t.2.2, .int .i64 g.pd, .int .i64 g.x.1, .int .i64 g.x.2.1, .bool g.x.2.2.1, .int .i64 g.x.2.2.2, .bool g.hl, .slice PA3 g.seen.length Pc3] [.int .i64 g.x.1, .int .i64 g.x.2.1, .bool g.x.2.2.1, .int .i64 g.x.2.2.2] rfl (by kernel_rfl) (by kernel_rfl) rfl (by kernel_rfl) (by kernel_rfl) (by kernel_rfl) ?_
  refine Sx.G.pure (.pointer (some ⟨b1, 13, none⟩)) (by kernel_rfl) (fun w => by kernel_rfl) ?_
  refine Sx.G.ld1 4 (.tmp 13) b1 13 1 [.slice PA0 g.prog.length Pc0, .int .i64 g.a, .int .i64 g.pc, .slice PA1 g.wr.length Pc1, .slice PA2 g.lv.length Pc2, .int .i64 g.t.1, .int .i64 g.t.2.1, .bool g.t.2.2, .int .i64 g.pd, .int .i64 g.x.1, .int .i64 g.x.2.1, .bool g.x.2.2.1, .int .i64 g.x.2.2.2, .bool g.hl, .slice PA3 g.seen.length Pc3] (.bool g.hl) rfl (by kernel_rfl) (by kernel_rfl) rfl (by kernel_rfl) (by kernel_rfl) ?_
  refine Sx.G.pure (.agg #[.int .i64 g.a, .int .i64 g.pc, .int .i64 g.t.1, .int .i64 g.t.2.1, .bool g.t.2.2, .int .i64 g.pd, .int .i64 g.x.1, .int .i64 g.x.2.1, .bool g.x.2.2.1, .int .i64 g.x.2.2.2, .bool g.hl]) (by kernel_rfl) (fun w => by kernel_rfl) ?_
  refine Sx.G.sto 70 (.tmp 2) (.tmp 15) b2 0 0 [.int .i64 0, .int .i64 0, .int .i64 0, .int .i64 0, .bool false, .int .i64 0, .int .i64 0, .int .i64 0, .bool false, .int .i64 0, .bool false] [.int .i64 g.a, .int .i64 g.pc, .int .i64 g.t.1, .int .i64 g.t.2.1, .bool g.t.2.2, .int .i64 g.pd, .int .i64 g.x.1, .int .i64 g.x.2.1, .bool g.x.2.2.1, .int .i64 g.x.2.2.2, .bool g.hl] [.int .i64 g.a, .int .i64 g.pc, .int .i64 g.t.1, .int .i64 g.t.2.1, .bool g.t.2.2, .int .i64 g.pd, .int .i64 g.x.1, .int .i64 g.x.2.1, .bool g.x.2.2.1, .int .i64 g.x.2.2.2, .bool g.hl] [vr b2 [.int .i64 g.a, .int .i64 g.pc, .int .i64 g.t.1, .int .i64 g.t.2.1, .bool g.t.2.2, .int .i64 g.pd, .int .i64 g.x.1, .int .i64 g.x.2.1, .bool g.x.2.2.1, .int .i64 g.x.2.2.2, .bool g.hl], vr b1 [.slice PA0 g.prog.length Pc0, .int .i64 g.a, .int .i64 g.pc, .slice PA1 g.wr.length Pc1, .slice PA2 g.lv.length Pc2, .int .i64 g.t.1, .int .i64 g.t.2.1, .bool g.t.2.2, .int .i64 g.pd, .int .i64 g.x.1, .int .i64 g.x.2.1, .bool g.x.2.2.1, .int .i64 g.x.2.2.2, .bool g.hl, .slice PA3 g.seen.length Pc3]] rfl (by kernel_rfl) (by kernel_rfl) (by kernel_rfl) rfl (by kernel_rfl) rfl (by kernel_rfl) (by kernel_rfl) (by kernel_rfl) ?_
  refine Sx.G.nil ?_
  refine Sx.E.next ?_
  refine Sx.C.ret ?_
  refine Sx.E.retc b2 0 [.int .i64 g.a, .int .i64 g.pc, .int .i64 g.t.1, .int .i64 g.t.2.1, .bool g.t.2.2, .int .i64 g.pd, .int .i64 g.x.1, .int .i64 g.x.2.1, .bool g.x.2.2.1, .int .i64 g.x.2.2.2, .bool g.hl] rfl (by kernel_rfl) rfl (by kernel_rfl) (by kernel_rfl) (fun w S => ?_)
  exact ⟨rfl, S.below⟩
def regOk (g : gT) : Bool := inB g.a 0 99 && decide (g.pc ≥ 0) && decide (g.pc ≤ 12) && ctlOk g.t && pend g.pd && exitOk g.x
theorem guestOk_reg (g : gT) : guestOk g = (progOk g.prog && regOk g && okTab g.wr 4 8 && okTab g.lv 4 8 && decide ((g.seen.length : Int) ≤ 40)) := by
  unfold guestOk regOk
  rw [show inB g.pc 0 12 = (decide (g.pc ≥ 0) && decide (g.pc ≤ 12)) from rfl]
  generalize progOk g.prog = a1; generalize inB g.a 0 99 = a2; generalize decide (g.pc ≥ 0) = a3; generalize decide (g.pc ≤ 12) = a4; generalize ctlOk g.t = a5; generalize pend g.pd = a6; generalize exitOk g.x = a7; generalize okTab g.wr 4 8 = a8; generalize okTab g.lv 4 8 = a9; generalize decide ((g.seen.length : Int) ≤ 40) = a0
  revert a0 a1 a2 a3 a4 a5 a6 a7 a8 a9; decide
set_option maxRecDepth 100000 in
set_option maxHeartbeats 4000000 in
theorem impl_regOk (g : gT) (w : World) (hn : gnum g) : Calls Tryz.prog 52 #[.agg #[.int .i64 g.a, .int .i64 g.pc, .int .i64 g.t.1, .int .i64 g.t.2.1, .bool g.t.2.2, .int .i64 g.pd, .int .i64 g.x.1, .int .i64 g.x.2.1, .bool g.x.2.2.1, .int .i64 g.x.2.2.2, .bool g.hl]] w fun e w' => e = .returned (.bool (regOk g)) ∧ Below w.heap.size w w' := by
  have hpd := gnum_pd hn
  have wt := gnum_t hn
  have wx := gnum_x hn
  refine Sx.enter (args := [.agg #[.int .i64 g.a, .int .i64 g.pc, .int .i64 g.t.1, .int .i64 g.t.2.1, .bool g.t.2.2, .int .i64 g.pd, .int .i64 g.x.1, .int .i64 g.x.2.1, .bool g.x.2.2.1, .int .i64 g.x.2.2.2, .bool g.hl]]) Tryz.func52 rfl Tryz.ntmps52 rfl ?_
  refine Sx.C.seq ?_
  refine Sx.C.region ?_
  refine Sx.G.box 70 (.tmp 0) [.int .i64 g.a, .int .i64 g.pc, .int .i64 g.t.1, .int .i64 g.t.2.1, .bool g.t.2.2, .int .i64 g.pd, .int .i64 g.x.1, .int .i64 g.x.2.1, .bool g.x.2.2.1, .int .i64 g.x.2.2.2, .bool g.hl] rfl (by kernel_rfl) (by kernel_rfl) (fun b1 => ?_)
  refine Sx.G.pure (.bool false) (by kernel_rfl) (fun w => by kernel_rfl) ?_
  refine Sx.G.nil ?_
  refine Sx.E.next ?_
  refine Sx.C.seq ?_
  refine Sx.C.region ?_
  refine Sx.G.pure (.pointer (some ⟨b1, 0, none⟩)) (by kernel_rfl) (fun w => by kernel_rfl) ?_
  refine Sx.G.ld1 3 (.tmp 3) b1 0 0 [.int .i64 g.a, .int .i64 g.pc, .int .i64 g.t.1, .int .i64 g.t.2.1, .bool g.t.2.2, .int .i64 g.pd, .int .i64 g.x.1, .int .i64 g.x.2.1, .bool g.x.2.2.1, .int .i64 g.x.2.2.2, .bool g.hl] (.int .i64 g.a) rfl (by kernel_rfl) (by kernel_rfl) rfl (by kernel_rfl) (by kernel_rfl) ?_
  refine Sx.G.plain 83 #[.int .i64 g.a] (.bool (inB g.a 0 99)) (by kernel_rfl) (fun w => by kernel_rfl) (fun w S => by exact Exits.impl_cellOkE g.a _) ?_
  refine Sx.G.pure (.bool (inB g.a 0 99)) (by kernel_rfl) (fun w => by kernel_rfl) ?_
  cases hc2 : (inB g.a 0 99)
  · have hb2 := hc2
    refine Sx.G.skip (by kernel_rfl) ?_
    refine Sx.G.skip (by kernel_rfl) ?_
    refine Sx.G.skip (by kernel_rfl) ?_
    refine Sx.G.pure (.bool false) (by kernel_rfl) (fun w => by kernel_rfl) ?_
    refine Sx.G.pure (.bool false) (by kernel_rfl) (fun w => by kernel_rfl) ?_
    refine Sx.G.skip (by kernel_rfl) ?_
    refine Sx.G.skip (by kernel_rfl) ?_
    refine Sx.G.skip (by kernel_rfl) ?_
    refine Sx.G.pure (.bool false) (by kernel_rfl) (fun w => by kernel_rfl) ?_
    refine Sx.G.pure (.bool false) (by kernel_rfl) (fun w => by kernel_rfl) ?_
    refine Sx.G.skip (by kernel_rfl) ?_
    refine Sx.G.skip (by kernel_rfl) ?_
    refine Sx.G.skip (by kernel_rfl) ?_
    refine Sx.G.pure (.bool false) (by kernel_rfl) (fun w => by kernel_rfl) ?_
    refine Sx.G.pure (.bool false) (by kernel_rfl) (fun w => by kernel_rfl) ?_
    refine Sx.G.skip (by kernel_rfl) ?_
    refine Sx.G.skip (by kernel_rfl) ?_
    refine Sx.G.skip (by kernel_rfl) ?_
    refine Sx.G.pure (.bool false) (by kernel_rfl) (fun w => by kernel_rfl) ?_
    refine Sx.G.pure (.bool false) (by kernel_rfl) (fun w => by kernel_rfl) ?_
    refine Sx.G.skip (by kernel_rfl) ?_
    refine Sx.G.skip (by kernel_rfl) ?_
    refine Sx.G.skip (by kernel_rfl) ?_
    refine Sx.G.pure (.bool false) (by kernel_rfl) (fun w => by kernel_rfl) ?_
    refine Sx.G.pure (.bool false) (by kernel_rfl) (fun w => by kernel_rfl) ?_
    refine Sx.G.nil ?_
    refine Sx.E.next ?_
    refine Sx.C.ret ?_
    refine Sx.E.ret1 (.bool false) rfl (by kernel_rfl) (fun w S => ?_)
    exact ⟨congrArg Ending.returned (congrArg Value.bool (by simp only [regOk, hb2, Bool.and_true, Bool.and_false, Bool.false_and, Bool.true_and])), S.below⟩
  · have hb2 := hc2
    refine Sx.G.pure (.pointer (some ⟨b1, 1, none⟩)) (by kernel_rfl) (fun w => by kernel_rfl) ?_
    refine Sx.G.ld1 3 (.tmp 7) b1 1 0 [.int .i64 g.a, .int .i64 g.pc, .int .i64 g.t.1, .int .i64 g.t.2.1, .bool g.t.2.2, .int .i64 g.pd, .int .i64 g.x.1, .int .i64 g.x.2.1, .bool g.x.2.2.1, .int .i64 g.x.2.2.2, .bool g.hl] (.int .i64 g.pc) rfl (by kernel_rfl) (by kernel_rfl) rfl (by kernel_rfl) (by kernel_rfl) ?_
    refine Sx.G.pure (.bool (decide (g.pc ≥ 0))) (by kernel_rfl) (fun w => by kernel_rfl) ?_
    refine Sx.G.pure (.bool (decide (g.pc ≥ 0))) (by kernel_rfl) (fun w => by kernel_rfl) ?_
    refine Sx.G.pure (.bool (decide (g.pc ≥ 0))) (by kernel_rfl) (fun w => by kernel_rfl) ?_
    cases hc3 : (decide (g.pc ≥ 0))
    · have hb3 := hc3
      replace hc3 := of_decide_eq_false hc3
      refine Sx.G.skip (by kernel_rfl) ?_
      refine Sx.G.skip (by kernel_rfl) ?_
      refine Sx.G.skip (by kernel_rfl) ?_
      refine Sx.G.pure (.bool false) (by kernel_rfl) (fun w => by kernel_rfl) ?_
      refine Sx.G.pure (.bool false) (by kernel_rfl) (fun w => by kernel_rfl) ?_
      refine Sx.G.skip (by kernel_rfl) ?_
      refine Sx.G.skip (by kernel_rfl) ?_
      refine Sx.G.skip (by kernel_rfl) ?_
      refine Sx.G.pure (.bool false) (by kernel_rfl) (fun w => by kernel_rfl) ?_
      refine Sx.G.pure (.bool false) (by kernel_rfl) (fun w => by kernel_rfl) ?_
      refine Sx.G.skip (by kernel_rfl) ?_
      refine Sx.G.skip (by kernel_rfl) ?_
      refine Sx.G.skip (by kernel_rfl) ?_
      refine Sx.G.pure (.bool false) (by kernel_rfl) (fun w => by kernel_rfl) ?_
      refine Sx.G.pure (.bool false) (by kernel_rfl) (fun w => by kernel_rfl) ?_
      refine Sx.G.skip (by kernel_rfl) ?_
      refine Sx.G.skip (by kernel_rfl) ?_
      refine Sx.G.skip (by kernel_rfl) ?_
      refine Sx.G.pure (.bool false) (by kernel_rfl) (fun w => by kernel_rfl) ?_
      refine Sx.G.pure (.bool false) (by kernel_rfl) (fun w => by kernel_rfl) ?_
      refine Sx.G.nil ?_
      refine Sx.E.next ?_
      refine Sx.C.ret ?_
      refine Sx.E.ret1 (.bool false) rfl (by kernel_rfl) (fun w S => ?_)
      exact ⟨congrArg Ending.returned (congrArg Value.bool (by simp only [regOk, hb2, hb3, Bool.and_true, Bool.and_false, Bool.false_and, Bool.true_and])), S.below⟩
    · have hb3 := hc3
      replace hc3 := of_decide_eq_true hc3
      refine Sx.G.pure (.pointer (some ⟨b1, 1, none⟩)) (by kernel_rfl) (fun w => by kernel_rfl) ?_
      refine Sx.G.ld1 3 (.tmp 12) b1 1 0 [.int .i64 g.a, .int .i64 g.pc, .int .i64 g.t.1, .int .i64 g.t.2.1, .bool g.t.2.2, .int .i64 g.pd, .int .i64 g.x.1, .int .i64 g.x.2.1, .bool g.x.2.2.1, .int .i64 g.x.2.2.2, .bool g.hl] (.int .i64 g.pc) rfl (by kernel_rfl) (by kernel_rfl) rfl (by kernel_rfl) (by kernel_rfl) ?_
      refine Sx.G.pure (.bool (decide (g.pc ≤ 12))) (by kernel_rfl) (fun w => by kernel_rfl) ?_
      refine Sx.G.pure (.bool (decide (g.pc ≤ 12))) (by kernel_rfl) (fun w => by kernel_rfl) ?_
      refine Sx.G.pure (.bool (decide (g.pc ≤ 12))) (by kernel_rfl) (fun w => by kernel_rfl) ?_
      cases hc4 : (decide (g.pc ≤ 12))
      · have hb4 := hc4
        replace hc4 := of_decide_eq_false hc4
        refine Sx.G.skip (by kernel_rfl) ?_
        refine Sx.G.skip (by kernel_rfl) ?_
        refine Sx.G.skip (by kernel_rfl) ?_
        refine Sx.G.pure (.bool false) (by kernel_rfl) (fun w => by kernel_rfl) ?_
        refine Sx.G.pure (.bool false) (by kernel_rfl) (fun w => by kernel_rfl) ?_
        refine Sx.G.skip (by kernel_rfl) ?_
        refine Sx.G.skip (by kernel_rfl) ?_
        refine Sx.G.skip (by kernel_rfl) ?_
        refine Sx.G.pure (.bool false) (by kernel_rfl) (fun w => by kernel_rfl) ?_
        refine Sx.G.pure (.bool false) (by kernel_rfl) (fun w => by kernel_rfl) ?_
        refine Sx.G.skip (by kernel_rfl) ?_
        refine Sx.G.skip (by kernel_rfl) ?_
        refine Sx.G.skip (by kernel_rfl) ?_
        refine Sx.G.pure (.bool false) (by kernel_rfl) (fun w => by kernel_rfl) ?_
        refine Sx.G.pure (.bool false) (by kernel_rfl) (fun w => by kernel_rfl) ?_
        refine Sx.G.nil ?_
        refine Sx.E.next ?_
        refine Sx.C.ret ?_
        refine Sx.E.ret1 (.bool false) rfl (by kernel_rfl) (fun w S => ?_)
        exact ⟨congrArg Ending.returned (congrArg Value.bool (by simp only [regOk, hb2, hb3, hb4, Bool.and_true, Bool.and_false, Bool.false_and, Bool.true_and])), S.below⟩
      · have hb4 := hc4
        replace hc4 := of_decide_eq_true hc4
        refine Sx.G.pure (.pointer (some ⟨b1, 2, none⟩)) (by kernel_rfl) (fun w => by kernel_rfl) ?_
        refine Sx.G.ld 28 (.tmp 17) b1 2 0 [.int .i64 g.a, .int .i64 g.pc, .int .i64 g.t.1, .int .i64 g.t.2.1, .bool g.t.2.2, .int .i64 g.pd, .int .i64 g.x.1, .int .i64 g.x.2.1, .bool g.x.2.2.1, .int .i64 g.x.2.2.2, .bool g.hl] [.int .i64 g.t.1, .int .i64 g.t.2.1, .bool g.t.2.2] rfl (by kernel_rfl) (by kernel_rfl) rfl (by kernel_rfl) (by kernel_rfl) (by kernel_rfl) ?_
        refine Sx.G.plain 84 #[.agg #[.int .i64 g.t.1, .int .i64 g.t.2.1, .bool g.t.2.2]] (.bool (ctlOk g.t)) (by kernel_rfl) (fun w => by kernel_rfl) (fun w S => by exact Ctls.impl_ctlOk g.t.1 g.t.2.1 g.t.2.2 _ wt) ?_
        refine Sx.G.pure (.bool (ctlOk g.t)) (by kernel_rfl) (fun w => by kernel_rfl) ?_
        refine Sx.G.pure (.bool (ctlOk g.t)) (by kernel_rfl) (fun w => by kernel_rfl) ?_
        cases hc5 : (ctlOk g.t)
        · have hb5 := hc5
          refine Sx.G.skip (by kernel_rfl) ?_
          refine Sx.G.skip (by kernel_rfl) ?_
          refine Sx.G.skip (by kernel_rfl) ?_
          refine Sx.G.pure (.bool false) (by kernel_rfl) (fun w => by kernel_rfl) ?_
          refine Sx.G.pure (.bool false) (by kernel_rfl) (fun w => by kernel_rfl) ?_
          refine Sx.G.skip (by kernel_rfl) ?_
          refine Sx.G.skip (by kernel_rfl) ?_
          refine Sx.G.skip (by kernel_rfl) ?_
          refine Sx.G.pure (.bool false) (by kernel_rfl) (fun w => by kernel_rfl) ?_
          refine Sx.G.pure (.bool false) (by kernel_rfl) (fun w => by kernel_rfl) ?_
          refine Sx.G.nil ?_
          refine Sx.E.next ?_
          refine Sx.C.ret ?_
          refine Sx.E.ret1 (.bool false) rfl (by kernel_rfl) (fun w S => ?_)
          exact ⟨congrArg Ending.returned (congrArg Value.bool (by simp only [regOk, hb2, hb3, hb4, hb5, Bool.and_true, Bool.and_false, Bool.false_and, Bool.true_and])), S.below⟩
        · have hb5 := hc5
          refine Sx.G.pure (.pointer (some ⟨b1, 5, none⟩)) (by kernel_rfl) (fun w => by kernel_rfl) ?_
          refine Sx.G.ld1 3 (.tmp 22) b1 5 0 [.int .i64 g.a, .int .i64 g.pc, .int .i64 g.t.1, .int .i64 g.t.2.1, .bool g.t.2.2, .int .i64 g.pd, .int .i64 g.x.1, .int .i64 g.x.2.1, .bool g.x.2.2.1, .int .i64 g.x.2.2.2, .bool g.hl] (.int .i64 g.pd) rfl (by kernel_rfl) (by kernel_rfl) rfl (by kernel_rfl) (by kernel_rfl) ?_
          refine Sx.G.plain 85 #[.int .i64 g.pd] (.bool (pend g.pd)) (by kernel_rfl) (fun w => by kernel_rfl) (fun w S => by exact Irqs.impl_pend g.pd _ hpd) ?_
          refine Sx.G.pure (.bool (pend g.pd)) (by kernel_rfl) (fun w => by kernel_rfl) ?_
          refine Sx.G.pure (.bool (pend g.pd)) (by kernel_rfl) (fun w => by kernel_rfl) ?_
          cases hc6 : (pend g.pd)
          · have hb6 := hc6
            refine Sx.G.skip (by kernel_rfl) ?_
            refine Sx.G.skip (by kernel_rfl) ?_
            refine Sx.G.skip (by kernel_rfl) ?_
            refine Sx.G.pure (.bool false) (by kernel_rfl) (fun w => by kernel_rfl) ?_
            refine Sx.G.pure (.bool false) (by kernel_rfl) (fun w => by kernel_rfl) ?_
            refine Sx.G.nil ?_
            refine Sx.E.next ?_
            refine Sx.C.ret ?_
            refine Sx.E.ret1 (.bool false) rfl (by kernel_rfl) (fun w S => ?_)
            exact ⟨congrArg Ending.returned (congrArg Value.bool (by simp only [regOk, hb2, hb3, hb4, hb5, hb6, Bool.and_true, Bool.and_false, Bool.false_and, Bool.true_and])), S.below⟩
          · have hb6 := hc6
            refine Sx.G.pure (.pointer (some ⟨b1, 6, none⟩)) (by kernel_rfl) (fun w => by kernel_rfl) ?_
            refine Sx.G.ld 30 (.tmp 27) b1 6 0 [.int .i64 g.a, .int .i64 g.pc, .int .i64 g.t.1, .int .i64 g.t.2.1, .bool g.t.2.2, .int .i64 g.pd, .int .i64 g.x.1, .int .i64 g.x.2.1, .bool g.x.2.2.1, .int .i64 g.x.2.2.2, .bool g.hl] [.int .i64 g.x.1, .int .i64 g.x.2.1, .bool g.x.2.2.1, .int .i64 g.x.2.2.2] rfl (by kernel_rfl) (by kernel_rfl) rfl (by kernel_rfl) (by kernel_rfl) (by kernel_rfl) ?_
            refine Sx.G.plain 86 #[.agg #[.int .i64 g.x.1, .int .i64 g.x.2.1, .bool g.x.2.2.1, .int .i64 g.x.2.2.2]] (.bool (exitOk g.x)) (by kernel_rfl) (fun w => by kernel_rfl) (fun w S => by exact Exits.impl_exitOk g.x.1 g.x.2.1 g.x.2.2.1 g.x.2.2.2 _ wx) ?_
            refine Sx.G.pure (.bool (exitOk g.x)) (by kernel_rfl) (fun w => by kernel_rfl) ?_
            refine Sx.G.pure (.bool (exitOk g.x)) (by kernel_rfl) (fun w => by kernel_rfl) ?_
            refine Sx.G.nil ?_
            refine Sx.E.next ?_
            refine Sx.C.ret ?_
            refine Sx.E.ret1 (.bool (exitOk g.x)) rfl (by kernel_rfl) (fun w S => ?_)
            exact ⟨congrArg Ending.returned (congrArg Value.bool (by simp only [regOk, hb2, hb3, hb4, hb5, hb6, Bool.and_true, Bool.and_false, Bool.false_and, Bool.true_and])), S.below⟩
set_option maxRecDepth 100000 in
set_option maxHeartbeats 4000000 in
theorem impl_regCan (g : gT) (w : World)  : Calls Tryz.prog 59 #[.agg #[.int .i64 g.a, .int .i64 g.pc, .int .i64 g.t.1, .int .i64 g.t.2.1, .bool g.t.2.2, .int .i64 g.pd, .int .i64 g.x.1, .int .i64 g.x.2.1, .bool g.x.2.2.1, .int .i64 g.x.2.2.2, .bool g.hl]] w fun e w' => e = .returned (.bool (canRun g)) ∧ Below w.heap.size w w' := by
  refine Sx.enter (args := [.agg #[.int .i64 g.a, .int .i64 g.pc, .int .i64 g.t.1, .int .i64 g.t.2.1, .bool g.t.2.2, .int .i64 g.pd, .int .i64 g.x.1, .int .i64 g.x.2.1, .bool g.x.2.2.1, .int .i64 g.x.2.2.2, .bool g.hl]]) Tryz.func59 rfl Tryz.ntmps59 rfl ?_
  refine Sx.C.seq ?_
  refine Sx.C.region ?_
  refine Sx.G.box 70 (.tmp 0) [.int .i64 g.a, .int .i64 g.pc, .int .i64 g.t.1, .int .i64 g.t.2.1, .bool g.t.2.2, .int .i64 g.pd, .int .i64 g.x.1, .int .i64 g.x.2.1, .bool g.x.2.2.1, .int .i64 g.x.2.2.2, .bool g.hl] rfl (by kernel_rfl) (by kernel_rfl) (fun b1 => ?_)
  refine Sx.G.pure (.bool false) (by kernel_rfl) (fun w => by kernel_rfl) ?_
  refine Sx.G.nil ?_
  refine Sx.E.next ?_
  refine Sx.C.seq ?_
  refine Sx.C.region ?_
  refine Sx.G.pure (.pointer (some ⟨b1, 6, none⟩)) (by kernel_rfl) (fun w => by kernel_rfl) ?_
  refine Sx.G.ld 30 (.tmp 3) b1 6 0 [.int .i64 g.a, .int .i64 g.pc, .int .i64 g.t.1, .int .i64 g.t.2.1, .bool g.t.2.2, .int .i64 g.pd, .int .i64 g.x.1, .int .i64 g.x.2.1, .bool g.x.2.2.1, .int .i64 g.x.2.2.2, .bool g.hl] [.int .i64 g.x.1, .int .i64 g.x.2.1, .bool g.x.2.2.1, .int .i64 g.x.2.2.2] rfl (by kernel_rfl) (by kernel_rfl) rfl (by kernel_rfl) (by kernel_rfl) (by kernel_rfl) ?_
  refine Sx.G.pure (.agg #[.int .i64 0, .int .i64 0, .bool false, .int .i64 0]) (by kernel_rfl) (fun w => by kernel_rfl) ?_
  refine Sx.G.pure (.bool ((g.x.1 == 0 && g.x.2.1 == 0 && g.x.2.2.1 == false && g.x.2.2.2 == 0))) (by kernel_rfl) (fun w => Sx.run_eqs rfl rfl rfl (by kernel_rfl) (fun w => eqv_Exit_eql g.x.1 g.x.2.1 g.x.2.2.1 g.x.2.2.2 0 0 false 0 w) w) ?_
  refine Sx.G.pure (.bool ((g.x.1 == 0 && g.x.2.1 == 0 && g.x.2.2.1 == false && g.x.2.2.2 == 0))) (by kernel_rfl) (fun w => by kernel_rfl) ?_
  cases hc2 : ((g.x.1 == 0 && g.x.2.1 == 0 && g.x.2.2.1 == false && g.x.2.2.2 == 0))
  · have hb2 := hc2
    refine Sx.G.skip (by kernel_rfl) ?_
    refine Sx.G.skip (by kernel_rfl) ?_
    refine Sx.G.skip (by kernel_rfl) ?_
    refine Sx.G.pure (.bool false) (by kernel_rfl) (fun w => by kernel_rfl) ?_
    refine Sx.G.pure (.bool false) (by kernel_rfl) (fun w => by kernel_rfl) ?_
    refine Sx.G.nil ?_
    refine Sx.E.next ?_
    refine Sx.C.ret ?_
    refine Sx.E.ret1 (.bool false) rfl (by kernel_rfl) (fun w S => ?_)
    exact ⟨congrArg Ending.returned (congrArg Value.bool (by simp only [canRun, hb2, Bool.and_true, Bool.and_false, Bool.false_and, Bool.true_and])), S.below⟩
  · have hb2 := hc2
    refine Sx.G.pure (.pointer (some ⟨b1, 10, none⟩)) (by kernel_rfl) (fun w => by kernel_rfl) ?_
    refine Sx.G.ld1 4 (.tmp 8) b1 10 0 [.int .i64 g.a, .int .i64 g.pc, .int .i64 g.t.1, .int .i64 g.t.2.1, .bool g.t.2.2, .int .i64 g.pd, .int .i64 g.x.1, .int .i64 g.x.2.1, .bool g.x.2.2.1, .int .i64 g.x.2.2.2, .bool g.hl] (.bool g.hl) rfl (by kernel_rfl) (by kernel_rfl) rfl (by kernel_rfl) (by kernel_rfl) ?_
    refine Sx.G.pure (.bool (!g.hl)) (by kernel_rfl) (fun w => by kernel_rfl) ?_
    refine Sx.G.pure (.bool (!g.hl)) (by kernel_rfl) (fun w => by kernel_rfl) ?_
    refine Sx.G.pure (.bool (!g.hl)) (by kernel_rfl) (fun w => by kernel_rfl) ?_
    refine Sx.G.nil ?_
    refine Sx.E.next ?_
    refine Sx.C.ret ?_
    refine Sx.E.ret1 (.bool (!g.hl)) rfl (by kernel_rfl) (fun w S => ?_)
    exact ⟨congrArg Ending.returned (congrArg Value.bool (by simp only [canRun, hb2, Bool.and_true, Bool.and_false, Bool.false_and, Bool.true_and])), S.below⟩
set_option maxRecDepth 100000 in
set_option maxHeartbeats 4000000 in
theorem impl_regTakes (g : gT) (w : World) (hpd : (Lit.int .i64 g.pd).wf = true) : Calls Tryz.prog 60 #[.agg #[.int .i64 g.a, .int .i64 g.pc, .int .i64 g.t.1, .int .i64 g.t.2.1, .bool g.t.2.2, .int .i64 g.pd, .int .i64 g.x.1, .int .i64 g.x.2.1, .bool g.x.2.2.1, .int .i64 g.x.2.2.2, .bool g.hl]] w fun e w' => e = .returned (.bool (takesI g)) ∧ Below w.heap.size w w' := by
  have htop : (topI g.pd != (-1)) = decide (topI g.pd ≥ 0) := by
    have := topI_range g.pd
    rcases Int.lt_or_le (topI g.pd) 0 with h | h
    · rw [show topI g.pd = -1 by omega]; decide
    · rw [decide_eq_true h]; exact bne_iff_ne.2 (by omega)
  refine Sx.enter (args := [.agg #[.int .i64 g.a, .int .i64 g.pc, .int .i64 g.t.1, .int .i64 g.t.2.1, .bool g.t.2.2, .int .i64 g.pd, .int .i64 g.x.1, .int .i64 g.x.2.1, .bool g.x.2.2.1, .int .i64 g.x.2.2.2, .bool g.hl]]) Tryz.func60 rfl Tryz.ntmps60 rfl ?_
  refine Sx.C.seq ?_
  refine Sx.C.region ?_
  refine Sx.G.box 70 (.tmp 0) [.int .i64 g.a, .int .i64 g.pc, .int .i64 g.t.1, .int .i64 g.t.2.1, .bool g.t.2.2, .int .i64 g.pd, .int .i64 g.x.1, .int .i64 g.x.2.1, .bool g.x.2.2.1, .int .i64 g.x.2.2.2, .bool g.hl] rfl (by kernel_rfl) (by kernel_rfl) (fun b1 => ?_)
  refine Sx.G.pure (.bool false) (by kernel_rfl) (fun w => by kernel_rfl) ?_
  refine Sx.G.nil ?_
  refine Sx.E.next ?_
  refine Sx.C.seq ?_
  refine Sx.C.region ?_
  refine Sx.G.ld 70 (.tmp 1) b1 0 0 [.int .i64 g.a, .int .i64 g.pc, .int .i64 g.t.1, .int .i64 g.t.2.1, .bool g.t.2.2, .int .i64 g.pd, .int .i64 g.x.1, .int .i64 g.x.2.1, .bool g.x.2.2.1, .int .i64 g.x.2.2.2, .bool g.hl] [.int .i64 g.a, .int .i64 g.pc, .int .i64 g.t.1, .int .i64 g.t.2.1, .bool g.t.2.2, .int .i64 g.pd, .int .i64 g.x.1, .int .i64 g.x.2.1, .bool g.x.2.2.1, .int .i64 g.x.2.2.2, .bool g.hl] rfl (by kernel_rfl) (by kernel_rfl) rfl (by kernel_rfl) (by kernel_rfl) (by kernel_rfl) ?_
  refine Sx.G.plain 59 #[.agg #[.int .i64 g.a, .int .i64 g.pc, .int .i64 g.t.1, .int .i64 g.t.2.1, .bool g.t.2.2, .int .i64 g.pd, .int .i64 g.x.1, .int .i64 g.x.2.1, .bool g.x.2.2.1, .int .i64 g.x.2.2.2, .bool g.hl]] (.bool (canRun g)) (by kernel_rfl) (fun w => by kernel_rfl) (fun w S => by exact impl_regCan g _) ?_
  refine Sx.G.pure (.bool (canRun g)) (by kernel_rfl) (fun w => by kernel_rfl) ?_
  cases hc2 : (canRun g)
  · have hb2 := hc2
    refine Sx.G.skip (by kernel_rfl) ?_
    refine Sx.G.skip (by kernel_rfl) ?_
    refine Sx.G.skip (by kernel_rfl) ?_
    refine Sx.G.pure (.bool false) (by kernel_rfl) (fun w => by kernel_rfl) ?_
    refine Sx.G.pure (.bool false) (by kernel_rfl) (fun w => by kernel_rfl) ?_
    refine Sx.G.skip (by kernel_rfl) ?_
    refine Sx.G.skip (by kernel_rfl) ?_
    refine Sx.G.skip (by kernel_rfl) ?_
    refine Sx.G.skip (by kernel_rfl) ?_
    refine Sx.G.pure (.bool false) (by kernel_rfl) (fun w => by kernel_rfl) ?_
    refine Sx.G.pure (.bool false) (by kernel_rfl) (fun w => by kernel_rfl) ?_
    refine Sx.G.nil ?_
    refine Sx.E.next ?_
    refine Sx.C.ret ?_
    refine Sx.E.ret1 (.bool false) rfl (by kernel_rfl) (fun w S => ?_)
    exact ⟨congrArg Ending.returned (congrArg Value.bool (by simp only [takesI, hb2, htop, Bool.and_true, Bool.and_false, Bool.false_and, Bool.true_and])), S.below⟩
  · have hb2 := hc2
    refine Sx.G.pure (.pointer (some ⟨b1, 2, none⟩)) (by kernel_rfl) (fun w => by kernel_rfl) ?_
    refine Sx.G.pure (.pointer (some ⟨b1, 4, none⟩)) (by kernel_rfl) (fun w => by kernel_rfl) ?_
    refine Sx.G.ld1 4 (.tmp 7) b1 4 0 [.int .i64 g.a, .int .i64 g.pc, .int .i64 g.t.1, .int .i64 g.t.2.1, .bool g.t.2.2, .int .i64 g.pd, .int .i64 g.x.1, .int .i64 g.x.2.1, .bool g.x.2.2.1, .int .i64 g.x.2.2.2, .bool g.hl] (.bool g.t.2.2) rfl (by kernel_rfl) (by kernel_rfl) rfl (by kernel_rfl) (by kernel_rfl) ?_
    refine Sx.G.pure (.bool g.t.2.2) (by kernel_rfl) (fun w => by kernel_rfl) ?_
    refine Sx.G.pure (.bool g.t.2.2) (by kernel_rfl) (fun w => by kernel_rfl) ?_
    cases hc3 : g.t.2.2
    · have hb3 := hc3
      refine Sx.G.skip (by kernel_rfl) ?_
      refine Sx.G.skip (by kernel_rfl) ?_
      refine Sx.G.skip (by kernel_rfl) ?_
      refine Sx.G.skip (by kernel_rfl) ?_
      refine Sx.G.pure (.bool false) (by kernel_rfl) (fun w => by kernel_rfl) ?_
      refine Sx.G.pure (.bool false) (by kernel_rfl) (fun w => by kernel_rfl) ?_
      refine Sx.G.nil ?_
      refine Sx.E.next ?_
      refine Sx.C.ret ?_
      refine Sx.E.ret1 (.bool false) rfl (by kernel_rfl) (fun w S => ?_)
      exact ⟨congrArg Ending.returned (congrArg Value.bool (by simp only [takesI, hb2, hb3, htop, Bool.and_true, Bool.and_false, Bool.false_and, Bool.true_and])), S.below⟩
    · have hb3 := hc3
      refine Sx.G.pure (.pointer (some ⟨b1, 5, none⟩)) (by kernel_rfl) (fun w => by kernel_rfl) ?_
      refine Sx.G.ld1 3 (.tmp 11) b1 5 0 [.int .i64 g.a, .int .i64 g.pc, .int .i64 g.t.1, .int .i64 g.t.2.1, .bool true, .int .i64 g.pd, .int .i64 g.x.1, .int .i64 g.x.2.1, .bool g.x.2.2.1, .int .i64 g.x.2.2.2, .bool g.hl] (.int .i64 g.pd) rfl (by kernel_rfl) (by kernel_rfl) rfl (by kernel_rfl) (by kernel_rfl) ?_
      refine Sx.G.plain 90 #[.int .i64 g.pd] (.int .i64 (topI g.pd)) (by kernel_rfl) (fun w => by kernel_rfl) (fun w S => by exact Irqs.impl_top g.pd _ hpd) ?_
      refine Sx.G.pure (.bool ((topI g.pd) != (-1))) (by kernel_rfl) (fun w => by kernel_rfl) ?_
      refine Sx.G.pure (.bool ((topI g.pd) != (-1))) (by kernel_rfl) (fun w => by kernel_rfl) ?_
      refine Sx.G.pure (.bool ((topI g.pd) != (-1))) (by kernel_rfl) (fun w => by kernel_rfl) ?_
      refine Sx.G.nil ?_
      refine Sx.E.next ?_
      refine Sx.C.ret ?_
      refine Sx.E.ret1 (.bool ((topI g.pd) != (-1))) rfl (by kernel_rfl) (fun w S => ?_)
      exact ⟨congrArg Ending.returned (congrArg Value.bool (by simp only [takesI, hb2, hb3, htop, Bool.and_true, Bool.and_false, Bool.false_and, Bool.true_and])), S.below⟩
set_option maxRecDepth 100000 in
set_option maxHeartbeats 4000000 in
theorem impl_takeM {w0 w : World} {b : Nat} {R : List Res} {P0 P1 P2 P3 : Value} (g : gT) (hpd : (Lit.int .i64 g.pd).wf = true) (S : St w0 w (vr b [.int .i64 g.a, .int .i64 g.pc, .int .i64 g.t.1, .int .i64 g.t.2.1, .bool g.t.2.2, .int .i64 g.pd, .int .i64 g.x.1, .int .i64 g.x.2.1, .bool g.x.2.2.1, .int .i64 g.x.2.2.2, .bool g.hl, P0, P1, P2, P3] :: R)) : Calls Tryz.prog 75 #[.pointer (some ⟨b, 0, none⟩)] w fun e w' => e = .returned (.int .i64 (takeI g.pd).2.1) ∧ St w0 w' (vr b [.int .i64 ({ g with pd := (takeI g.pd).1 }).a, .int .i64 ({ g with pd := (takeI g.pd).1 }).pc, .int .i64 ({ g with pd := (takeI g.pd).1 }).t.1, .int .i64 ({ g with pd := (takeI g.pd).1 }).t.2.1, .bool ({ g with pd := (takeI g.pd).1 }).t.2.2, .int .i64 ({ g with pd := (takeI g.pd).1 }).pd, .int .i64 ({ g with pd := (takeI g.pd).1 }).x.1, .int .i64 ({ g with pd := (takeI g.pd).1 }).x.2.1, .bool ({ g with pd := (takeI g.pd).1 }).x.2.2.1, .int .i64 ({ g with pd := (takeI g.pd).1 }).x.2.2.2, .bool ({ g with pd := (takeI g.pd).1 }).hl, P0, P1, P2, P3] :: R) := by
  refine Sx.enterS (args := [.pointer (some ⟨b, 0, none⟩)]) S Tryz.func75 rfl Tryz.ntmps75 rfl ?_
  refine Sx.C.seq ?_
  refine Sx.C.region ?_
  refine Sx.G.pure (.int .i64 0) (by kernel_rfl) (fun w => by kernel_rfl) ?_
  refine Sx.G.nil ?_
  refine Sx.E.next ?_
  refine Sx.C.seq ?_
  refine Sx.C.region ?_
  refine Sx.G.pure (.pointer (some ⟨b, 0, none⟩)) (by kernel_rfl) (fun w => by kernel_rfl) ?_
  refine Sx.G.pure (.pointer (some ⟨b, 0, none⟩)) (by kernel_rfl) (fun w => by kernel_rfl) ?_
  refine Sx.G.pure (.pointer (some ⟨b, 5, none⟩)) (by kernel_rfl) (fun w => by kernel_rfl) ?_
  refine Sx.G.ld1 3 (.tmp 9) b 5 0 [.int .i64 g.a, .int .i64 g.pc, .int .i64 g.t.1, .int .i64 g.t.2.1, .bool g.t.2.2, .int .i64 g.pd, .int .i64 g.x.1, .int .i64 g.x.2.1, .bool g.x.2.2.1, .int .i64 g.x.2.2.2, .bool g.hl, P0, P1, P2, P3] (.int .i64 g.pd) rfl (by kernel_rfl) (by kernel_rfl) rfl (by kernel_rfl) (by kernel_rfl) ?_
  refine Sx.G.plain 95 #[.int .i64 g.pd] (.tuple #[.int .i64 (takeI g.pd).1, .int .i64 (takeI g.pd).2.1, .bool (takeI g.pd).2.2]) (by kernel_rfl) (fun w => by kernel_rfl) (fun w S => by exact Irqs.impl_take g.pd _ hpd) ?_
  refine Sx.G.pure (.tuple #[.int .i64 (takeI g.pd).1, .int .i64 (takeI g.pd).2.1, .bool (takeI g.pd).2.2]) (by kernel_rfl) (fun w => by kernel_rfl) ?_
  refine Sx.G.pure (.int .i64 (takeI g.pd).1) (by kernel_rfl) (fun w => by kernel_rfl) ?_
  refine Sx.G.pure (.int .i64 (takeI g.pd).2.1) (by kernel_rfl) (fun w => by kernel_rfl) ?_
  refine Sx.G.pure (.bool ((takeI g.pd).2.2)) (by kernel_rfl) (fun w => by kernel_rfl) ?_
  refine Sx.G.pure (.int .i64 (takeI g.pd).1) (by kernel_rfl) (fun w => by kernel_rfl) ?_
  refine Sx.G.pure (.int .i64 (takeI g.pd).2.1) (by kernel_rfl) (fun w => by kernel_rfl) ?_
  refine Sx.G.pure (.bool ((takeI g.pd).2.2)) (by kernel_rfl) (fun w => by kernel_rfl) ?_
  refine Sx.G.nil ?_
  refine Sx.E.next ?_
  refine Sx.C.seq ?_
  refine Sx.C.region ?_
  refine Sx.G.pure (.pointer (some ⟨b, 0, none⟩)) (by kernel_rfl) (fun w => by kernel_rfl) ?_
  refine Sx.G.pure (.int .i64 (takeI g.pd).1) (by kernel_rfl) (fun w => by kernel_rfl) ?_
  refine Sx.G.pure (.pointer (some ⟨b, 0, none⟩)) (by kernel_rfl) (fun w => by kernel_rfl) ?_
  refine Sx.G.pure (.pointer (some ⟨b, 5, none⟩)) (by kernel_rfl) (fun w => by kernel_rfl) ?_
  refine Sx.G.sto 3 (.tmp 18) (.tmp 16) b 5 0 [.int .i64 g.a, .int .i64 g.pc, .int .i64 g.t.1, .int .i64 g.t.2.1, .bool g.t.2.2, .int .i64 g.pd, .int .i64 g.x.1, .int .i64 g.x.2.1, .bool g.x.2.2.1, .int .i64 g.x.2.2.2, .bool g.hl, P0, P1, P2, P3] [.int .i64 (takeI g.pd).1] [.int .i64 g.a, .int .i64 g.pc, .int .i64 g.t.1, .int .i64 g.t.2.1, .bool g.t.2.2, .int .i64 (takeI g.pd).1, .int .i64 g.x.1, .int .i64 g.x.2.1, .bool g.x.2.2.1, .int .i64 g.x.2.2.2, .bool g.hl, P0, P1, P2, P3] (vr b [.int .i64 g.a, .int .i64 g.pc, .int .i64 g.t.1, .int .i64 g.t.2.1, .bool g.t.2.2, .int .i64 (takeI g.pd).1, .int .i64 g.x.1, .int .i64 g.x.2.1, .bool g.x.2.2.1, .int .i64 g.x.2.2.2, .bool g.hl, P0, P1, P2, P3] :: R) rfl (by kernel_rfl) (by kernel_rfl) (by kernel_rfl) rfl (by kernel_rfl) rfl (by kernel_rfl) (by kernel_rfl) (by kernel_rfl) ?_
  refine Sx.G.nil ?_
  refine Sx.E.next ?_
  refine Sx.C.seq ?_
  refine Sx.C.region ?_
  refine Sx.G.pure (.int .i64 (takeI g.pd).2.1) (by kernel_rfl) (fun w => by kernel_rfl) ?_
  refine Sx.G.pure (.int .i64 (takeI g.pd).2.1) (by kernel_rfl) (fun w => by kernel_rfl) ?_
  refine Sx.G.nil ?_
  refine Sx.E.next ?_
  refine Sx.C.ret ?_
  refine Sx.E.ret1 (.int .i64 (takeI g.pd).2.1) rfl (by kernel_rfl) (fun w S => ?_)
  exact ⟨rfl, S⟩
set_option maxRecDepth 100000 in
set_option maxHeartbeats 4000000 in
theorem impl_copyM (g : gT) (cs : List Value) (w : World) (hc : rG.cap g) (h : rG.rd w 0 w.heap.size g cs) : Calls Tryz.prog 34 #[.agg cs.toArray] w (fun e w' => ∃ (b : Nat) (A0 : Option Addr) (c0 l0 h0 : Nat) (F0 : List Nat) (A1 : Option Addr) (c1 l1 h1 : Nat) (F1 : List Nat) (A2 : Option Addr) (c2 l2 h2 : Nat) (F2 : List Nat) (A3 : Option Addr) (c3 l3 h3 : Nat) (F3 : List Nat), e = .returned (.pointer (some ⟨b, 0, none⟩)) ∧ St w w' [vr b [.int .i64 g.a, .int .i64 g.pc, .int .i64 g.t.1, .int .i64 g.t.2.1, .bool g.t.2.2, .int .i64 g.pd, .int .i64 g.x.1, .int .i64 g.x.2.1, .bool g.x.2.2.1, .int .i64 g.x.2.2.2, .bool g.hl, .slice A0 g.prog.length c0, .slice A1 g.wr.length c1, .slice A2 g.lv.length c2, .slice A3 g.seen.length c3], ow (rLst 54 (rPair rInt rInt)) l0 h0 g.prog [.slice A0 g.prog.length c0] F0, ow (rLst 86 (rPair rInt rInt)) l1 h1 g.wr [.slice A1 g.wr.length c1] F1, ow (rLst 86 (rPair rInt rInt)) l2 h2 g.lv [.slice A2 g.lv.length c2] F2, ow (rLst 3 rInt) l3 h3 g.seen [.slice A3 g.seen.length c3] F3]) := by
  obtain ⟨q0, q1, q2, q3⟩ := rG_len hc
  have hr := h
  obtain ⟨P0, P1, P2, P3, rfl, h0, h1, h2, h3⟩ := rG_rd h
  obtain ⟨PA0, Pc0, e0, hP0⟩ := lst_val h0
  subst e0
  obtain ⟨PA1, Pc1, e1, hP1⟩ := lst_val h1
  subst e1
  obtain ⟨PA2, Pc2, e2, hP2⟩ := lst_val h2
  subst e2
  obtain ⟨PA3, Pc3, e3, hP3⟩ := lst_val h3
  subst e3
  refine Sx.enter (args := [.agg #[.slice PA0 g.prog.length Pc0, .int .i64 g.a, .int .i64 g.pc, .slice PA1 g.wr.length Pc1, .slice PA2 g.lv.length Pc2, .int .i64 g.t.1, .int .i64 g.t.2.1, .bool g.t.2.2, .int .i64 g.pd, .int .i64 g.x.1, .int .i64 g.x.2.1, .bool g.x.2.2.1, .int .i64 g.x.2.2.2, .bool g.hl, .slice PA3 g.seen.length Pc3]]) Tryz.func34 rfl Tryz.ntmps34 rfl ?_
  refine Sx.C.seq ?_
  refine Sx.C.region ?_
  refine Sx.G.box 33 (.tmp 0) [.slice PA0 g.prog.length Pc0, .int .i64 g.a, .int .i64 g.pc, .slice PA1 g.wr.length Pc1, .slice PA2 g.lv.length Pc2, .int .i64 g.t.1, .int .i64 g.t.2.1, .bool g.t.2.2, .int .i64 g.pd, .int .i64 g.x.1, .int .i64 g.x.2.1, .bool g.x.2.2.1, .int .i64 g.x.2.2.2, .bool g.hl, .slice PA3 g.seen.length Pc3] rfl (by kernel_rfl) (by kernel_rfl) (fun b1 => ?_)
  refine Sx.G.pure (.pointer none) (by kernel_rfl) (fun w => by kernel_rfl) ?_
  refine Sx.G.nil ?_
  refine Sx.E.next ?_
  refine Sx.C.seq ?_
  refine Sx.C.draw (.take 0 (.take 2 (.take 3 (.take 5 (.take 6 (.take 8 (.take 9 (.take 11 (.take 12 (.alone 1 (.alone 4 (.alone 7 (.alone 10 (.alone 13 (.take 14 (.alone 15 (.take 16 .nil))))))))))))))))) [vr b1 [.slice PA0 g.prog.length Pc0, .int .i64 g.a, .int .i64 g.pc, .slice PA1 g.wr.length Pc1, .slice PA2 g.lv.length Pc2, .int .i64 g.t.1, .int .i64 g.t.2.1, .bool g.t.2.2, .int .i64 g.pd, .int .i64 g.x.1, .int .i64 g.x.2.1, .bool g.x.2.2.1, .int .i64 g.x.2.2.2, .bool g.hl, .slice PA3 g.seen.length Pc3]] (fun w S => St.pick S [0] _ rfl (by decide)) (by kernel_rfl) (by kernel_rfl) (by kernel_rfl) ?_
  refine Sx.GT.ld 33 (.tmp 1) b1 0 0 [.slice PA0 g.prog.length Pc0, .int .i64 g.a, .int .i64 g.pc, .slice PA1 g.wr.length Pc1, .slice PA2 g.lv.length Pc2, .int .i64 g.t.1, .int .i64 g.t.2.1, .bool g.t.2.2, .int .i64 g.pd, .int .i64 g.x.1, .int .i64 g.x.2.1, .bool g.x.2.2.1, .int .i64 g.x.2.2.2, .bool g.hl, .slice PA3 g.seen.length Pc3] [.slice PA0 g.prog.length Pc0, .int .i64 g.a, .int .i64 g.pc, .slice PA1 g.wr.length Pc1, .slice PA2 g.lv.length Pc2, .int .i64 g.t.1, .int .i64 g.t.2.1, .bool g.t.2.2, .int .i64 g.pd, .int .i64 g.x.1, .int .i64 g.x.2.1, .bool g.x.2.2.1, .int .i64 g.x.2.2.2, .bool g.hl, .slice PA3 g.seen.length Pc3] 0 (by rfl) (by rfl) (by kernel_rfl) (by kernel_rfl) (by rfl) (by kernel_rfl) (by kernel_rfl) (by kernel_rfl) ?_
  refine Sx.GT.pure (.pointer (some ⟨b1, 0, none⟩)) 2 (by rfl) (by kernel_rfl) (fun w => by kernel_rfl) ?_
  refine Sx.GT.ld1 24 (.tmp 5) b1 0 0 [.slice PA0 g.prog.length Pc0, .int .i64 g.a, .int .i64 g.pc, .slice PA1 g.wr.length Pc1, .slice PA2 g.lv.length Pc2, .int .i64 g.t.1, .int .i64 g.t.2.1, .bool g.t.2.2, .int .i64 g.pd, .int .i64 g.x.1, .int .i64 g.x.2.1, .bool g.x.2.2.1, .int .i64 g.x.2.2.2, .bool g.hl, .slice PA3 g.seen.length Pc3] (.slice PA0 g.prog.length Pc0) 3 (by rfl) (by rfl) (by kernel_rfl) (by kernel_rfl) (by rfl) (by kernel_rfl) (by kernel_rfl) ?_
  refine Sx.GT.pure (.pointer (some ⟨b1, 3, none⟩)) 5 (by rfl) (by kernel_rfl) (fun w => by kernel_rfl) ?_
  refine Sx.GT.ld1 26 (.tmp 8) b1 3 0 [.slice PA0 g.prog.length Pc0, .int .i64 g.a, .int .i64 g.pc, .slice PA1 g.wr.length Pc1, .slice PA2 g.lv.length Pc2, .int .i64 g.t.1, .int .i64 g.t.2.1, .bool g.t.2.2, .int .i64 g.pd, .int .i64 g.x.1, .int .i64 g.x.2.1, .bool g.x.2.2.1, .int .i64 g.x.2.2.2, .bool g.hl, .slice PA3 g.seen.length Pc3] (.slice PA1 g.wr.length Pc1) 6 (by rfl) (by rfl) (by kernel_rfl) (by kernel_rfl) (by rfl) (by kernel_rfl) (by kernel_rfl) ?_
  refine Sx.GT.pure (.pointer (some ⟨b1, 4, none⟩)) 8 (by rfl) (by kernel_rfl) (fun w => by kernel_rfl) ?_
  refine Sx.GT.ld1 26 (.tmp 11) b1 4 0 [.slice PA0 g.prog.length Pc0, .int .i64 g.a, .int .i64 g.pc, .slice PA1 g.wr.length Pc1, .slice PA2 g.lv.length Pc2, .int .i64 g.t.1, .int .i64 g.t.2.1, .bool g.t.2.2, .int .i64 g.pd, .int .i64 g.x.1, .int .i64 g.x.2.1, .bool g.x.2.2.1, .int .i64 g.x.2.2.2, .bool g.hl, .slice PA3 g.seen.length Pc3] (.slice PA2 g.lv.length Pc2) 9 (by rfl) (by rfl) (by kernel_rfl) (by kernel_rfl) (by rfl) (by kernel_rfl) (by kernel_rfl) ?_
  refine Sx.GT.pure (.pointer (some ⟨b1, 14, none⟩)) 11 (by rfl) (by kernel_rfl) (fun w => by kernel_rfl) ?_
  refine Sx.GT.ld1 31 (.tmp 14) b1 14 0 [.slice PA0 g.prog.length Pc0, .int .i64 g.a, .int .i64 g.pc, .slice PA1 g.wr.length Pc1, .slice PA2 g.lv.length Pc2, .int .i64 g.t.1, .int .i64 g.t.2.1, .bool g.t.2.2, .int .i64 g.pd, .int .i64 g.x.1, .int .i64 g.x.2.1, .bool g.x.2.2.1, .int .i64 g.x.2.2.2, .bool g.hl, .slice PA3 g.seen.length Pc3] (.slice PA3 g.seen.length Pc3) 12 (by rfl) (by rfl) (by kernel_rfl) (by kernel_rfl) (by rfl) (by kernel_rfl) (by kernel_rfl) ?_
  refine Sx.GT.alone (Sx.Alone.plain 47 #[.agg #[.slice PA0 g.prog.length Pc0, .int .i64 g.a, .int .i64 g.pc, .slice PA1 g.wr.length Pc1, .slice PA2 g.lv.length Pc2, .int .i64 g.t.1, .int .i64 g.t.2.1, .bool g.t.2.2, .int .i64 g.pd, .int .i64 g.x.1, .int .i64 g.x.2.1, .bool g.x.2.2.1, .int .i64 g.x.2.2.2, .bool g.hl, .slice PA3 g.seen.length Pc3]] (.agg #[.int .i64 g.a, .int .i64 g.pc, .int .i64 g.t.1, .int .i64 g.t.2.1, .bool g.t.2.2, .int .i64 g.pd, .int .i64 g.x.1, .int .i64 g.x.2.1, .bool g.x.2.2.1, .int .i64 g.x.2.2.2, .bool g.hl]) (by rfl) (by kernel_rfl) (fun w => by kernel_rfl) (fun w S => by exact impl_regs g _ _ (St.old S hr)) (fun w S => St.pick S [0] _ rfl (by decide)) ?_)
  refine Sx.GT.alone (Sx.Alone.call 31 #[.slice PA0 g.prog.length Pc0] (by rfl) (by kernel_rfl) (fun w => by kernel_rfl) (fun w2 S => (lib_cloneIns g.prog PA0 Pc0 _ q0 (St.old S h0)).mono fun e w2' hp => ?_))
  obtain ⟨cs, F, rfl, ho, hF, hb⟩ := hp
  obtain ⟨u2, rfl⟩ := lst_own ho
  obtain ⟨A2, c2, e2, -⟩ := lst_val ((St.got S hb ho hF).reads 0 rfl)
  subst e2
  generalize F = F2 at ho hF
  refine ⟨_, _, rfl, (St.got S hb ho hF), (fun w S => St.pick S [1] _ rfl (by decide)), ?_⟩
  clear S hb ho hF
  refine Sx.GT.alone (Sx.Alone.call 73 #[.slice PA1 g.wr.length Pc1] (by rfl) (by kernel_rfl) (fun w => by kernel_rfl) (fun w3 S => (lib_cloneSlot g.wr PA1 Pc1 _ q1 (St.old S h1)).mono fun e w3' hp => ?_))
  obtain ⟨cs, F, rfl, ho, hF, hb⟩ := hp
  obtain ⟨u3, rfl⟩ := lst_own ho
  obtain ⟨A3, c3, e3, -⟩ := lst_val ((St.got S hb ho hF).reads 0 rfl)
  subst e3
  generalize F = F3 at ho hF
  refine ⟨_, _, rfl, (St.got S hb ho hF), (fun w S => St.pick S [2] _ rfl (by decide)), ?_⟩
  clear S hb ho hF
  refine Sx.GT.alone (Sx.Alone.call 73 #[.slice PA2 g.lv.length Pc2] (by rfl) (by kernel_rfl) (fun w => by kernel_rfl) (fun w4 S => (lib_cloneSlot g.lv PA2 Pc2 _ q2 (St.old S h2)).mono fun e w4' hp => ?_))
  obtain ⟨cs, F, rfl, ho, hF, hb⟩ := hp
  obtain ⟨u4, rfl⟩ := lst_own ho
  obtain ⟨A4, c4, e4, -⟩ := lst_val ((St.got S hb ho hF).reads 0 rfl)
  subst e4
  generalize F = F4 at ho hF
  refine ⟨_, _, rfl, (St.got S hb ho hF), (fun w S => St.pick S [3] _ rfl (by decide)), ?_⟩
  clear S hb ho hF
  refine Sx.GT.alone (Sx.Alone.call 74 #[.slice PA3 g.seen.length Pc3] (by rfl) (by kernel_rfl) (fun w => by kernel_rfl) (fun w5 S => (lib_cloneInt g.seen PA3 Pc3 _ q3 (St.old S h3)).mono fun e w5' hp => ?_))
  obtain ⟨cs, F, rfl, ho, hF, hb⟩ := hp
  obtain ⟨u5, rfl⟩ := lst_own ho
  obtain ⟨A5, c5, e5, -⟩ := lst_val ((St.got S hb ho hF).reads 0 rfl)
  subst e5
  generalize F = F5 at ho hF
  refine ⟨_, _, rfl, (St.got S hb ho hF), (fun w S => St.pick S [4] _ rfl (by decide)), ?_⟩
  clear S hb ho hF
  refine Sx.GT.pure (.agg #[.int .i64 g.a, .int .i64 g.pc, .int .i64 g.t.1, .int .i64 g.t.2.1, .bool g.t.2.2, .int .i64 g.pd, .int .i64 g.x.1, .int .i64 g.x.2.1, .bool g.x.2.2.1, .int .i64 g.x.2.2.2, .bool g.hl, .slice A2 g.prog.length c2, .slice A3 g.wr.length c3, .slice A4 g.lv.length c4, .slice A5 g.seen.length c5]) 14 (by rfl) (by kernel_rfl) (fun w => by kernel_rfl) ?_
  refine Sx.GT.alone (Sx.Alone.box 72 (.tmp 17) [.int .i64 g.a, .int .i64 g.pc, .int .i64 g.t.1, .int .i64 g.t.2.1, .bool g.t.2.2, .int .i64 g.pd, .int .i64 g.x.1, .int .i64 g.x.2.1, .bool g.x.2.2.1, .int .i64 g.x.2.2.2, .bool g.hl, .slice A2 g.prog.length c2, .slice A3 g.wr.length c3, .slice A4 g.lv.length c4, .slice A5 g.seen.length c5] (by rfl) (by rfl) (by kernel_rfl) (by kernel_rfl) (fun w S => St.pick S [4] _ rfl (by decide)) (fun b6 => ?_))
  refine Sx.GT.pure (.pointer (some ⟨b6, 0, none⟩)) 16 (by rfl) (by kernel_rfl) (fun w => by kernel_rfl) ?_
  refine Sx.GT.nil ?_
  refine Sx.E.next ?_
  refine Sx.C.ret ?_
  refine Sx.E.ret1 (.pointer (some ⟨b6, 0, none⟩)) rfl (by kernel_rfl) (fun w S => ?_)
  exact ⟨_, _, _, _, _, _, _, _, _, _, _, _, _, _, _, _, _, _, _, _, _, rfl, St.pick S [0, 4, 3, 2, 1] _ rfl (by decide)⟩
set_option maxRecDepth 100000 in
set_option maxHeartbeats 4000000 in
theorem impl_guestM {w0 w : World} {b : Nat} {R : List Res} {A0 A1 A2 A3 : Option Addr} {c0 c1 c2 c3 : Nat} (g : gT) (S : St w0 w (vr b [.int .i64 g.a, .int .i64 g.pc, .int .i64 g.t.1, .int .i64 g.t.2.1, .bool g.t.2.2, .int .i64 g.pd, .int .i64 g.x.1, .int .i64 g.x.2.1, .bool g.x.2.2.1, .int .i64 g.x.2.2.2, .bool g.hl, .slice A0 g.prog.length c0, .slice A1 g.wr.length c1, .slice A2 g.lv.length c2, .slice A3 g.seen.length c3] :: R)) : Calls Tryz.prog 36 #[.pointer (some ⟨b, 0, none⟩)] w fun e w' => e = .returned (.agg #[.slice A0 g.prog.length c0, .int .i64 g.a, .int .i64 g.pc, .slice A1 g.wr.length c1, .slice A2 g.lv.length c2, .int .i64 g.t.1, .int .i64 g.t.2.1, .bool g.t.2.2, .int .i64 g.pd, .int .i64 g.x.1, .int .i64 g.x.2.1, .bool g.x.2.2.1, .int .i64 g.x.2.2.2, .bool g.hl, .slice A3 g.seen.length c3]) ∧ St w0 w' (vr b [.int .i64 g.a, .int .i64 g.pc, .int .i64 g.t.1, .int .i64 g.t.2.1, .bool g.t.2.2, .int .i64 g.pd, .int .i64 g.x.1, .int .i64 g.x.2.1, .bool g.x.2.2.1, .int .i64 g.x.2.2.2, .bool g.hl, .slice A0 g.prog.length c0, .slice A1 g.wr.length c1, .slice A2 g.lv.length c2, .slice A3 g.seen.length c3] :: R) := by
  refine Sx.enterS (args := [.pointer (some ⟨b, 0, none⟩)]) S Tryz.func36 rfl Tryz.ntmps36 rfl ?_
  refine Sx.C.seq ?_
  refine Sx.C.region ?_
  refine Sx.G.alloc 33 (.agg #[.slice none 0 0, .int .i64 0, .int .i64 0, .slice none 0 0, .slice none 0 0, .int .i64 0, .int .i64 0, .bool false, .int .i64 0, .int .i64 0, .int .i64 0, .bool false, .int .i64 0, .bool false, .slice none 0 0]) [.slice none 0 0, .int .i64 0, .int .i64 0, .slice none 0 0, .slice none 0 0, .int .i64 0, .int .i64 0, .bool false, .int .i64 0, .int .i64 0, .int .i64 0, .bool false, .int .i64 0, .bool false, .slice none 0 0] rfl (by kernel_rfl) (fun w => by kernel_rfl) (by kernel_rfl) (fun b1 => ?_)
  refine Sx.G.nil ?_
  refine Sx.E.next ?_
  refine Sx.C.seq ?_
  refine Sx.C.draw (.take 0 (.take 1 (.take 2 (.take 3 (.take 4 (.take 5 (.take 6 (.take 7 (.take 8 (.take 9 (.take 10 (.take 11 (.take 12 (.take 13 (.take 14 (.take 15 (.take 16 (.take 17 (.take 18 (.take 19 (.take 20 (.take 21 (.take 22 (.take 23 (.take 24 (.take 25 (.take 26 (.take 27 (.take 28 (.take 29 (.take 30 (.take 31 (.take 32 (.take 33 (.take 34 (.take 35 (.take 36 (.take 37 (.take 38 (.take 39 (.take 40 (.take 41 (.take 42 (.take 43 (.take 44 (.take 45 (.take 46 (.alone 47 .nil)))))))))))))))))))))))))))))))))))))))))))))))) [vr b [.int .i64 g.a, .int .i64 g.pc, .int .i64 g.t.1, .int .i64 g.t.2.1, .bool g.t.2.2, .int .i64 g.pd, .int .i64 g.x.1, .int .i64 g.x.2.1, .bool g.x.2.2.1, .int .i64 g.x.2.2.2, .bool g.hl, .slice A0 g.prog.length c0, .slice A1 g.wr.length c1, .slice A2 g.lv.length c2, .slice A3 g.seen.length c3]] (fun w S => St.pick S [1] _ rfl (by decide)) (by kernel_rfl) (by kernel_rfl) (by kernel_rfl) ?_
  refine Sx.GT.pure (.pointer (some ⟨b, 0, none⟩)) 0 (by rfl) (by kernel_rfl) (fun w => by kernel_rfl) ?_
  refine Sx.GT.pure (.pointer (some ⟨b, 0, none⟩)) 1 (by rfl) (by kernel_rfl) (fun w => by kernel_rfl) ?_
  refine Sx.GT.pure (.pointer (some ⟨b, 11, none⟩)) 2 (by rfl) (by kernel_rfl) (fun w => by kernel_rfl) ?_
  refine Sx.GT.ld1 24 (.tmp 5) b 11 0 [.int .i64 g.a, .int .i64 g.pc, .int .i64 g.t.1, .int .i64 g.t.2.1, .bool g.t.2.2, .int .i64 g.pd, .int .i64 g.x.1, .int .i64 g.x.2.1, .bool g.x.2.2.1, .int .i64 g.x.2.2.2, .bool g.hl, .slice A0 g.prog.length c0, .slice A1 g.wr.length c1, .slice A2 g.lv.length c2, .slice A3 g.seen.length c3] (.slice A0 g.prog.length c0) 3 (by rfl) (by rfl) (by kernel_rfl) (by kernel_rfl) (by rfl) (by kernel_rfl) (by kernel_rfl) ?_
  refine Sx.GT.pure (.pointer (some ⟨b, 0, none⟩)) 4 (by rfl) (by kernel_rfl) (fun w => by kernel_rfl) ?_
  refine Sx.GT.pure (.pointer (some ⟨b, 0, none⟩)) 5 (by rfl) (by kernel_rfl) (fun w => by kernel_rfl) ?_
  refine Sx.GT.pure (.pointer (some ⟨b, 0, none⟩)) 6 (by rfl) (by kernel_rfl) (fun w => by kernel_rfl) ?_
  refine Sx.GT.pure (.pointer (some ⟨b, 0, none⟩)) 7 (by rfl) (by kernel_rfl) (fun w => by kernel_rfl) ?_
  refine Sx.GT.ld1 3 (.tmp 10) b 0 0 [.int .i64 g.a, .int .i64 g.pc, .int .i64 g.t.1, .int .i64 g.t.2.1, .bool g.t.2.2, .int .i64 g.pd, .int .i64 g.x.1, .int .i64 g.x.2.1, .bool g.x.2.2.1, .int .i64 g.x.2.2.2, .bool g.hl, .slice A0 g.prog.length c0, .slice A1 g.wr.length c1, .slice A2 g.lv.length c2, .slice A3 g.seen.length c3] (.int .i64 g.a) 8 (by rfl) (by rfl) (by kernel_rfl) (by kernel_rfl) (by rfl) (by kernel_rfl) (by kernel_rfl) ?_
  refine Sx.GT.pure (.pointer (some ⟨b, 0, none⟩)) 9 (by rfl) (by kernel_rfl) (fun w => by kernel_rfl) ?_
  refine Sx.GT.pure (.pointer (some ⟨b, 0, none⟩)) 10 (by rfl) (by kernel_rfl) (fun w => by kernel_rfl) ?_
  refine Sx.GT.pure (.pointer (some ⟨b, 0, none⟩)) 11 (by rfl) (by kernel_rfl) (fun w => by kernel_rfl) ?_
  refine Sx.GT.pure (.pointer (some ⟨b, 1, none⟩)) 12 (by rfl) (by kernel_rfl) (fun w => by kernel_rfl) ?_
  refine Sx.GT.ld1 3 (.tmp 15) b 1 0 [.int .i64 g.a, .int .i64 g.pc, .int .i64 g.t.1, .int .i64 g.t.2.1, .bool g.t.2.2, .int .i64 g.pd, .int .i64 g.x.1, .int .i64 g.x.2.1, .bool g.x.2.2.1, .int .i64 g.x.2.2.2, .bool g.hl, .slice A0 g.prog.length c0, .slice A1 g.wr.length c1, .slice A2 g.lv.length c2, .slice A3 g.seen.length c3] (.int .i64 g.pc) 13 (by rfl) (by rfl) (by kernel_rfl) (by kernel_rfl) (by rfl) (by kernel_rfl) (by kernel_rfl) ?_
  refine Sx.GT.pure (.pointer (some ⟨b, 0, none⟩)) 14 (by rfl) (by kernel_rfl) (fun w => by kernel_rfl) ?_
  refine Sx.GT.pure (.pointer (some ⟨b, 0, none⟩)) 15 (by rfl) (by kernel_rfl) (fun w => by kernel_rfl) ?_
  refine Sx.GT.pure (.pointer (some ⟨b, 12, none⟩)) 16 (by rfl) (by kernel_rfl) (fun w => by kernel_rfl) ?_
  refine Sx.GT.ld1 26 (.tmp 19) b 12 0 [.int .i64 g.a, .int .i64 g.pc, .int .i64 g.t.1, .int .i64 g.t.2.1, .bool g.t.2.2, .int .i64 g.pd, .int .i64 g.x.1, .int .i64 g.x.2.1, .bool g.x.2.2.1, .int .i64 g.x.2.2.2, .bool g.hl, .slice A0 g.prog.length c0, .slice A1 g.wr.length c1, .slice A2 g.lv.length c2, .slice A3 g.seen.length c3] (.slice A1 g.wr.length c1) 17 (by rfl) (by rfl) (by kernel_rfl) (by kernel_rfl) (by rfl) (by kernel_rfl) (by kernel_rfl) ?_
  refine Sx.GT.pure (.pointer (some ⟨b, 0, none⟩)) 18 (by rfl) (by kernel_rfl) (fun w => by kernel_rfl) ?_
  refine Sx.GT.pure (.pointer (some ⟨b, 0, none⟩)) 19 (by rfl) (by kernel_rfl) (fun w => by kernel_rfl) ?_
  refine Sx.GT.pure (.pointer (some ⟨b, 13, none⟩)) 20 (by rfl) (by kernel_rfl) (fun w => by kernel_rfl) ?_
  refine Sx.GT.ld1 26 (.tmp 23) b 13 0 [.int .i64 g.a, .int .i64 g.pc, .int .i64 g.t.1, .int .i64 g.t.2.1, .bool g.t.2.2, .int .i64 g.pd, .int .i64 g.x.1, .int .i64 g.x.2.1, .bool g.x.2.2.1, .int .i64 g.x.2.2.2, .bool g.hl, .slice A0 g.prog.length c0, .slice A1 g.wr.length c1, .slice A2 g.lv.length c2, .slice A3 g.seen.length c3] (.slice A2 g.lv.length c2) 21 (by rfl) (by rfl) (by kernel_rfl) (by kernel_rfl) (by rfl) (by kernel_rfl) (by kernel_rfl) ?_
  refine Sx.GT.pure (.pointer (some ⟨b, 0, none⟩)) 22 (by rfl) (by kernel_rfl) (fun w => by kernel_rfl) ?_
  refine Sx.GT.pure (.pointer (some ⟨b, 0, none⟩)) 23 (by rfl) (by kernel_rfl) (fun w => by kernel_rfl) ?_
  refine Sx.GT.pure (.pointer (some ⟨b, 0, none⟩)) 24 (by rfl) (by kernel_rfl) (fun w => by kernel_rfl) ?_
  refine Sx.GT.pure (.pointer (some ⟨b, 2, none⟩)) 25 (by rfl) (by kernel_rfl) (fun w => by kernel_rfl) ?_
  refine Sx.GT.ld 28 (.tmp 28) b 2 0 [.int .i64 g.a, .int .i64 g.pc, .int .i64 g.t.1, .int .i64 g.t.2.1, .bool g.t.2.2, .int .i64 g.pd, .int .i64 g.x.1, .int .i64 g.x.2.1, .bool g.x.2.2.1, .int .i64 g.x.2.2.2, .bool g.hl, .slice A0 g.prog.length c0, .slice A1 g.wr.length c1, .slice A2 g.lv.length c2, .slice A3 g.seen.length c3] [.int .i64 g.t.1, .int .i64 g.t.2.1, .bool g.t.2.2] 26 (by rfl) (by rfl) (by kernel_rfl) (by kernel_rfl) (by rfl) (by kernel_rfl) (by kernel_rfl) (by kernel_rfl) ?_
  refine Sx.GT.pure (.pointer (some ⟨b, 0, none⟩)) 27 (by rfl) (by kernel_rfl) (fun w => by kernel_rfl) ?_
  refine Sx.GT.pure (.pointer (some ⟨b, 0, none⟩)) 28 (by rfl) (by kernel_rfl) (fun w => by kernel_rfl) ?_
  refine Sx.GT.pure (.pointer (some ⟨b, 0, none⟩)) 29 (by rfl) (by kernel_rfl) (fun w => by kernel_rfl) ?_
  refine Sx.GT.pure (.pointer (some ⟨b, 5, none⟩)) 30 (by rfl) (by kernel_rfl) (fun w => by kernel_rfl) ?_
  refine Sx.GT.ld1 3 (.tmp 33) b 5 0 [.int .i64 g.a, .int .i64 g.pc, .int .i64 g.t.1, .int .i64 g.t.2.1, .bool g.t.2.2, .int .i64 g.pd, .int .i64 g.x.1, .int .i64 g.x.2.1, .bool g.x.2.2.1, .int .i64 g.x.2.2.2, .bool g.hl, .slice A0 g.prog.length c0, .slice A1 g.wr.length c1, .slice A2 g.lv.length c2, .slice A3 g.seen.length c3] (.int .i64 g.pd) 31 (by rfl) (by rfl) (by kernel_rfl) (by kernel_rfl) (by rfl) (by kernel_rfl) (by kernel_rfl) ?_
  refine Sx.GT.pure (.pointer (some ⟨b, 0, none⟩)) 32 (by rfl) (by kernel_rfl) (fun w => by kernel_rfl) ?_
  refine Sx.GT.pure (.pointer (some ⟨b, 0, none⟩)) 33 (by rfl) (by kernel_rfl) (fun w => by kernel_rfl) ?_
  refine Sx.GT.pure (.pointer (some ⟨b, 0, none⟩)) 34 (by rfl) (by kernel_rfl) (fun w => by kernel_rfl) ?_
  refine Sx.GT.pure (.pointer (some ⟨b, 6, none⟩)) 35 (by rfl) (by kernel_rfl) (fun w => by kernel_rfl) ?_
  refine Sx.GT.ld 30 (.tmp 38) b 6 0 [.int .i64 g.a, .int .i64 g.pc, .int .i64 g.t.1, .int .i64 g.t.2.1, .bool g.t.2.2, .int .i64 g.pd, .int .i64 g.x.1, .int .i64 g.x.2.1, .bool g.x.2.2.1, .int .i64 g.x.2.2.2, .bool g.hl, .slice A0 g.prog.length c0, .slice A1 g.wr.length c1, .slice A2 g.lv.length c2, .slice A3 g.seen.length c3] [.int .i64 g.x.1, .int .i64 g.x.2.1, .bool g.x.2.2.1, .int .i64 g.x.2.2.2] 36 (by rfl) (by rfl) (by kernel_rfl) (by kernel_rfl) (by rfl) (by kernel_rfl) (by kernel_rfl) (by kernel_rfl) ?_
  refine Sx.GT.pure (.pointer (some ⟨b, 0, none⟩)) 37 (by rfl) (by kernel_rfl) (fun w => by kernel_rfl) ?_
  refine Sx.GT.pure (.pointer (some ⟨b, 0, none⟩)) 38 (by rfl) (by kernel_rfl) (fun w => by kernel_rfl) ?_
  refine Sx.GT.pure (.pointer (some ⟨b, 0, none⟩)) 39 (by rfl) (by kernel_rfl) (fun w => by kernel_rfl) ?_
  refine Sx.GT.pure (.pointer (some ⟨b, 10, none⟩)) 40 (by rfl) (by kernel_rfl) (fun w => by kernel_rfl) ?_
  refine Sx.GT.ld1 4 (.tmp 43) b 10 0 [.int .i64 g.a, .int .i64 g.pc, .int .i64 g.t.1, .int .i64 g.t.2.1, .bool g.t.2.2, .int .i64 g.pd, .int .i64 g.x.1, .int .i64 g.x.2.1, .bool g.x.2.2.1, .int .i64 g.x.2.2.2, .bool g.hl, .slice A0 g.prog.length c0, .slice A1 g.wr.length c1, .slice A2 g.lv.length c2, .slice A3 g.seen.length c3] (.bool g.hl) 41 (by rfl) (by rfl) (by kernel_rfl) (by kernel_rfl) (by rfl) (by kernel_rfl) (by kernel_rfl) ?_
  refine Sx.GT.pure (.pointer (some ⟨b, 0, none⟩)) 42 (by rfl) (by kernel_rfl) (fun w => by kernel_rfl) ?_
  refine Sx.GT.pure (.pointer (some ⟨b, 0, none⟩)) 43 (by rfl) (by kernel_rfl) (fun w => by kernel_rfl) ?_
  refine Sx.GT.pure (.pointer (some ⟨b, 14, none⟩)) 44 (by rfl) (by kernel_rfl) (fun w => by kernel_rfl) ?_
  refine Sx.GT.ld1 31 (.tmp 47) b 14 0 [.int .i64 g.a, .int .i64 g.pc, .int .i64 g.t.1, .int .i64 g.t.2.1, .bool g.t.2.2, .int .i64 g.pd, .int .i64 g.x.1, .int .i64 g.x.2.1, .bool g.x.2.2.1, .int .i64 g.x.2.2.2, .bool g.hl, .slice A0 g.prog.length c0, .slice A1 g.wr.length c1, .slice A2 g.lv.length c2, .slice A3 g.seen.length c3] (.slice A3 g.seen.length c3) 45 (by rfl) (by rfl) (by kernel_rfl) (by kernel_rfl) (by rfl) (by kernel_rfl) (by kernel_rfl) ?_
  refine Sx.GT.pure (.agg #[.slice A0 g.prog.length c0, .int .i64 g.a, .int .i64 g.pc, .slice A1 g.wr.length c1, .slice A2 g.lv.length c2, .int .i64 g.t.1, .int .i64 g.t.2.1, .bool g.t.2.2, .int .i64 g.pd, .int .i64 g.x.1, .int .i64 g.x.2.1, .bool g.x.2.2.1, .int .i64 g.x.2.2.2, .bool g.hl, .slice A3 g.seen.length c3]) 46 (by rfl) (by kernel_rfl) (fun w => by kernel_rfl) ?_
  refine Sx.GT.alone (Sx.Alone.sto 33 (.tmp 2) (.tmp 49) b1 0 0 [.slice none 0 0, .int .i64 0, .int .i64 0, .slice none 0 0, .slice none 0 0, .int .i64 0, .int .i64 0, .bool false, .int .i64 0, .int .i64 0, .int .i64 0, .bool false, .int .i64 0, .bool false, .slice none 0 0] [.slice A0 g.prog.length c0, .int .i64 g.a, .int .i64 g.pc, .slice A1 g.wr.length c1, .slice A2 g.lv.length c2, .int .i64 g.t.1, .int .i64 g.t.2.1, .bool g.t.2.2, .int .i64 g.pd, .int .i64 g.x.1, .int .i64 g.x.2.1, .bool g.x.2.2.1, .int .i64 g.x.2.2.2, .bool g.hl, .slice A3 g.seen.length c3] [.slice A0 g.prog.length c0, .int .i64 g.a, .int .i64 g.pc, .slice A1 g.wr.length c1, .slice A2 g.lv.length c2, .int .i64 g.t.1, .int .i64 g.t.2.1, .bool g.t.2.2, .int .i64 g.pd, .int .i64 g.x.1, .int .i64 g.x.2.1, .bool g.x.2.2.1, .int .i64 g.x.2.2.2, .bool g.hl, .slice A3 g.seen.length c3] (vr b1 [.slice A0 g.prog.length c0, .int .i64 g.a, .int .i64 g.pc, .slice A1 g.wr.length c1, .slice A2 g.lv.length c2, .int .i64 g.t.1, .int .i64 g.t.2.1, .bool g.t.2.2, .int .i64 g.pd, .int .i64 g.x.1, .int .i64 g.x.2.1, .bool g.x.2.2.1, .int .i64 g.x.2.2.2, .bool g.hl, .slice A3 g.seen.length c3] :: vr b [.int .i64 g.a, .int .i64 g.pc, .int .i64 g.t.1, .int .i64 g.t.2.1, .bool g.t.2.2, .int .i64 g.pd, .int .i64 g.x.1, .int .i64 g.x.2.1, .bool g.x.2.2.1, .int .i64 g.x.2.2.2, .bool g.hl, .slice A0 g.prog.length c0, .slice A1 g.wr.length c1, .slice A2 g.lv.length c2, .slice A3 g.seen.length c3] :: R) (by rfl) (by rfl) (by kernel_rfl) (by kernel_rfl) (by kernel_rfl) (by rfl) (by kernel_rfl) (by rfl) (by kernel_rfl) (by kernel_rfl) (by kernel_rfl) (fun w S => St.pick S [1] _ rfl (by decide)) ?_)
  refine Sx.GT.nil ?_
  refine Sx.E.next ?_
  refine Sx.C.ret ?_
  refine Sx.E.retc b1 0 [.slice A0 g.prog.length c0, .int .i64 g.a, .int .i64 g.pc, .slice A1 g.wr.length c1, .slice A2 g.lv.length c2, .int .i64 g.t.1, .int .i64 g.t.2.1, .bool g.t.2.2, .int .i64 g.pd, .int .i64 g.x.1, .int .i64 g.x.2.1, .bool g.x.2.2.1, .int .i64 g.x.2.2.2, .bool g.hl, .slice A3 g.seen.length c3] rfl (by kernel_rfl) rfl (by kernel_rfl) (by kernel_rfl) (fun w S => ?_)
  replace S := Sx.St.tail S
  exact ⟨rfl, S⟩
set_option maxRecDepth 100000 in
set_option maxHeartbeats 4000000 in
theorem impl_sawM {w0 w : World} {b : Nat} {R : List Res} {A0 : Option Addr} {c0 l0 h0 : Nat} {F0 : List Nat} {A1 : Option Addr} {c1 l1 h1 : Nat} {F1 : List Nat} {A2 : Option Addr} {c2 l2 h2 : Nat} {F2 : List Nat} {A3 : Option Addr} {c3 l3 h3 : Nat} {F3 : List Nat} (g : gT) (n : Int) (hs : g.seen.length ≤ 1048576) (S : St w0 w (vr b [.int .i64 g.a, .int .i64 g.pc, .int .i64 g.t.1, .int .i64 g.t.2.1, .bool g.t.2.2, .int .i64 g.pd, .int .i64 g.x.1, .int .i64 g.x.2.1, .bool g.x.2.2.1, .int .i64 g.x.2.2.2, .bool g.hl, .slice A0 g.prog.length c0, .slice A1 g.wr.length c1, .slice A2 g.lv.length c2, .slice A3 g.seen.length c3] :: ow (rLst 54 (rPair rInt rInt)) l0 h0 g.prog [.slice A0 g.prog.length c0] F0 :: ow (rLst 86 (rPair rInt rInt)) l1 h1 g.wr [.slice A1 g.wr.length c1] F1 :: ow (rLst 86 (rPair rInt rInt)) l2 h2 g.lv [.slice A2 g.lv.length c2] F2 :: ow (rLst 3 rInt) l3 h3 g.seen [.slice A3 g.seen.length c3] F3 :: R)) : Calls Tryz.prog 46 #[.pointer (some ⟨b, 0, none⟩), .int .i64 n] w (fun e w' => e = .returned (.tuple #[]) ∧ ∃ (A0 : Option Addr) (c0 l0 h0 : Nat) (F0 : List Nat) (A1 : Option Addr) (c1 l1 h1 : Nat) (F1 : List Nat) (A2 : Option Addr) (c2 l2 h2 : Nat) (F2 : List Nat) (A3 : Option Addr) (c3 l3 h3 : Nat) (F3 : List Nat), St w0 w' (vr b [.int .i64 (sawG g n).a, .int .i64 (sawG g n).pc, .int .i64 (sawG g n).t.1, .int .i64 (sawG g n).t.2.1, .bool (sawG g n).t.2.2, .int .i64 (sawG g n).pd, .int .i64 (sawG g n).x.1, .int .i64 (sawG g n).x.2.1, .bool (sawG g n).x.2.2.1, .int .i64 (sawG g n).x.2.2.2, .bool (sawG g n).hl, .slice A0 (sawG g n).prog.length c0, .slice A1 (sawG g n).wr.length c1, .slice A2 (sawG g n).lv.length c2, .slice A3 (sawG g n).seen.length c3] :: ow (rLst 54 (rPair rInt rInt)) l0 h0 (sawG g n).prog [.slice A0 (sawG g n).prog.length c0] F0 :: ow (rLst 86 (rPair rInt rInt)) l1 h1 (sawG g n).wr [.slice A1 (sawG g n).wr.length c1] F1 :: ow (rLst 86 (rPair rInt rInt)) l2 h2 (sawG g n).lv [.slice A2 (sawG g n).lv.length c2] F2 :: ow (rLst 3 rInt) l3 h3 (sawG g n).seen [.slice A3 (sawG g n).seen.length c3] F3 :: R)) := by
  refine Sx.enterS (args := [.pointer (some ⟨b, 0, none⟩), .int .i64 n]) S Tryz.func46 rfl Tryz.ntmps46 rfl ?_
  refine Sx.C.seq ?_
  refine Sx.C.region ?_
  refine Sx.G.pure (.pointer (some ⟨b, 0, none⟩)) (by kernel_rfl) (fun w => by kernel_rfl) ?_
  refine Sx.G.pure (.pointer (some ⟨b, 0, none⟩)) (by kernel_rfl) (fun w => by kernel_rfl) ?_
  refine Sx.G.pure (.pointer (some ⟨b, 14, none⟩)) (by kernel_rfl) (fun w => by kernel_rfl) ?_
  refine Sx.G.ld1 31 (.tmp 6) b 14 0 [.int .i64 g.a, .int .i64 g.pc, .int .i64 g.t.1, .int .i64 g.t.2.1, .bool g.t.2.2, .int .i64 g.pd, .int .i64 g.x.1, .int .i64 g.x.2.1, .bool g.x.2.2.1, .int .i64 g.x.2.2.2, .bool g.hl, .slice A0 g.prog.length c0, .slice A1 g.wr.length c1, .slice A2 g.lv.length c2, .slice A3 g.seen.length c3] (.slice A3 g.seen.length c3) rfl (by kernel_rfl) (by kernel_rfl) rfl (by kernel_rfl) (by kernel_rfl) ?_
  refine Sx.G.pure (.int .i64 ((g.seen.length : Nat) : Int)) (by kernel_rfl) (fun w => by kernel_rfl) ?_
  refine Sx.G.pure (.bool (decide (((g.seen.length : Nat) : Int) < 40))) (by kernel_rfl) (fun w => by kernel_rfl) ?_
  refine Sx.G.nil ?_
  refine Sx.E.next ?_
  cases hc21 : (decide (((g.seen.length : Nat) : Int) < 40))
  · have hb21 := hc21
    replace hc21 := of_decide_eq_false hc21
    refine Sx.C.no (by kernel_rfl) (by kernel_rfl) ?_
    refine Sx.C.skip ?_
    refine Sx.E.end_ ?_
    refine Sx.E.ret0 rfl (fun w S => ?_)
    rw [show sawG g n = g from if_neg (by omega)]
    exact ⟨rfl, _, _, _, _, _, _, _, _, _, _, _, _, _, _, _, _, _, _, _, _, S⟩
  · have hb21 := hc21
    replace hc21 := of_decide_eq_true hc21
    refine Sx.C.yes (by kernel_rfl) (by kernel_rfl) ?_
    refine Sx.C.region ?_
    refine Sx.G.pure (.pointer (some ⟨b, 0, none⟩)) (by kernel_rfl) (fun w => by kernel_rfl) ?_
    refine Sx.G.pure (.pointer (some ⟨b, 0, none⟩)) (by kernel_rfl) (fun w => by kernel_rfl) ?_
    refine Sx.G.pure (.pointer (some ⟨b, 0, none⟩)) (by kernel_rfl) (fun w => by kernel_rfl) ?_
    refine Sx.G.pure (.pointer (some ⟨b, 14, none⟩)) (by kernel_rfl) (fun w => by kernel_rfl) ?_
    refine Sx.G.ld1 31 (.tmp 13) b 14 0 [.int .i64 g.a, .int .i64 g.pc, .int .i64 g.t.1, .int .i64 g.t.2.1, .bool g.t.2.2, .int .i64 g.pd, .int .i64 g.x.1, .int .i64 g.x.2.1, .bool g.x.2.2.1, .int .i64 g.x.2.2.2, .bool g.hl, .slice A0 g.prog.length c0, .slice A1 g.wr.length c1, .slice A2 g.lv.length c2, .slice A3 g.seen.length c3] (.slice A3 g.seen.length c3) rfl (by kernel_rfl) (by kernel_rfl) rfl (by kernel_rfl) (by kernel_rfl) ?_
    refine Sx.G.pure (.int .i64 n) (by kernel_rfl) (fun w => by kernel_rfl) ?_
    refine Sx.G.made 3 [.int .i64 n] 1 (by kernel_rfl) (fun w => by kernel_rfl) (fun b22 => ?_)
    refine Sx.G.apps 5 rfl (g.seen ++ [n]) (fun w S => S.box 0 rfl rfl 1 (Nat.le_refl _)) rfl ((g.seen ++ [n]).length) (by simp) flat_int (.tmp 14) (.tmp 16) 31 1 8 rfl rfl (by kernel_rfl) (by kernel_rfl) rfl (by kernel_rfl) (by kernel_rfl) (by simp only [maxLen, List.length_nil, List.length_cons]; omega) (by simp only [List.length_nil, List.length_cons]; omega) (fun A23 c23 F23 hi23 hm23 => ?_)
    refine Sx.G.pure (.pointer (some ⟨b, 0, none⟩)) (by kernel_rfl) (fun w => by kernel_rfl) ?_
    refine Sx.G.pure (.pointer (some ⟨b, 14, none⟩)) (by kernel_rfl) (fun w => by kernel_rfl) ?_
    refine Sx.G.sto 31 (.tmp 19) (.tmp 17) b 14 1 [.int .i64 g.a, .int .i64 g.pc, .int .i64 g.t.1, .int .i64 g.t.2.1, .bool g.t.2.2, .int .i64 g.pd, .int .i64 g.x.1, .int .i64 g.x.2.1, .bool g.x.2.2.1, .int .i64 g.x.2.2.2, .bool g.hl, .slice A0 g.prog.length c0, .slice A1 g.wr.length c1, .slice A2 g.lv.length c2, .slice A3 g.seen.length c3] [.slice A23 ((g.seen ++ [n]).length) c23] [.int .i64 g.a, .int .i64 g.pc, .int .i64 g.t.1, .int .i64 g.t.2.1, .bool g.t.2.2, .int .i64 g.pd, .int .i64 g.x.1, .int .i64 g.x.2.1, .bool g.x.2.2.1, .int .i64 g.x.2.2.2, .bool g.hl, .slice A0 g.prog.length c0, .slice A1 g.wr.length c1, .slice A2 g.lv.length c2, .slice A23 ((g.seen ++ [n]).length) c23] (vr b22 [.int .i64 n] :: vr b [.int .i64 g.a, .int .i64 g.pc, .int .i64 g.t.1, .int .i64 g.t.2.1, .bool g.t.2.2, .int .i64 g.pd, .int .i64 g.x.1, .int .i64 g.x.2.1, .bool g.x.2.2.1, .int .i64 g.x.2.2.2, .bool g.hl, .slice A0 g.prog.length c0, .slice A1 g.wr.length c1, .slice A2 g.lv.length c2, .slice A23 ((g.seen ++ [n]).length) c23] :: ow (rLst 54 (rPair rInt rInt)) l0 h0 g.prog [.slice A0 g.prog.length c0] F0 :: ow (rLst 86 (rPair rInt rInt)) l1 h1 g.wr [.slice A1 g.wr.length c1] F1 :: ow (rLst 86 (rPair rInt rInt)) l2 h2 g.lv [.slice A2 g.lv.length c2] F2 :: ow (rLst 3 rInt) w0.heap.size hi23 (g.seen ++ [n]) [.slice A23 ((g.seen ++ [n]).length) c23] F23 :: R) rfl (by kernel_rfl) (by kernel_rfl) (by kernel_rfl) rfl (by kernel_rfl) rfl (by kernel_rfl) (by kernel_rfl) (by kernel_rfl) ?_
    refine Sx.G.nil ?_
    refine Sx.E.end_ ?_
    refine Sx.E.ret0 rfl (fun w S => ?_)
    replace S := Sx.St.tail S
    rw [show sawG g n = { g with seen := g.seen ++ [n] } from if_pos (by omega)]
    exact ⟨rfl, _, _, _, _, _, _, _, _, _, _, _, _, _, _, _, _, _, _, _, _, S⟩
set_option maxRecDepth 100000 in
set_option maxHeartbeats 4000000 in
theorem impl_intM {w0 w : World} {b : Nat} {R : List Res} {A0 : Option Addr} {c0 l0 h0 : Nat} {F0 : List Nat} {A1 : Option Addr} {c1 l1 h1 : Nat} {F1 : List Nat} {A2 : Option Addr} {c2 l2 h2 : Nat} {F2 : List Nat} {A3 : Option Addr} {c3 l3 h3 : Nat} {F3 : List Nat} (g : gT) (hn : gnum g) (hs : g.seen.length ≤ 1048576) (S : St w0 w (vr b [.int .i64 g.a, .int .i64 g.pc, .int .i64 g.t.1, .int .i64 g.t.2.1, .bool g.t.2.2, .int .i64 g.pd, .int .i64 g.x.1, .int .i64 g.x.2.1, .bool g.x.2.2.1, .int .i64 g.x.2.2.2, .bool g.hl, .slice A0 g.prog.length c0, .slice A1 g.wr.length c1, .slice A2 g.lv.length c2, .slice A3 g.seen.length c3] :: ow (rLst 54 (rPair rInt rInt)) l0 h0 g.prog [.slice A0 g.prog.length c0] F0 :: ow (rLst 86 (rPair rInt rInt)) l1 h1 g.wr [.slice A1 g.wr.length c1] F1 :: ow (rLst 86 (rPair rInt rInt)) l2 h2 g.lv [.slice A2 g.lv.length c2] F2 :: ow (rLst 3 rInt) l3 h3 g.seen [.slice A3 g.seen.length c3] F3 :: R)) : Calls Tryz.prog 35 #[.pointer (some ⟨b, 0, none⟩)] w (fun e w' => e = .returned (.tuple #[]) ∧ ∃ (A0 : Option Addr) (c0 l0 h0 : Nat) (F0 : List Nat) (A1 : Option Addr) (c1 l1 h1 : Nat) (F1 : List Nat) (A2 : Option Addr) (c2 l2 h2 : Nat) (F2 : List Nat) (A3 : Option Addr) (c3 l3 h3 : Nat) (F3 : List Nat), St w0 w' (vr b [.int .i64 (intG g).a, .int .i64 (intG g).pc, .int .i64 (intG g).t.1, .int .i64 (intG g).t.2.1, .bool (intG g).t.2.2, .int .i64 (intG g).pd, .int .i64 (intG g).x.1, .int .i64 (intG g).x.2.1, .bool (intG g).x.2.2.1, .int .i64 (intG g).x.2.2.2, .bool (intG g).hl, .slice A0 (intG g).prog.length c0, .slice A1 (intG g).wr.length c1, .slice A2 (intG g).lv.length c2, .slice A3 (intG g).seen.length c3] :: ow (rLst 54 (rPair rInt rInt)) l0 h0 (intG g).prog [.slice A0 (intG g).prog.length c0] F0 :: ow (rLst 86 (rPair rInt rInt)) l1 h1 (intG g).wr [.slice A1 (intG g).wr.length c1] F1 :: ow (rLst 86 (rPair rInt rInt)) l2 h2 (intG g).lv [.slice A2 (intG g).lv.length c2] F2 :: ow (rLst 3 rInt) l3 h3 (intG g).seen [.slice A3 (intG g).seen.length c3] F3 :: R)) := by
  have hpd := gnum_pd hn
  refine Sx.enterS (args := [.pointer (some ⟨b, 0, none⟩)]) S Tryz.func35 rfl Tryz.ntmps35 rfl ?_
  refine Sx.C.seq ?_
  refine Sx.C.region ?_
  refine Sx.G.pure (.pointer (some ⟨b, 0, none⟩)) (by kernel_rfl) (fun w => by kernel_rfl) ?_
  refine Sx.G.pure (.pointer (some ⟨b, 0, none⟩)) (by kernel_rfl) (fun w => by kernel_rfl) ?_
  refine Sx.G.pure (.pointer (some ⟨b, 0, none⟩)) (by kernel_rfl) (fun w => by kernel_rfl) ?_
  refine Sx.G.ld 70 (.tmp 4) b 0 0 [.int .i64 g.a, .int .i64 g.pc, .int .i64 g.t.1, .int .i64 g.t.2.1, .bool g.t.2.2, .int .i64 g.pd, .int .i64 g.x.1, .int .i64 g.x.2.1, .bool g.x.2.2.1, .int .i64 g.x.2.2.2, .bool g.hl, .slice A0 g.prog.length c0, .slice A1 g.wr.length c1, .slice A2 g.lv.length c2, .slice A3 g.seen.length c3] [.int .i64 g.a, .int .i64 g.pc, .int .i64 g.t.1, .int .i64 g.t.2.1, .bool g.t.2.2, .int .i64 g.pd, .int .i64 g.x.1, .int .i64 g.x.2.1, .bool g.x.2.2.1, .int .i64 g.x.2.2.2, .bool g.hl] rfl (by kernel_rfl) (by kernel_rfl) rfl (by kernel_rfl) (by kernel_rfl) (by kernel_rfl) ?_
  refine Sx.G.plain 60 #[.agg #[.int .i64 g.a, .int .i64 g.pc, .int .i64 g.t.1, .int .i64 g.t.2.1, .bool g.t.2.2, .int .i64 g.pd, .int .i64 g.x.1, .int .i64 g.x.2.1, .bool g.x.2.2.1, .int .i64 g.x.2.2.2, .bool g.hl]] (.bool (takesI g)) (by kernel_rfl) (fun w => by kernel_rfl) (fun w S => by exact impl_regTakes g _ hpd) ?_
  refine Sx.G.nil ?_
  refine Sx.E.next ?_
  cases hc21 : (takesI g)
  · have hb21 := hc21
    refine Sx.C.no (by kernel_rfl) (by kernel_rfl) ?_
    refine Sx.C.skip ?_
    refine Sx.E.end_ ?_
    refine Sx.E.ret0 rfl (fun w S => ?_)
    have HW : intG g = g := by
      show (if takesI g = true then _ else _) = _
      rw [hb21]; rfl
    rw [HW]
    exact ⟨rfl, _, _, _, _, _, _, _, _, _, _, _, _, _, _, _, _, _, _, _, _, S⟩
  · have hb21 := hc21
    refine Sx.C.yes (by kernel_rfl) (by kernel_rfl) ?_
    refine Sx.C.region ?_
    refine Sx.G.pure (.pointer (some ⟨b, 0, none⟩)) (by kernel_rfl) (fun w => by kernel_rfl) ?_
    refine Sx.G.pure (.pointer (some ⟨b, 0, none⟩)) (by kernel_rfl) (fun w => by kernel_rfl) ?_
    refine Sx.G.pure (.pointer (some ⟨b, 0, none⟩)) (by kernel_rfl) (fun w => by kernel_rfl) ?_
    refine Sx.G.pure (.pointer (some ⟨b, 0, none⟩)) (by kernel_rfl) (fun w => by kernel_rfl) ?_
    have htk := takeI_lt g.pd
    refine Sx.G.call 75 #[.pointer (some ⟨b, 0, none⟩)] (by kernel_rfl) (fun w => by kernel_rfl) (fun w22 S => (impl_takeM g hpd S).mono fun e w22' hp => ?_)
    obtain ⟨rfl, S'⟩ := hp
    refine ⟨_, _, rfl, S', ?_⟩
    clear S S'
    refine Sx.G.pureq (.int .i64 (IntKind.i64.wrap (100 + (takeI g.pd).2.1))) (.int .i64 (100 + (takeI g.pd).2.1)) (by kernel_rfl) (fun w => by kernel_rfl) (congrArg (Value.int .i64) (by rw [IntKind.wrap_i64]; omega)) ?_
    refine Sx.G.call 46 #[.pointer (some ⟨b, 0, none⟩), .int .i64 (100 + (takeI g.pd).2.1)] (by kernel_rfl) (fun w => by kernel_rfl) (fun w23 S => (impl_sawM ({ g with pd := (takeI g.pd).1 }) (100 + (takeI g.pd).2.1) (by omega) S).mono fun e w23' hp => ?_)
    obtain ⟨rfl, A23_0, c23_0, l23_0, h23_0, F23_0, A23_1, c23_1, l23_1, h23_1, F23_1, A23_2, c23_2, l23_2, h23_2, F23_2, A23_3, c23_3, l23_3, h23_3, F23_3, S'⟩ := hp
    refine ⟨_, _, rfl, S', ?_⟩
    clear S S'
    refine Sx.G.nil ?_
    refine Sx.E.end_ ?_
    refine Sx.E.ret0 rfl (fun w S => ?_)
    have HW : intG g = sawG ({ g with pd := (takeI g.pd).1 }) (100 + (takeI g.pd).2.1) := by
      show (if takesI g = true then _ else _) = _
      rw [hb21]; rfl
    rw [HW]
    exact ⟨rfl, _, _, _, _, _, _, _, _, _, _, _, _, _, _, _, _, _, _, _, _, S⟩
set_option maxRecDepth 100000 in
set_option maxHeartbeats 4000000 in
theorem impl_canRun (g : gT) (cs : List Value) (w : World) (hn : gnum g) (hc : rG.cap g) (h : rG.rd w 0 w.heap.size g cs) : Calls Tryz.prog 23 #[.agg cs.toArray] w (fun e w' => e = .returned (.bool (canRun g)) ∧ Below w.heap.size w w') := by
  have hpd := gnum_pd hn
  have hr := h
  obtain ⟨P0, P1, P2, P3, rfl, h0, h1, h2, h3⟩ := rG_rd h
  obtain ⟨PA0, Pc0, e0, hP0⟩ := lst_val h0
  subst e0
  obtain ⟨PA1, Pc1, e1, hP1⟩ := lst_val h1
  subst e1
  obtain ⟨PA2, Pc2, e2, hP2⟩ := lst_val h2
  subst e2
  obtain ⟨PA3, Pc3, e3, hP3⟩ := lst_val h3
  subst e3
  refine Sx.enter (args := [.agg #[.slice PA0 g.prog.length Pc0, .int .i64 g.a, .int .i64 g.pc, .slice PA1 g.wr.length Pc1, .slice PA2 g.lv.length Pc2, .int .i64 g.t.1, .int .i64 g.t.2.1, .bool g.t.2.2, .int .i64 g.pd, .int .i64 g.x.1, .int .i64 g.x.2.1, .bool g.x.2.2.1, .int .i64 g.x.2.2.2, .bool g.hl, .slice PA3 g.seen.length Pc3]]) Tryz.func23 rfl Tryz.ntmps23 rfl ?_
  refine Sx.C.seq ?_
  refine Sx.C.region ?_
  refine Sx.G.box 33 (.tmp 0) [.slice PA0 g.prog.length Pc0, .int .i64 g.a, .int .i64 g.pc, .slice PA1 g.wr.length Pc1, .slice PA2 g.lv.length Pc2, .int .i64 g.t.1, .int .i64 g.t.2.1, .bool g.t.2.2, .int .i64 g.pd, .int .i64 g.x.1, .int .i64 g.x.2.1, .bool g.x.2.2.1, .int .i64 g.x.2.2.2, .bool g.hl, .slice PA3 g.seen.length Pc3] rfl (by kernel_rfl) (by kernel_rfl) (fun b1 => ?_)
  refine Sx.G.pure (.bool false) (by kernel_rfl) (fun w => by kernel_rfl) ?_
  refine Sx.G.nil ?_
  refine Sx.E.next ?_
  refine Sx.C.seq ?_
  refine Sx.C.region ?_
  refine Sx.G.ld 33 (.tmp 1) b1 0 0 [.slice PA0 g.prog.length Pc0, .int .i64 g.a, .int .i64 g.pc, .slice PA1 g.wr.length Pc1, .slice PA2 g.lv.length Pc2, .int .i64 g.t.1, .int .i64 g.t.2.1, .bool g.t.2.2, .int .i64 g.pd, .int .i64 g.x.1, .int .i64 g.x.2.1, .bool g.x.2.2.1, .int .i64 g.x.2.2.2, .bool g.hl, .slice PA3 g.seen.length Pc3] [.slice PA0 g.prog.length Pc0, .int .i64 g.a, .int .i64 g.pc, .slice PA1 g.wr.length Pc1, .slice PA2 g.lv.length Pc2, .int .i64 g.t.1, .int .i64 g.t.2.1, .bool g.t.2.2, .int .i64 g.pd, .int .i64 g.x.1, .int .i64 g.x.2.1, .bool g.x.2.2.1, .int .i64 g.x.2.2.2, .bool g.hl, .slice PA3 g.seen.length Pc3] rfl (by kernel_rfl) (by kernel_rfl) rfl (by kernel_rfl) (by kernel_rfl) (by kernel_rfl) ?_
  refine Sx.G.plain 47 #[.agg #[.slice PA0 g.prog.length Pc0, .int .i64 g.a, .int .i64 g.pc, .slice PA1 g.wr.length Pc1, .slice PA2 g.lv.length Pc2, .int .i64 g.t.1, .int .i64 g.t.2.1, .bool g.t.2.2, .int .i64 g.pd, .int .i64 g.x.1, .int .i64 g.x.2.1, .bool g.x.2.2.1, .int .i64 g.x.2.2.2, .bool g.hl, .slice PA3 g.seen.length Pc3]] (.agg #[.int .i64 g.a, .int .i64 g.pc, .int .i64 g.t.1, .int .i64 g.t.2.1, .bool g.t.2.2, .int .i64 g.pd, .int .i64 g.x.1, .int .i64 g.x.2.1, .bool g.x.2.2.1, .int .i64 g.x.2.2.2, .bool g.hl]) (by kernel_rfl) (fun w => by kernel_rfl) (fun w S => by exact impl_regs g _ _ (St.old S hr)) ?_
  refine Sx.G.plain 59 #[.agg #[.int .i64 g.a, .int .i64 g.pc, .int .i64 g.t.1, .int .i64 g.t.2.1, .bool g.t.2.2, .int .i64 g.pd, .int .i64 g.x.1, .int .i64 g.x.2.1, .bool g.x.2.2.1, .int .i64 g.x.2.2.2, .bool g.hl]] (.bool (canRun g)) (by kernel_rfl) (fun w => by kernel_rfl) (fun w S => by exact impl_regCan g _) ?_
  refine Sx.G.pure (.bool (canRun g)) (by kernel_rfl) (fun w => by kernel_rfl) ?_
  refine Sx.G.nil ?_
  refine Sx.E.next ?_
  refine Sx.C.ret ?_
  refine Sx.E.ret1 (.bool (canRun g)) rfl (by kernel_rfl) (fun w S => ?_)
  exact ⟨rfl, S.below⟩
set_option maxRecDepth 100000 in
set_option maxHeartbeats 4000000 in
theorem impl_takes (g : gT) (cs : List Value) (w : World) (hn : gnum g) (hc : rG.cap g) (h : rG.rd w 0 w.heap.size g cs) : Calls Tryz.prog 25 #[.agg cs.toArray] w (fun e w' => e = .returned (.bool (takesI g)) ∧ Below w.heap.size w w') := by
  have hpd := gnum_pd hn
  have hr := h
  obtain ⟨P0, P1, P2, P3, rfl, h0, h1, h2, h3⟩ := rG_rd h
  obtain ⟨PA0, Pc0, e0, hP0⟩ := lst_val h0
  subst e0
  obtain ⟨PA1, Pc1, e1, hP1⟩ := lst_val h1
  subst e1
  obtain ⟨PA2, Pc2, e2, hP2⟩ := lst_val h2
  subst e2
  obtain ⟨PA3, Pc3, e3, hP3⟩ := lst_val h3
  subst e3
  refine Sx.enter (args := [.agg #[.slice PA0 g.prog.length Pc0, .int .i64 g.a, .int .i64 g.pc, .slice PA1 g.wr.length Pc1, .slice PA2 g.lv.length Pc2, .int .i64 g.t.1, .int .i64 g.t.2.1, .bool g.t.2.2, .int .i64 g.pd, .int .i64 g.x.1, .int .i64 g.x.2.1, .bool g.x.2.2.1, .int .i64 g.x.2.2.2, .bool g.hl, .slice PA3 g.seen.length Pc3]]) Tryz.func25 rfl Tryz.ntmps25 rfl ?_
  refine Sx.C.seq ?_
  refine Sx.C.region ?_
  refine Sx.G.box 33 (.tmp 0) [.slice PA0 g.prog.length Pc0, .int .i64 g.a, .int .i64 g.pc, .slice PA1 g.wr.length Pc1, .slice PA2 g.lv.length Pc2, .int .i64 g.t.1, .int .i64 g.t.2.1, .bool g.t.2.2, .int .i64 g.pd, .int .i64 g.x.1, .int .i64 g.x.2.1, .bool g.x.2.2.1, .int .i64 g.x.2.2.2, .bool g.hl, .slice PA3 g.seen.length Pc3] rfl (by kernel_rfl) (by kernel_rfl) (fun b1 => ?_)
  refine Sx.G.pure (.bool false) (by kernel_rfl) (fun w => by kernel_rfl) ?_
  refine Sx.G.nil ?_
  refine Sx.E.next ?_
  refine Sx.C.seq ?_
  refine Sx.C.region ?_
  refine Sx.G.ld 33 (.tmp 1) b1 0 0 [.slice PA0 g.prog.length Pc0, .int .i64 g.a, .int .i64 g.pc, .slice PA1 g.wr.length Pc1, .slice PA2 g.lv.length Pc2, .int .i64 g.t.1, .int .i64 g.t.2.1, .bool g.t.2.2, .int .i64 g.pd, .int .i64 g.x.1, .int .i64 g.x.2.1, .bool g.x.2.2.1, .int .i64 g.x.2.2.2, .bool g.hl, .slice PA3 g.seen.length Pc3] [.slice PA0 g.prog.length Pc0, .int .i64 g.a, .int .i64 g.pc, .slice PA1 g.wr.length Pc1, .slice PA2 g.lv.length Pc2, .int .i64 g.t.1, .int .i64 g.t.2.1, .bool g.t.2.2, .int .i64 g.pd, .int .i64 g.x.1, .int .i64 g.x.2.1, .bool g.x.2.2.1, .int .i64 g.x.2.2.2, .bool g.hl, .slice PA3 g.seen.length Pc3] rfl (by kernel_rfl) (by kernel_rfl) rfl (by kernel_rfl) (by kernel_rfl) (by kernel_rfl) ?_
  refine Sx.G.plain 47 #[.agg #[.slice PA0 g.prog.length Pc0, .int .i64 g.a, .int .i64 g.pc, .slice PA1 g.wr.length Pc1, .slice PA2 g.lv.length Pc2, .int .i64 g.t.1, .int .i64 g.t.2.1, .bool g.t.2.2, .int .i64 g.pd, .int .i64 g.x.1, .int .i64 g.x.2.1, .bool g.x.2.2.1, .int .i64 g.x.2.2.2, .bool g.hl, .slice PA3 g.seen.length Pc3]] (.agg #[.int .i64 g.a, .int .i64 g.pc, .int .i64 g.t.1, .int .i64 g.t.2.1, .bool g.t.2.2, .int .i64 g.pd, .int .i64 g.x.1, .int .i64 g.x.2.1, .bool g.x.2.2.1, .int .i64 g.x.2.2.2, .bool g.hl]) (by kernel_rfl) (fun w => by kernel_rfl) (fun w S => by exact impl_regs g _ _ (St.old S hr)) ?_
  refine Sx.G.plain 60 #[.agg #[.int .i64 g.a, .int .i64 g.pc, .int .i64 g.t.1, .int .i64 g.t.2.1, .bool g.t.2.2, .int .i64 g.pd, .int .i64 g.x.1, .int .i64 g.x.2.1, .bool g.x.2.2.1, .int .i64 g.x.2.2.2, .bool g.hl]] (.bool (takesI g)) (by kernel_rfl) (fun w => by kernel_rfl) (fun w S => by exact impl_regTakes g _ hpd) ?_
  refine Sx.G.pure (.bool (takesI g)) (by kernel_rfl) (fun w => by kernel_rfl) ?_
  refine Sx.G.nil ?_
  refine Sx.E.next ?_
  refine Sx.C.ret ?_
  refine Sx.E.ret1 (.bool (takesI g)) rfl (by kernel_rfl) (fun w S => ?_)
  exact ⟨rfl, S.below⟩
set_option maxRecDepth 100000 in
set_option maxHeartbeats 4000000 in
theorem impl_gok (g : gT) (cs : List Value) (w : World) (hn : gnum g) (hc : rG.cap g) (h : rG.rd w 0 w.heap.size g cs) : Calls Tryz.prog 21 #[.agg cs.toArray] w (fun e w' => e = .returned (.bool (guestOk g)) ∧ Below w.heap.size w w') := by
  obtain ⟨q0, q1, q2, q3⟩ := rG_len hc
  have hr := h
  obtain ⟨P0, P1, P2, P3, rfl, h0, h1, h2, h3⟩ := rG_rd h
  obtain ⟨PA0, Pc0, e0, hP0⟩ := lst_val h0
  subst e0
  obtain ⟨PA1, Pc1, e1, hP1⟩ := lst_val h1
  subst e1
  obtain ⟨PA2, Pc2, e2, hP2⟩ := lst_val h2
  subst e2
  obtain ⟨PA3, Pc3, e3, hP3⟩ := lst_val h3
  subst e3
  refine Sx.enter (args := [.agg #[.slice PA0 g.prog.length Pc0, .int .i64 g.a, .int .i64 g.pc, .slice PA1 g.wr.length Pc1, .slice PA2 g.lv.length Pc2, .int .i64 g.t.1, .int .i64 g.t.2.1, .bool g.t.2.2, .int .i64 g.pd, .int .i64 g.x.1, .int .i64 g.x.2.1, .bool g.x.2.2.1, .int .i64 g.x.2.2.2, .bool g.hl, .slice PA3 g.seen.length Pc3]]) Tryz.func21 rfl Tryz.ntmps21 rfl ?_
  refine Sx.C.seq ?_
  refine Sx.C.region ?_
  refine Sx.G.box 33 (.tmp 0) [.slice PA0 g.prog.length Pc0, .int .i64 g.a, .int .i64 g.pc, .slice PA1 g.wr.length Pc1, .slice PA2 g.lv.length Pc2, .int .i64 g.t.1, .int .i64 g.t.2.1, .bool g.t.2.2, .int .i64 g.pd, .int .i64 g.x.1, .int .i64 g.x.2.1, .bool g.x.2.2.1, .int .i64 g.x.2.2.2, .bool g.hl, .slice PA3 g.seen.length Pc3] rfl (by kernel_rfl) (by kernel_rfl) (fun b1 => ?_)
  refine Sx.G.pure (.bool false) (by kernel_rfl) (fun w => by kernel_rfl) ?_
  refine Sx.G.nil ?_
  refine Sx.E.next ?_
  refine Sx.C.seq ?_
  refine Sx.C.region ?_
  refine Sx.G.pure (.pointer (some ⟨b1, 0, none⟩)) (by kernel_rfl) (fun w => by kernel_rfl) ?_
  refine Sx.G.ld1 24 (.tmp 3) b1 0 0 [.slice PA0 g.prog.length Pc0, .int .i64 g.a, .int .i64 g.pc, .slice PA1 g.wr.length Pc1, .slice PA2 g.lv.length Pc2, .int .i64 g.t.1, .int .i64 g.t.2.1, .bool g.t.2.2, .int .i64 g.pd, .int .i64 g.x.1, .int .i64 g.x.2.1, .bool g.x.2.2.1, .int .i64 g.x.2.2.2, .bool g.hl, .slice PA3 g.seen.length Pc3] (.slice PA0 g.prog.length Pc0) rfl (by kernel_rfl) (by kernel_rfl) rfl (by kernel_rfl) (by kernel_rfl) ?_
  refine Sx.G.plain 51 #[.slice PA0 g.prog.length Pc0] (.bool (progOk g.prog)) (by kernel_rfl) (fun w => by kernel_rfl) (fun w S => by exact Inss.impl_progOk PA0 g.prog.length Pc0 g.prog _ q0 rfl (by rw [← pcells_j]; exact p2_lies (St.old S h0)) hn.1.2) ?_
  refine Sx.G.pure (.bool (progOk g.prog)) (by kernel_rfl) (fun w => by kernel_rfl) ?_
  cases hc2 : (progOk g.prog)
  · have hb2 := hc2
    refine Sx.G.skip (by kernel_rfl) ?_
    refine Sx.G.skip (by kernel_rfl) ?_
    refine Sx.G.skip (by kernel_rfl) ?_
    refine Sx.G.pure (.bool false) (by kernel_rfl) (fun w => by kernel_rfl) ?_
    refine Sx.G.pure (.bool false) (by kernel_rfl) (fun w => by kernel_rfl) ?_
    refine Sx.G.skip (by kernel_rfl) ?_
    refine Sx.G.skip (by kernel_rfl) ?_
    refine Sx.G.skip (by kernel_rfl) ?_
    refine Sx.G.pure (.bool false) (by kernel_rfl) (fun w => by kernel_rfl) ?_
    refine Sx.G.pure (.bool false) (by kernel_rfl) (fun w => by kernel_rfl) ?_
    refine Sx.G.skip (by kernel_rfl) ?_
    refine Sx.G.skip (by kernel_rfl) ?_
    refine Sx.G.skip (by kernel_rfl) ?_
    refine Sx.G.pure (.bool false) (by kernel_rfl) (fun w => by kernel_rfl) ?_
    refine Sx.G.pure (.bool false) (by kernel_rfl) (fun w => by kernel_rfl) ?_
    refine Sx.G.skip (by kernel_rfl) ?_
    refine Sx.G.skip (by kernel_rfl) ?_
    refine Sx.G.skip (by kernel_rfl) ?_
    refine Sx.G.skip (by kernel_rfl) ?_
    refine Sx.G.pure (.bool false) (by kernel_rfl) (fun w => by kernel_rfl) ?_
    refine Sx.G.pure (.bool false) (by kernel_rfl) (fun w => by kernel_rfl) ?_
    refine Sx.G.nil ?_
    refine Sx.E.next ?_
    refine Sx.C.ret ?_
    refine Sx.E.ret1 (.bool false) rfl (by kernel_rfl) (fun w S => ?_)
    exact ⟨congrArg Ending.returned (congrArg Value.bool (by simp only [guestOk_reg, hb2, Bool.and_true, Bool.and_false, Bool.false_and, Bool.true_and])), S.below⟩
  · have hb2 := hc2
    refine Sx.G.ld 33 (.tmp 1) b1 0 0 [.slice PA0 g.prog.length Pc0, .int .i64 g.a, .int .i64 g.pc, .slice PA1 g.wr.length Pc1, .slice PA2 g.lv.length Pc2, .int .i64 g.t.1, .int .i64 g.t.2.1, .bool g.t.2.2, .int .i64 g.pd, .int .i64 g.x.1, .int .i64 g.x.2.1, .bool g.x.2.2.1, .int .i64 g.x.2.2.2, .bool g.hl, .slice PA3 g.seen.length Pc3] [.slice PA0 g.prog.length Pc0, .int .i64 g.a, .int .i64 g.pc, .slice PA1 g.wr.length Pc1, .slice PA2 g.lv.length Pc2, .int .i64 g.t.1, .int .i64 g.t.2.1, .bool g.t.2.2, .int .i64 g.pd, .int .i64 g.x.1, .int .i64 g.x.2.1, .bool g.x.2.2.1, .int .i64 g.x.2.2.2, .bool g.hl, .slice PA3 g.seen.length Pc3] rfl (by kernel_rfl) (by kernel_rfl) rfl (by kernel_rfl) (by kernel_rfl) (by kernel_rfl) ?_
    refine Sx.G.plain 47 #[.agg #[.slice PA0 g.prog.length Pc0, .int .i64 g.a, .int .i64 g.pc, .slice PA1 g.wr.length Pc1, .slice PA2 g.lv.length Pc2, .int .i64 g.t.1, .int .i64 g.t.2.1, .bool g.t.2.2, .int .i64 g.pd, .int .i64 g.x.1, .int .i64 g.x.2.1, .bool g.x.2.2.1, .int .i64 g.x.2.2.2, .bool g.hl, .slice PA3 g.seen.length Pc3]] (.agg #[.int .i64 g.a, .int .i64 g.pc, .int .i64 g.t.1, .int .i64 g.t.2.1, .bool g.t.2.2, .int .i64 g.pd, .int .i64 g.x.1, .int .i64 g.x.2.1, .bool g.x.2.2.1, .int .i64 g.x.2.2.2, .bool g.hl]) (by kernel_rfl) (fun w => by kernel_rfl) (fun w S => by exact impl_regs g _ _ (St.old S hr)) ?_
    refine Sx.G.plain 52 #[.agg #[.int .i64 g.a, .int .i64 g.pc, .int .i64 g.t.1, .int .i64 g.t.2.1, .bool g.t.2.2, .int .i64 g.pd, .int .i64 g.x.1, .int .i64 g.x.2.1, .bool g.x.2.2.1, .int .i64 g.x.2.2.2, .bool g.hl]] (.bool (regOk g)) (by kernel_rfl) (fun w => by kernel_rfl) (fun w S => by exact impl_regOk g _ hn) ?_
    refine Sx.G.pure (.bool (regOk g)) (by kernel_rfl) (fun w => by kernel_rfl) ?_
    refine Sx.G.pure (.bool (regOk g)) (by kernel_rfl) (fun w => by kernel_rfl) ?_
    cases hc3 : (regOk g)
    · have hb3 := hc3
      refine Sx.G.skip (by kernel_rfl) ?_
      refine Sx.G.skip (by kernel_rfl) ?_
      refine Sx.G.skip (by kernel_rfl) ?_
      refine Sx.G.pure (.bool false) (by kernel_rfl) (fun w => by kernel_rfl) ?_
      refine Sx.G.pure (.bool false) (by kernel_rfl) (fun w => by kernel_rfl) ?_
      refine Sx.G.skip (by kernel_rfl) ?_
      refine Sx.G.skip (by kernel_rfl) ?_
      refine Sx.G.skip (by kernel_rfl) ?_
      refine Sx.G.pure (.bool false) (by kernel_rfl) (fun w => by kernel_rfl) ?_
      refine Sx.G.pure (.bool false) (by kernel_rfl) (fun w => by kernel_rfl) ?_
      refine Sx.G.skip (by kernel_rfl) ?_
      refine Sx.G.skip (by kernel_rfl) ?_
      refine Sx.G.skip (by kernel_rfl) ?_
      refine Sx.G.skip (by kernel_rfl) ?_
      refine Sx.G.pure (.bool false) (by kernel_rfl) (fun w => by kernel_rfl) ?_
      refine Sx.G.pure (.bool false) (by kernel_rfl) (fun w => by kernel_rfl) ?_
      refine Sx.G.nil ?_
      refine Sx.E.next ?_
      refine Sx.C.ret ?_
      refine Sx.E.ret1 (.bool false) rfl (by kernel_rfl) (fun w S => ?_)
      exact ⟨congrArg Ending.returned (congrArg Value.bool (by simp only [guestOk_reg, hb2, hb3, Bool.and_true, Bool.and_false, Bool.false_and, Bool.true_and])), S.below⟩
    · have hb3 := hc3
      refine Sx.G.pure (.pointer (some ⟨b1, 3, none⟩)) (by kernel_rfl) (fun w => by kernel_rfl) ?_
      refine Sx.G.ld1 26 (.tmp 12) b1 3 0 [.slice PA0 g.prog.length Pc0, .int .i64 g.a, .int .i64 g.pc, .slice PA1 g.wr.length Pc1, .slice PA2 g.lv.length Pc2, .int .i64 g.t.1, .int .i64 g.t.2.1, .bool g.t.2.2, .int .i64 g.pd, .int .i64 g.x.1, .int .i64 g.x.2.1, .bool g.x.2.2.1, .int .i64 g.x.2.2.2, .bool g.hl, .slice PA3 g.seen.length Pc3] (.slice PA1 g.wr.length Pc1) rfl (by kernel_rfl) (by kernel_rfl) rfl (by kernel_rfl) (by kernel_rfl) ?_
      refine Sx.G.plain 53 #[.slice PA1 g.wr.length Pc1, .int .i64 4, .int .i64 8] (.bool (okTab g.wr 4 8)) (by kernel_rfl) (fun w => by kernel_rfl) (fun w S => by exact Slots.impl_tabOk PA1 g.wr.length Pc1 0 4 8 g.wr _ q1 rfl hn.2.2.2.1.2 (by rw [← pcells_s]; exact p2_lies (St.old S h1))) ?_
      refine Sx.G.pure (.bool (okTab g.wr 4 8)) (by kernel_rfl) (fun w => by kernel_rfl) ?_
      refine Sx.G.pure (.bool (okTab g.wr 4 8)) (by kernel_rfl) (fun w => by kernel_rfl) ?_
      cases hc4 : (okTab g.wr 4 8)
      · have hb4 := hc4
        refine Sx.G.skip (by kernel_rfl) ?_
        refine Sx.G.skip (by kernel_rfl) ?_
        refine Sx.G.skip (by kernel_rfl) ?_
        refine Sx.G.pure (.bool false) (by kernel_rfl) (fun w => by kernel_rfl) ?_
        refine Sx.G.pure (.bool false) (by kernel_rfl) (fun w => by kernel_rfl) ?_
        refine Sx.G.skip (by kernel_rfl) ?_
        refine Sx.G.skip (by kernel_rfl) ?_
        refine Sx.G.skip (by kernel_rfl) ?_
        refine Sx.G.skip (by kernel_rfl) ?_
        refine Sx.G.pure (.bool false) (by kernel_rfl) (fun w => by kernel_rfl) ?_
        refine Sx.G.pure (.bool false) (by kernel_rfl) (fun w => by kernel_rfl) ?_
        refine Sx.G.nil ?_
        refine Sx.E.next ?_
        refine Sx.C.ret ?_
        refine Sx.E.ret1 (.bool false) rfl (by kernel_rfl) (fun w S => ?_)
        exact ⟨congrArg Ending.returned (congrArg Value.bool (by simp only [guestOk_reg, hb2, hb3, hb4, Bool.and_true, Bool.and_false, Bool.false_and, Bool.true_and])), S.below⟩
      · have hb4 := hc4
        refine Sx.G.pure (.pointer (some ⟨b1, 4, none⟩)) (by kernel_rfl) (fun w => by kernel_rfl) ?_
        refine Sx.G.ld1 26 (.tmp 17) b1 4 0 [.slice PA0 g.prog.length Pc0, .int .i64 g.a, .int .i64 g.pc, .slice PA1 g.wr.length Pc1, .slice PA2 g.lv.length Pc2, .int .i64 g.t.1, .int .i64 g.t.2.1, .bool g.t.2.2, .int .i64 g.pd, .int .i64 g.x.1, .int .i64 g.x.2.1, .bool g.x.2.2.1, .int .i64 g.x.2.2.2, .bool g.hl, .slice PA3 g.seen.length Pc3] (.slice PA2 g.lv.length Pc2) rfl (by kernel_rfl) (by kernel_rfl) rfl (by kernel_rfl) (by kernel_rfl) ?_
        refine Sx.G.plain 53 #[.slice PA2 g.lv.length Pc2, .int .i64 4, .int .i64 8] (.bool (okTab g.lv 4 8)) (by kernel_rfl) (fun w => by kernel_rfl) (fun w S => by exact Slots.impl_tabOk PA2 g.lv.length Pc2 0 4 8 g.lv _ q2 rfl hn.2.2.2.2.1.2 (by rw [← pcells_s]; exact p2_lies (St.old S h2))) ?_
        refine Sx.G.pure (.bool (okTab g.lv 4 8)) (by kernel_rfl) (fun w => by kernel_rfl) ?_
        refine Sx.G.pure (.bool (okTab g.lv 4 8)) (by kernel_rfl) (fun w => by kernel_rfl) ?_
        cases hc5 : (okTab g.lv 4 8)
        · have hb5 := hc5
          refine Sx.G.skip (by kernel_rfl) ?_
          refine Sx.G.skip (by kernel_rfl) ?_
          refine Sx.G.skip (by kernel_rfl) ?_
          refine Sx.G.skip (by kernel_rfl) ?_
          refine Sx.G.pure (.bool false) (by kernel_rfl) (fun w => by kernel_rfl) ?_
          refine Sx.G.pure (.bool false) (by kernel_rfl) (fun w => by kernel_rfl) ?_
          refine Sx.G.nil ?_
          refine Sx.E.next ?_
          refine Sx.C.ret ?_
          refine Sx.E.ret1 (.bool false) rfl (by kernel_rfl) (fun w S => ?_)
          exact ⟨congrArg Ending.returned (congrArg Value.bool (by simp only [guestOk_reg, hb2, hb3, hb4, hb5, Bool.and_true, Bool.and_false, Bool.false_and, Bool.true_and])), S.below⟩
        · have hb5 := hc5
          refine Sx.G.pure (.pointer (some ⟨b1, 14, none⟩)) (by kernel_rfl) (fun w => by kernel_rfl) ?_
          refine Sx.G.ld1 31 (.tmp 22) b1 14 0 [.slice PA0 g.prog.length Pc0, .int .i64 g.a, .int .i64 g.pc, .slice PA1 g.wr.length Pc1, .slice PA2 g.lv.length Pc2, .int .i64 g.t.1, .int .i64 g.t.2.1, .bool g.t.2.2, .int .i64 g.pd, .int .i64 g.x.1, .int .i64 g.x.2.1, .bool g.x.2.2.1, .int .i64 g.x.2.2.2, .bool g.hl, .slice PA3 g.seen.length Pc3] (.slice PA3 g.seen.length Pc3) rfl (by kernel_rfl) (by kernel_rfl) rfl (by kernel_rfl) (by kernel_rfl) ?_
          refine Sx.G.pure (.int .i64 ((g.seen.length : Nat) : Int)) (by kernel_rfl) (fun w => by kernel_rfl) ?_
          refine Sx.G.pure (.bool (decide (((g.seen.length : Nat) : Int) ≤ 40))) (by kernel_rfl) (fun w => by kernel_rfl) ?_
          refine Sx.G.pure (.bool (decide (((g.seen.length : Nat) : Int) ≤ 40))) (by kernel_rfl) (fun w => by kernel_rfl) ?_
          refine Sx.G.pure (.bool (decide (((g.seen.length : Nat) : Int) ≤ 40))) (by kernel_rfl) (fun w => by kernel_rfl) ?_
          refine Sx.G.nil ?_
          refine Sx.E.next ?_
          refine Sx.C.ret ?_
          refine Sx.E.ret1 (.bool (decide (((g.seen.length : Nat) : Int) ≤ 40))) rfl (by kernel_rfl) (fun w S => ?_)
          exact ⟨congrArg Ending.returned (congrArg Value.bool (by simp only [guestOk_reg, hb2, hb3, hb4, hb5, Bool.and_true, Bool.and_false, Bool.false_and, Bool.true_and])), S.below⟩
theorem eqv_reg_eql (a0 : Int) (a1 : Int) (a2 : Int) (a3 : Int) (a4 : Bool) (a5 : Int) (a6 : Int) (a7 : Int) (a8 : Bool) (a9 : Int) (a10 : Bool) (b0 : Int) (b1 : Int) (b2 : Int) (b3 : Int) (b4 : Bool) (b5 : Int) (b6 : Int) (b7 : Int) (b8 : Bool) (b9 : Int) (b10 : Bool) (W : World) : (binOp .eql 70 (.agg #[.int .i64 a0, .int .i64 a1, .int .i64 a2, .int .i64 a3, .bool a4, .int .i64 a5, .int .i64 a6, .int .i64 a7, .bool a8, .int .i64 a9, .bool a10]) (.agg #[.int .i64 b0, .int .i64 b1, .int .i64 b2, .int .i64 b3, .bool b4, .int .i64 b5, .int .i64 b6, .int .i64 b7, .bool b8, .int .i64 b9, .bool b10])).run Tryz.prog W = .ok (.bool (a0 == b0 && a1 == b1 && a2 == b2 && a3 == b3 && a4 == b4 && a5 == b5 && a6 == b6 && a7 == b7 && a8 == b8 && a9 == b9 && a10 == b10)) W := by
  have ku0 := Tryz.underlying3
  have ka0 := Tryz.isAgg3
  have kz0 := Tryz.sizeOf3
  have ku1 := Tryz.underlying4
  have ka1 := Tryz.isAgg4
  have kz1 := Tryz.sizeOf4
  have ku2 := Tryz.underlying28
  have ka2 := Tryz.isAgg28
  have kz2 := Tryz.sizeOf28
  have ku3 := Tryz.underlying30
  have ka3 := Tryz.isAgg30
  have kz3 := Tryz.sizeOf30
  have hS : Tryz.prog.underlying 70 = some (.struct (Tryz.prog.fieldsOf 70)) := by kernel_rfl
  have hp : Tryz.prog.stoodInHeld 70 = false := by kernel_rfl
  rw [run_eql_struct, show (10000 : Nat) = 9999 + 1 from rfl, run_equalIn_agg W 9999 70 _ _ hS hp]
  simp only [Program.fieldsOf, Tryz.underlying70]
  go_simp
  clear ku0 ka0 kz0 ku1 ka1 kz1 ku2 ka2 kz2 ku3 ka3 kz3 hS hp
  (repeat' split) <;> simp_all
theorem sameG_reg (g k : gT) : sameG g k = ((g.a == k.a && g.pc == k.pc && g.t.1 == k.t.1 && g.t.2.1 == k.t.2.1 && g.t.2.2 == k.t.2.2 && g.pd == k.pd && g.x.1 == k.x.1 && g.x.2.1 == k.x.2.1 && g.x.2.2.1 == k.x.2.2.1 && g.x.2.2.2 == k.x.2.2.2 && g.hl == k.hl) && decide (g.prog = k.prog) && decide (g.wr = k.wr) && decide (g.lv = k.lv) && decide (g.seen = k.seen)) := by
  unfold sameG
  ac_rfl
set_option maxRecDepth 100000 in
set_option maxHeartbeats 4000000 in
theorem impl_gsame (g k : gT) (cs ds : List Value) (w : World) (hn : gnum g) (hm : gnum k) (hc : rG.cap g) (hd : rG.cap k) (h : rG.rd w 0 w.heap.size g cs) (j : rG.rd w 0 w.heap.size k ds) : Calls Tryz.prog 20 #[.agg cs.toArray, .agg ds.toArray] w (fun e w' => e = .returned (.bool (sameG g k)) ∧ Below w.heap.size w w') := by
  obtain ⟨q0, q1, q2, q3⟩ := rG_len hc
  obtain ⟨p0, p1, p2, p3⟩ := rG_len hd
  have hr := h
  obtain ⟨P0, P1, P2, P3, rfl, h0, h1, h2, h3⟩ := rG_rd h
  obtain ⟨PA0, Pc0, e0, hP0⟩ := lst_val h0
  subst e0
  obtain ⟨PA1, Pc1, e1, hP1⟩ := lst_val h1
  subst e1
  obtain ⟨PA2, Pc2, e2, hP2⟩ := lst_val h2
  subst e2
  obtain ⟨PA3, Pc3, e3, hP3⟩ := lst_val h3
  subst e3
  have jr := j
  obtain ⟨R0, R1, R2, R3, rfl, j0, j1, j2, j3⟩ := rG_rd j
  obtain ⟨RA0, Rc0, e0, hR0⟩ := lst_val j0
  subst e0
  obtain ⟨RA1, Rc1, e1, hR1⟩ := lst_val j1
  subst e1
  obtain ⟨RA2, Rc2, e2, hR2⟩ := lst_val j2
  subst e2
  obtain ⟨RA3, Rc3, e3, hR3⟩ := lst_val j3
  subst e3
  refine Sx.enter (args := [.agg #[.slice PA0 g.prog.length Pc0, .int .i64 g.a, .int .i64 g.pc, .slice PA1 g.wr.length Pc1, .slice PA2 g.lv.length Pc2, .int .i64 g.t.1, .int .i64 g.t.2.1, .bool g.t.2.2, .int .i64 g.pd, .int .i64 g.x.1, .int .i64 g.x.2.1, .bool g.x.2.2.1, .int .i64 g.x.2.2.2, .bool g.hl, .slice PA3 g.seen.length Pc3], .agg #[.slice RA0 k.prog.length Rc0, .int .i64 k.a, .int .i64 k.pc, .slice RA1 k.wr.length Rc1, .slice RA2 k.lv.length Rc2, .int .i64 k.t.1, .int .i64 k.t.2.1, .bool k.t.2.2, .int .i64 k.pd, .int .i64 k.x.1, .int .i64 k.x.2.1, .bool k.x.2.2.1, .int .i64 k.x.2.2.2, .bool k.hl, .slice RA3 k.seen.length Rc3]]) Tryz.func20 rfl Tryz.ntmps20 rfl ?_
  refine Sx.C.seq ?_
  refine Sx.C.region ?_
  refine Sx.G.box 33 (.tmp 0) [.slice PA0 g.prog.length Pc0, .int .i64 g.a, .int .i64 g.pc, .slice PA1 g.wr.length Pc1, .slice PA2 g.lv.length Pc2, .int .i64 g.t.1, .int .i64 g.t.2.1, .bool g.t.2.2, .int .i64 g.pd, .int .i64 g.x.1, .int .i64 g.x.2.1, .bool g.x.2.2.1, .int .i64 g.x.2.2.2, .bool g.hl, .slice PA3 g.seen.length Pc3] rfl (by kernel_rfl) (by kernel_rfl) (fun b1 => ?_)
  refine Sx.G.box 33 (.tmp 1) [.slice RA0 k.prog.length Rc0, .int .i64 k.a, .int .i64 k.pc, .slice RA1 k.wr.length Rc1, .slice RA2 k.lv.length Rc2, .int .i64 k.t.1, .int .i64 k.t.2.1, .bool k.t.2.2, .int .i64 k.pd, .int .i64 k.x.1, .int .i64 k.x.2.1, .bool k.x.2.2.1, .int .i64 k.x.2.2.2, .bool k.hl, .slice RA3 k.seen.length Rc3] rfl (by kernel_rfl) (by kernel_rfl) (fun b2 => ?_)
  refine Sx.G.pure (.bool false) (by kernel_rfl) (fun w => by kernel_rfl) ?_
  refine Sx.G.nil ?_
  refine Sx.E.next ?_
  refine Sx.C.seq ?_
  refine Sx.C.draw (.take 0 (.take 2 (.alone 1 (.alone 3 (.take 4 (.take 5 (.take 6 (.take 7 (.take 8 (.take 9 (.alone 10 (.take 11 (.take 12 (.take 13 (.take 14 (.take 15 (.take 16 (.alone 17 (.take 18 (.take 19 (.take 20 (.take 21 (.take 22 (.take 23 (.alone 24 (.take 25 (.take 26 (.take 27 (.take 28 (.take 29 (.take 30 (.alone 31 (.take 32 (.take 33 .nil)))))))))))))))))))))))))))))))))) [vr b2 [.slice RA0 k.prog.length Rc0, .int .i64 k.a, .int .i64 k.pc, .slice RA1 k.wr.length Rc1, .slice RA2 k.lv.length Rc2, .int .i64 k.t.1, .int .i64 k.t.2.1, .bool k.t.2.2, .int .i64 k.pd, .int .i64 k.x.1, .int .i64 k.x.2.1, .bool k.x.2.2.1, .int .i64 k.x.2.2.2, .bool k.hl, .slice RA3 k.seen.length Rc3], vr b1 [.slice PA0 g.prog.length Pc0, .int .i64 g.a, .int .i64 g.pc, .slice PA1 g.wr.length Pc1, .slice PA2 g.lv.length Pc2, .int .i64 g.t.1, .int .i64 g.t.2.1, .bool g.t.2.2, .int .i64 g.pd, .int .i64 g.x.1, .int .i64 g.x.2.1, .bool g.x.2.2.1, .int .i64 g.x.2.2.2, .bool g.hl, .slice PA3 g.seen.length Pc3]] (fun w S => St.pick S [0, 1] _ rfl (by decide)) (by kernel_rfl) (by kernel_rfl) (by kernel_rfl) ?_
  refine Sx.GT.ld 33 (.tmp 2) b1 0 1 [.slice PA0 g.prog.length Pc0, .int .i64 g.a, .int .i64 g.pc, .slice PA1 g.wr.length Pc1, .slice PA2 g.lv.length Pc2, .int .i64 g.t.1, .int .i64 g.t.2.1, .bool g.t.2.2, .int .i64 g.pd, .int .i64 g.x.1, .int .i64 g.x.2.1, .bool g.x.2.2.1, .int .i64 g.x.2.2.2, .bool g.hl, .slice PA3 g.seen.length Pc3] [.slice PA0 g.prog.length Pc0, .int .i64 g.a, .int .i64 g.pc, .slice PA1 g.wr.length Pc1, .slice PA2 g.lv.length Pc2, .int .i64 g.t.1, .int .i64 g.t.2.1, .bool g.t.2.2, .int .i64 g.pd, .int .i64 g.x.1, .int .i64 g.x.2.1, .bool g.x.2.2.1, .int .i64 g.x.2.2.2, .bool g.hl, .slice PA3 g.seen.length Pc3] 0 (by rfl) (by rfl) (by kernel_rfl) (by kernel_rfl) (by rfl) (by kernel_rfl) (by kernel_rfl) (by kernel_rfl) ?_
  refine Sx.GT.ld 33 (.tmp 3) b2 0 0 [.slice RA0 k.prog.length Rc0, .int .i64 k.a, .int .i64 k.pc, .slice RA1 k.wr.length Rc1, .slice RA2 k.lv.length Rc2, .int .i64 k.t.1, .int .i64 k.t.2.1, .bool k.t.2.2, .int .i64 k.pd, .int .i64 k.x.1, .int .i64 k.x.2.1, .bool k.x.2.2.1, .int .i64 k.x.2.2.2, .bool k.hl, .slice RA3 k.seen.length Rc3] [.slice RA0 k.prog.length Rc0, .int .i64 k.a, .int .i64 k.pc, .slice RA1 k.wr.length Rc1, .slice RA2 k.lv.length Rc2, .int .i64 k.t.1, .int .i64 k.t.2.1, .bool k.t.2.2, .int .i64 k.pd, .int .i64 k.x.1, .int .i64 k.x.2.1, .bool k.x.2.2.1, .int .i64 k.x.2.2.2, .bool k.hl, .slice RA3 k.seen.length Rc3] 2 (by rfl) (by rfl) (by kernel_rfl) (by kernel_rfl) (by rfl) (by kernel_rfl) (by kernel_rfl) (by kernel_rfl) ?_
  refine Sx.GT.alone (Sx.Alone.plain 47 #[.agg #[.slice PA0 g.prog.length Pc0, .int .i64 g.a, .int .i64 g.pc, .slice PA1 g.wr.length Pc1, .slice PA2 g.lv.length Pc2, .int .i64 g.t.1, .int .i64 g.t.2.1, .bool g.t.2.2, .int .i64 g.pd, .int .i64 g.x.1, .int .i64 g.x.2.1, .bool g.x.2.2.1, .int .i64 g.x.2.2.2, .bool g.hl, .slice PA3 g.seen.length Pc3]] (.agg #[.int .i64 g.a, .int .i64 g.pc, .int .i64 g.t.1, .int .i64 g.t.2.1, .bool g.t.2.2, .int .i64 g.pd, .int .i64 g.x.1, .int .i64 g.x.2.1, .bool g.x.2.2.1, .int .i64 g.x.2.2.2, .bool g.hl]) (by rfl) (by kernel_rfl) (fun w => by kernel_rfl) (fun w S => by exact impl_regs g _ _ (St.old S hr)) (fun w S => St.pick S [0, 1] _ rfl (by decide)) ?_)
  refine Sx.GT.alone (Sx.Alone.plain 47 #[.agg #[.slice RA0 k.prog.length Rc0, .int .i64 k.a, .int .i64 k.pc, .slice RA1 k.wr.length Rc1, .slice RA2 k.lv.length Rc2, .int .i64 k.t.1, .int .i64 k.t.2.1, .bool k.t.2.2, .int .i64 k.pd, .int .i64 k.x.1, .int .i64 k.x.2.1, .bool k.x.2.2.1, .int .i64 k.x.2.2.2, .bool k.hl, .slice RA3 k.seen.length Rc3]] (.agg #[.int .i64 k.a, .int .i64 k.pc, .int .i64 k.t.1, .int .i64 k.t.2.1, .bool k.t.2.2, .int .i64 k.pd, .int .i64 k.x.1, .int .i64 k.x.2.1, .bool k.x.2.2.1, .int .i64 k.x.2.2.2, .bool k.hl]) (by rfl) (by kernel_rfl) (fun w => by kernel_rfl) (fun w S => by exact impl_regs k _ _ (St.old S jr)) (fun w S => St.pick S [0, 1] _ rfl (by decide)) ?_)
  refine Sx.GT.pure (.bool ((g.a == k.a && g.pc == k.pc && g.t.1 == k.t.1 && g.t.2.1 == k.t.2.1 && g.t.2.2 == k.t.2.2 && g.pd == k.pd && g.x.1 == k.x.1 && g.x.2.1 == k.x.2.1 && g.x.2.2.1 == k.x.2.2.1 && g.x.2.2.2 == k.x.2.2.2 && g.hl == k.hl))) 4 (by rfl) (by kernel_rfl) (fun w => Sx.run_eqs rfl rfl rfl (by kernel_rfl) (fun w => eqv_reg_eql g.a g.pc g.t.1 g.t.2.1 g.t.2.2 g.pd g.x.1 g.x.2.1 g.x.2.2.1 g.x.2.2.2 g.hl k.a k.pc k.t.1 k.t.2.1 k.t.2.2 k.pd k.x.1 k.x.2.1 k.x.2.2.1 k.x.2.2.2 k.hl w) w) ?_
  refine Sx.GT.pure (.bool ((g.a == k.a && g.pc == k.pc && g.t.1 == k.t.1 && g.t.2.1 == k.t.2.1 && g.t.2.2 == k.t.2.2 && g.pd == k.pd && g.x.1 == k.x.1 && g.x.2.1 == k.x.2.1 && g.x.2.2.1 == k.x.2.2.1 && g.x.2.2.2 == k.x.2.2.2 && g.hl == k.hl))) 5 (by rfl) (by kernel_rfl) (fun w => by kernel_rfl) ?_
  cases hc3 : ((g.a == k.a && g.pc == k.pc && g.t.1 == k.t.1 && g.t.2.1 == k.t.2.1 && g.t.2.2 == k.t.2.2 && g.pd == k.pd && g.x.1 == k.x.1 && g.x.2.1 == k.x.2.1 && g.x.2.2.1 == k.x.2.2.1 && g.x.2.2.2 == k.x.2.2.2 && g.hl == k.hl))
  · have hb3 := hc3
    refine Sx.GT.skip 6 (by rfl) (by kernel_rfl) ?_
    refine Sx.GT.skip 7 (by rfl) (by kernel_rfl) ?_
    refine Sx.GT.skip 8 (by rfl) (by kernel_rfl) ?_
    refine Sx.GT.skip 9 (by rfl) (by kernel_rfl) ?_
    refine Sx.GT.alone (Sx.Alone.skip (by rfl) (by kernel_rfl) (fun w S => St.pick S [0, 1] _ rfl (by decide)) ?_)
    refine Sx.GT.pure (.bool false) 11 (by rfl) (by kernel_rfl) (fun w => by kernel_rfl) ?_
    refine Sx.GT.pure (.bool false) 12 (by rfl) (by kernel_rfl) (fun w => by kernel_rfl) ?_
    refine Sx.GT.skip 13 (by rfl) (by kernel_rfl) ?_
    refine Sx.GT.skip 14 (by rfl) (by kernel_rfl) ?_
    refine Sx.GT.skip 15 (by rfl) (by kernel_rfl) ?_
    refine Sx.GT.skip 16 (by rfl) (by kernel_rfl) ?_
    refine Sx.GT.alone (Sx.Alone.skip (by rfl) (by kernel_rfl) (fun w S => St.pick S [0, 1] _ rfl (by decide)) ?_)
    refine Sx.GT.pure (.bool false) 18 (by rfl) (by kernel_rfl) (fun w => by kernel_rfl) ?_
    refine Sx.GT.pure (.bool false) 19 (by rfl) (by kernel_rfl) (fun w => by kernel_rfl) ?_
    refine Sx.GT.skip 20 (by rfl) (by kernel_rfl) ?_
    refine Sx.GT.skip 21 (by rfl) (by kernel_rfl) ?_
    refine Sx.GT.skip 22 (by rfl) (by kernel_rfl) ?_
    refine Sx.GT.skip 23 (by rfl) (by kernel_rfl) ?_
    refine Sx.GT.alone (Sx.Alone.skip (by rfl) (by kernel_rfl) (fun w S => St.pick S [0, 1] _ rfl (by decide)) ?_)
    refine Sx.GT.pure (.bool false) 25 (by rfl) (by kernel_rfl) (fun w => by kernel_rfl) ?_
    refine Sx.GT.pure (.bool false) 26 (by rfl) (by kernel_rfl) (fun w => by kernel_rfl) ?_
    refine Sx.GT.skip 27 (by rfl) (by kernel_rfl) ?_
    refine Sx.GT.skip 28 (by rfl) (by kernel_rfl) ?_
    refine Sx.GT.skip 29 (by rfl) (by kernel_rfl) ?_
    refine Sx.GT.skip 30 (by rfl) (by kernel_rfl) ?_
    refine Sx.GT.alone (Sx.Alone.skip (by rfl) (by kernel_rfl) (fun w S => St.pick S [0, 1] _ rfl (by decide)) ?_)
    refine Sx.GT.pure (.bool false) 32 (by rfl) (by kernel_rfl) (fun w => by kernel_rfl) ?_
    refine Sx.GT.pure (.bool false) 33 (by rfl) (by kernel_rfl) (fun w => by kernel_rfl) ?_
    refine Sx.GT.nil ?_
    refine Sx.E.next ?_
    refine Sx.C.ret ?_
    refine Sx.E.ret1 (.bool false) rfl (by kernel_rfl) (fun w S => ?_)
    exact ⟨congrArg Ending.returned (congrArg Value.bool (by simp only [sameG_reg, hb3, Bool.and_true, Bool.and_false, Bool.false_and, Bool.true_and])), S.below⟩
  · have hb3 := hc3
    refine Sx.GT.pure (.pointer (some ⟨b1, 0, none⟩)) 6 (by rfl) (by kernel_rfl) (fun w => by kernel_rfl) ?_
    refine Sx.GT.ld1 24 (.tmp 11) b1 0 1 [.slice PA0 g.prog.length Pc0, .int .i64 g.a, .int .i64 g.pc, .slice PA1 g.wr.length Pc1, .slice PA2 g.lv.length Pc2, .int .i64 g.t.1, .int .i64 g.t.2.1, .bool g.t.2.2, .int .i64 g.pd, .int .i64 g.x.1, .int .i64 g.x.2.1, .bool g.x.2.2.1, .int .i64 g.x.2.2.2, .bool g.hl, .slice PA3 g.seen.length Pc3] (.slice PA0 g.prog.length Pc0) 7 (by rfl) (by rfl) (by kernel_rfl) (by kernel_rfl) (by rfl) (by kernel_rfl) (by kernel_rfl) ?_
    refine Sx.GT.pure (.pointer (some ⟨b2, 0, none⟩)) 8 (by rfl) (by kernel_rfl) (fun w => by kernel_rfl) ?_
    refine Sx.GT.ld1 24 (.tmp 13) b2 0 0 [.slice RA0 k.prog.length Rc0, .int .i64 k.a, .int .i64 k.pc, .slice RA1 k.wr.length Rc1, .slice RA2 k.lv.length Rc2, .int .i64 k.t.1, .int .i64 k.t.2.1, .bool k.t.2.2, .int .i64 k.pd, .int .i64 k.x.1, .int .i64 k.x.2.1, .bool k.x.2.2.1, .int .i64 k.x.2.2.2, .bool k.hl, .slice RA3 k.seen.length Rc3] (.slice RA0 k.prog.length Rc0) 9 (by rfl) (by rfl) (by kernel_rfl) (by kernel_rfl) (by rfl) (by kernel_rfl) (by kernel_rfl) ?_
    refine Sx.GT.alone (Sx.Alone.plain 48 #[.slice PA0 g.prog.length Pc0, .slice RA0 k.prog.length Rc0] (.bool (decide (g.prog = k.prog))) (by rfl) (by kernel_rfl) (fun w => by kernel_rfl) (fun w S => by exact ((Inss.impl_sameD PA0 RA0 g.prog.length k.prog.length Pc0 Rc0 g.prog k.prog _ q0 p0 rfl rfl (by rw [← pcells_j]; exact p2_lies (St.old S h0)) (by rw [← pcells_j]; exact p2_lies (St.old S j0))).mono fun e w' h => And.intro h.1 (drew_below h.2))) (fun w S => St.pick S [0, 1] _ rfl (by decide)) ?_)
    refine Sx.GT.pure (.bool (decide (g.prog = k.prog))) 11 (by rfl) (by kernel_rfl) (fun w => by kernel_rfl) ?_
    refine Sx.GT.pure (.bool (decide (g.prog = k.prog))) 12 (by rfl) (by kernel_rfl) (fun w => by kernel_rfl) ?_
    cases hc4 : (decide (g.prog = k.prog))
    · have hb4 := hc4
      replace hc4 := of_decide_eq_false hc4
      refine Sx.GT.skip 13 (by rfl) (by kernel_rfl) ?_
      refine Sx.GT.skip 14 (by rfl) (by kernel_rfl) ?_
      refine Sx.GT.skip 15 (by rfl) (by kernel_rfl) ?_
      refine Sx.GT.skip 16 (by rfl) (by kernel_rfl) ?_
      refine Sx.GT.alone (Sx.Alone.skip (by rfl) (by kernel_rfl) (fun w S => St.pick S [0, 1] _ rfl (by decide)) ?_)
      refine Sx.GT.pure (.bool false) 18 (by rfl) (by kernel_rfl) (fun w => by kernel_rfl) ?_
      refine Sx.GT.pure (.bool false) 19 (by rfl) (by kernel_rfl) (fun w => by kernel_rfl) ?_
      refine Sx.GT.skip 20 (by rfl) (by kernel_rfl) ?_
      refine Sx.GT.skip 21 (by rfl) (by kernel_rfl) ?_
      refine Sx.GT.skip 22 (by rfl) (by kernel_rfl) ?_
      refine Sx.GT.skip 23 (by rfl) (by kernel_rfl) ?_
      refine Sx.GT.alone (Sx.Alone.skip (by rfl) (by kernel_rfl) (fun w S => St.pick S [0, 1] _ rfl (by decide)) ?_)
      refine Sx.GT.pure (.bool false) 25 (by rfl) (by kernel_rfl) (fun w => by kernel_rfl) ?_
      refine Sx.GT.pure (.bool false) 26 (by rfl) (by kernel_rfl) (fun w => by kernel_rfl) ?_
      refine Sx.GT.skip 27 (by rfl) (by kernel_rfl) ?_
      refine Sx.GT.skip 28 (by rfl) (by kernel_rfl) ?_
      refine Sx.GT.skip 29 (by rfl) (by kernel_rfl) ?_
      refine Sx.GT.skip 30 (by rfl) (by kernel_rfl) ?_
      refine Sx.GT.alone (Sx.Alone.skip (by rfl) (by kernel_rfl) (fun w S => St.pick S [0, 1] _ rfl (by decide)) ?_)
      refine Sx.GT.pure (.bool false) 32 (by rfl) (by kernel_rfl) (fun w => by kernel_rfl) ?_
      refine Sx.GT.pure (.bool false) 33 (by rfl) (by kernel_rfl) (fun w => by kernel_rfl) ?_
      refine Sx.GT.nil ?_
      refine Sx.E.next ?_
      refine Sx.C.ret ?_
      refine Sx.E.ret1 (.bool false) rfl (by kernel_rfl) (fun w S => ?_)
      exact ⟨congrArg Ending.returned (congrArg Value.bool (by simp only [sameG_reg, hb3, hb4, Bool.and_true, Bool.and_false, Bool.false_and, Bool.true_and])), S.below⟩
    · have hb4 := hc4
      replace hc4 := of_decide_eq_true hc4
      refine Sx.GT.pure (.pointer (some ⟨b1, 3, none⟩)) 13 (by rfl) (by kernel_rfl) (fun w => by kernel_rfl) ?_
      refine Sx.GT.ld1 26 (.tmp 18) b1 3 1 [.slice PA0 g.prog.length Pc0, .int .i64 g.a, .int .i64 g.pc, .slice PA1 g.wr.length Pc1, .slice PA2 g.lv.length Pc2, .int .i64 g.t.1, .int .i64 g.t.2.1, .bool g.t.2.2, .int .i64 g.pd, .int .i64 g.x.1, .int .i64 g.x.2.1, .bool g.x.2.2.1, .int .i64 g.x.2.2.2, .bool g.hl, .slice PA3 g.seen.length Pc3] (.slice PA1 g.wr.length Pc1) 14 (by rfl) (by rfl) (by kernel_rfl) (by kernel_rfl) (by rfl) (by kernel_rfl) (by kernel_rfl) ?_
      refine Sx.GT.pure (.pointer (some ⟨b2, 3, none⟩)) 15 (by rfl) (by kernel_rfl) (fun w => by kernel_rfl) ?_
      refine Sx.GT.ld1 26 (.tmp 20) b2 3 0 [.slice RA0 k.prog.length Rc0, .int .i64 k.a, .int .i64 k.pc, .slice RA1 k.wr.length Rc1, .slice RA2 k.lv.length Rc2, .int .i64 k.t.1, .int .i64 k.t.2.1, .bool k.t.2.2, .int .i64 k.pd, .int .i64 k.x.1, .int .i64 k.x.2.1, .bool k.x.2.2.1, .int .i64 k.x.2.2.2, .bool k.hl, .slice RA3 k.seen.length Rc3] (.slice RA1 k.wr.length Rc1) 16 (by rfl) (by rfl) (by kernel_rfl) (by kernel_rfl) (by rfl) (by kernel_rfl) (by kernel_rfl) ?_
      refine Sx.GT.alone (Sx.Alone.plain 49 #[.slice PA1 g.wr.length Pc1, .slice RA1 k.wr.length Rc1] (.bool (decide (g.wr = k.wr))) (by rfl) (by kernel_rfl) (fun w => by kernel_rfl) (fun w S => by exact ((Slots.impl_same PA1 RA1 g.wr.length k.wr.length Pc1 Rc1 0 0 _ _ g.wr k.wr _ q1 p1 rfl rfl (by rw [← pcells_s]; exact p2_lies (St.old S h1)) (by rw [← pcells_s]; exact p2_lies (St.old S j1))).mono fun e w' h => And.intro h.1 (drew_below h.2))) (fun w S => St.pick S [0, 1] _ rfl (by decide)) ?_)
      refine Sx.GT.pure (.bool (decide (g.wr = k.wr))) 18 (by rfl) (by kernel_rfl) (fun w => by kernel_rfl) ?_
      refine Sx.GT.pure (.bool (decide (g.wr = k.wr))) 19 (by rfl) (by kernel_rfl) (fun w => by kernel_rfl) ?_
      cases hc5 : (decide (g.wr = k.wr))
      · have hb5 := hc5
        replace hc5 := of_decide_eq_false hc5
        refine Sx.GT.skip 20 (by rfl) (by kernel_rfl) ?_
        refine Sx.GT.skip 21 (by rfl) (by kernel_rfl) ?_
        refine Sx.GT.skip 22 (by rfl) (by kernel_rfl) ?_
        refine Sx.GT.skip 23 (by rfl) (by kernel_rfl) ?_
        refine Sx.GT.alone (Sx.Alone.skip (by rfl) (by kernel_rfl) (fun w S => St.pick S [0, 1] _ rfl (by decide)) ?_)
        refine Sx.GT.pure (.bool false) 25 (by rfl) (by kernel_rfl) (fun w => by kernel_rfl) ?_
        refine Sx.GT.pure (.bool false) 26 (by rfl) (by kernel_rfl) (fun w => by kernel_rfl) ?_
        refine Sx.GT.skip 27 (by rfl) (by kernel_rfl) ?_
        refine Sx.GT.skip 28 (by rfl) (by kernel_rfl) ?_
        refine Sx.GT.skip 29 (by rfl) (by kernel_rfl) ?_
        refine Sx.GT.skip 30 (by rfl) (by kernel_rfl) ?_
        refine Sx.GT.alone (Sx.Alone.skip (by rfl) (by kernel_rfl) (fun w S => St.pick S [0, 1] _ rfl (by decide)) ?_)
        refine Sx.GT.pure (.bool false) 32 (by rfl) (by kernel_rfl) (fun w => by kernel_rfl) ?_
        refine Sx.GT.pure (.bool false) 33 (by rfl) (by kernel_rfl) (fun w => by kernel_rfl) ?_
        refine Sx.GT.nil ?_
        refine Sx.E.next ?_
        refine Sx.C.ret ?_
        refine Sx.E.ret1 (.bool false) rfl (by kernel_rfl) (fun w S => ?_)
        exact ⟨congrArg Ending.returned (congrArg Value.bool (by simp only [sameG_reg, hb3, hb4, hb5, Bool.and_true, Bool.and_false, Bool.false_and, Bool.true_and])), S.below⟩
      · have hb5 := hc5
        replace hc5 := of_decide_eq_true hc5
        refine Sx.GT.pure (.pointer (some ⟨b1, 4, none⟩)) 20 (by rfl) (by kernel_rfl) (fun w => by kernel_rfl) ?_
        refine Sx.GT.ld1 26 (.tmp 25) b1 4 1 [.slice PA0 g.prog.length Pc0, .int .i64 g.a, .int .i64 g.pc, .slice PA1 g.wr.length Pc1, .slice PA2 g.lv.length Pc2, .int .i64 g.t.1, .int .i64 g.t.2.1, .bool g.t.2.2, .int .i64 g.pd, .int .i64 g.x.1, .int .i64 g.x.2.1, .bool g.x.2.2.1, .int .i64 g.x.2.2.2, .bool g.hl, .slice PA3 g.seen.length Pc3] (.slice PA2 g.lv.length Pc2) 21 (by rfl) (by rfl) (by kernel_rfl) (by kernel_rfl) (by rfl) (by kernel_rfl) (by kernel_rfl) ?_
        refine Sx.GT.pure (.pointer (some ⟨b2, 4, none⟩)) 22 (by rfl) (by kernel_rfl) (fun w => by kernel_rfl) ?_
        refine Sx.GT.ld1 26 (.tmp 27) b2 4 0 [.slice RA0 k.prog.length Rc0, .int .i64 k.a, .int .i64 k.pc, .slice RA1 k.wr.length Rc1, .slice RA2 k.lv.length Rc2, .int .i64 k.t.1, .int .i64 k.t.2.1, .bool k.t.2.2, .int .i64 k.pd, .int .i64 k.x.1, .int .i64 k.x.2.1, .bool k.x.2.2.1, .int .i64 k.x.2.2.2, .bool k.hl, .slice RA3 k.seen.length Rc3] (.slice RA2 k.lv.length Rc2) 23 (by rfl) (by rfl) (by kernel_rfl) (by kernel_rfl) (by rfl) (by kernel_rfl) (by kernel_rfl) ?_
        refine Sx.GT.alone (Sx.Alone.plain 49 #[.slice PA2 g.lv.length Pc2, .slice RA2 k.lv.length Rc2] (.bool (decide (g.lv = k.lv))) (by rfl) (by kernel_rfl) (fun w => by kernel_rfl) (fun w S => by exact ((Slots.impl_same PA2 RA2 g.lv.length k.lv.length Pc2 Rc2 0 0 _ _ g.lv k.lv _ q2 p2 rfl rfl (by rw [← pcells_s]; exact p2_lies (St.old S h2)) (by rw [← pcells_s]; exact p2_lies (St.old S j2))).mono fun e w' h => And.intro h.1 (drew_below h.2))) (fun w S => St.pick S [0, 1] _ rfl (by decide)) ?_)
        refine Sx.GT.pure (.bool (decide (g.lv = k.lv))) 25 (by rfl) (by kernel_rfl) (fun w => by kernel_rfl) ?_
        refine Sx.GT.pure (.bool (decide (g.lv = k.lv))) 26 (by rfl) (by kernel_rfl) (fun w => by kernel_rfl) ?_
        cases hc6 : (decide (g.lv = k.lv))
        · have hb6 := hc6
          replace hc6 := of_decide_eq_false hc6
          refine Sx.GT.skip 27 (by rfl) (by kernel_rfl) ?_
          refine Sx.GT.skip 28 (by rfl) (by kernel_rfl) ?_
          refine Sx.GT.skip 29 (by rfl) (by kernel_rfl) ?_
          refine Sx.GT.skip 30 (by rfl) (by kernel_rfl) ?_
          refine Sx.GT.alone (Sx.Alone.skip (by rfl) (by kernel_rfl) (fun w S => St.pick S [0, 1] _ rfl (by decide)) ?_)
          refine Sx.GT.pure (.bool false) 32 (by rfl) (by kernel_rfl) (fun w => by kernel_rfl) ?_
          refine Sx.GT.pure (.bool false) 33 (by rfl) (by kernel_rfl) (fun w => by kernel_rfl) ?_
          refine Sx.GT.nil ?_
          refine Sx.E.next ?_
          refine Sx.C.ret ?_
          refine Sx.E.ret1 (.bool false) rfl (by kernel_rfl) (fun w S => ?_)
          exact ⟨congrArg Ending.returned (congrArg Value.bool (by simp only [sameG_reg, hb3, hb4, hb5, hb6, Bool.and_true, Bool.and_false, Bool.false_and, Bool.true_and])), S.below⟩
        · have hb6 := hc6
          replace hc6 := of_decide_eq_true hc6
          refine Sx.GT.pure (.pointer (some ⟨b1, 14, none⟩)) 27 (by rfl) (by kernel_rfl) (fun w => by kernel_rfl) ?_
          refine Sx.GT.ld1 31 (.tmp 32) b1 14 1 [.slice PA0 g.prog.length Pc0, .int .i64 g.a, .int .i64 g.pc, .slice PA1 g.wr.length Pc1, .slice PA2 g.lv.length Pc2, .int .i64 g.t.1, .int .i64 g.t.2.1, .bool g.t.2.2, .int .i64 g.pd, .int .i64 g.x.1, .int .i64 g.x.2.1, .bool g.x.2.2.1, .int .i64 g.x.2.2.2, .bool g.hl, .slice PA3 g.seen.length Pc3] (.slice PA3 g.seen.length Pc3) 28 (by rfl) (by rfl) (by kernel_rfl) (by kernel_rfl) (by rfl) (by kernel_rfl) (by kernel_rfl) ?_
          refine Sx.GT.pure (.pointer (some ⟨b2, 14, none⟩)) 29 (by rfl) (by kernel_rfl) (fun w => by kernel_rfl) ?_
          refine Sx.GT.ld1 31 (.tmp 34) b2 14 0 [.slice RA0 k.prog.length Rc0, .int .i64 k.a, .int .i64 k.pc, .slice RA1 k.wr.length Rc1, .slice RA2 k.lv.length Rc2, .int .i64 k.t.1, .int .i64 k.t.2.1, .bool k.t.2.2, .int .i64 k.pd, .int .i64 k.x.1, .int .i64 k.x.2.1, .bool k.x.2.2.1, .int .i64 k.x.2.2.2, .bool k.hl, .slice RA3 k.seen.length Rc3] (.slice RA3 k.seen.length Rc3) 30 (by rfl) (by rfl) (by kernel_rfl) (by kernel_rfl) (by rfl) (by kernel_rfl) (by kernel_rfl) ?_
          refine Sx.GT.alone (Sx.Alone.plain 50 #[.slice PA3 g.seen.length Pc3, .slice RA3 k.seen.length Rc3] (.bool (decide (g.seen = k.seen))) (by rfl) (by kernel_rfl) (fun w => by kernel_rfl) (fun w S => by exact ((Grid.lib_equal PA3 RA3 g.seen.length k.seen.length Pc3 Rc3 0 0 _ _ g.seen k.seen _ q3 p3 rfl rfl (i1_lies (St.old S h3)) (i1_lies (St.old S j3))).mono fun e w' h => And.intro h.1 (drew_below h.2))) (fun w S => St.pick S [0, 1] _ rfl (by decide)) ?_)
          refine Sx.GT.pure (.bool (decide (g.seen = k.seen))) 32 (by rfl) (by kernel_rfl) (fun w => by kernel_rfl) ?_
          refine Sx.GT.pure (.bool (decide (g.seen = k.seen))) 33 (by rfl) (by kernel_rfl) (fun w => by kernel_rfl) ?_
          refine Sx.GT.nil ?_
          refine Sx.E.next ?_
          refine Sx.C.ret ?_
          refine Sx.E.ret1 (.bool (decide (g.seen = k.seen))) rfl (by kernel_rfl) (fun w S => ?_)
          exact ⟨congrArg Ending.returned (congrArg Value.bool (by simp only [sameG_reg, hb3, hb4, hb5, hb6, Bool.and_true, Bool.and_false, Bool.false_and, Bool.true_and])), S.below⟩
set_option maxRecDepth 100000 in
set_option maxHeartbeats 4000000 in
theorem impl_saw_g (g : gT) (cs : List Value) (n : Int) (w : World) (hc : rG.cap g) (h : rG.rd w 0 w.heap.size g cs) : Calls Tryz.prog 16 #[.agg cs.toArray, .int .i64 n] w (Gives rG w (sawG g n)) := by
  obtain ⟨q0, q1, q2, q3⟩ := rG_len hc
  have hr := h
  obtain ⟨P0, P1, P2, P3, rfl, h0, h1, h2, h3⟩ := rG_rd h
  obtain ⟨PA0, Pc0, e0, hP0⟩ := lst_val h0
  subst e0
  obtain ⟨PA1, Pc1, e1, hP1⟩ := lst_val h1
  subst e1
  obtain ⟨PA2, Pc2, e2, hP2⟩ := lst_val h2
  subst e2
  obtain ⟨PA3, Pc3, e3, hP3⟩ := lst_val h3
  subst e3
  refine Sx.enter (args := [.agg #[.slice PA0 g.prog.length Pc0, .int .i64 g.a, .int .i64 g.pc, .slice PA1 g.wr.length Pc1, .slice PA2 g.lv.length Pc2, .int .i64 g.t.1, .int .i64 g.t.2.1, .bool g.t.2.2, .int .i64 g.pd, .int .i64 g.x.1, .int .i64 g.x.2.1, .bool g.x.2.2.1, .int .i64 g.x.2.2.2, .bool g.hl, .slice PA3 g.seen.length Pc3], .int .i64 n]) Tryz.func16 rfl Tryz.ntmps16 rfl ?_
  refine Sx.C.seq ?_
  refine Sx.C.region ?_
  refine Sx.G.box 33 (.tmp 0) [.slice PA0 g.prog.length Pc0, .int .i64 g.a, .int .i64 g.pc, .slice PA1 g.wr.length Pc1, .slice PA2 g.lv.length Pc2, .int .i64 g.t.1, .int .i64 g.t.2.1, .bool g.t.2.2, .int .i64 g.pd, .int .i64 g.x.1, .int .i64 g.x.2.1, .bool g.x.2.2.1, .int .i64 g.x.2.2.2, .bool g.hl, .slice PA3 g.seen.length Pc3] rfl (by kernel_rfl) (by kernel_rfl) (fun b1 => ?_)
  refine Sx.G.alloc 33 (.agg #[.slice none 0 0, .int .i64 0, .int .i64 0, .slice none 0 0, .slice none 0 0, .int .i64 0, .int .i64 0, .bool false, .int .i64 0, .int .i64 0, .int .i64 0, .bool false, .int .i64 0, .bool false, .slice none 0 0]) [.slice none 0 0, .int .i64 0, .int .i64 0, .slice none 0 0, .slice none 0 0, .int .i64 0, .int .i64 0, .bool false, .int .i64 0, .int .i64 0, .int .i64 0, .bool false, .int .i64 0, .bool false, .slice none 0 0] rfl (by kernel_rfl) (fun w => by kernel_rfl) (by kernel_rfl) (fun b2 => ?_)
  refine Sx.G.nil ?_
  refine Sx.E.next ?_
  refine Sx.C.seq ?_
  refine Sx.C.region ?_
  refine Sx.G.ld 33 (.tmp 2) b1 0 1 [.slice PA0 g.prog.length Pc0, .int .i64 g.a, .int .i64 g.pc, .slice PA1 g.wr.length Pc1, .slice PA2 g.lv.length Pc2, .int .i64 g.t.1, .int .i64 g.t.2.1, .bool g.t.2.2, .int .i64 g.pd, .int .i64 g.x.1, .int .i64 g.x.2.1, .bool g.x.2.2.1, .int .i64 g.x.2.2.2, .bool g.hl, .slice PA3 g.seen.length Pc3] [.slice PA0 g.prog.length Pc0, .int .i64 g.a, .int .i64 g.pc, .slice PA1 g.wr.length Pc1, .slice PA2 g.lv.length Pc2, .int .i64 g.t.1, .int .i64 g.t.2.1, .bool g.t.2.2, .int .i64 g.pd, .int .i64 g.x.1, .int .i64 g.x.2.1, .bool g.x.2.2.1, .int .i64 g.x.2.2.2, .bool g.hl, .slice PA3 g.seen.length Pc3] rfl (by kernel_rfl) (by kernel_rfl) rfl (by kernel_rfl) (by kernel_rfl) (by kernel_rfl) ?_
  refine Sx.G.call 34 #[.agg #[.slice PA0 g.prog.length Pc0, .int .i64 g.a, .int .i64 g.pc, .slice PA1 g.wr.length Pc1, .slice PA2 g.lv.length Pc2, .int .i64 g.t.1, .int .i64 g.t.2.1, .bool g.t.2.2, .int .i64 g.pd, .int .i64 g.x.1, .int .i64 g.x.2.1, .bool g.x.2.2.1, .int .i64 g.x.2.2.2, .bool g.hl, .slice PA3 g.seen.length Pc3]] (by kernel_rfl) (fun w => by kernel_rfl) (fun w3 S => (impl_copyM g _ _ hc (St.old S hr)).mono fun e w3' hp => ?_)
  obtain ⟨b3, A3_0, c3_0, l3_0, h3_0, F3_0, A3_1, c3_1, l3_1, h3_1, F3_1, A3_2, c3_2, l3_2, h3_2, F3_2, A3_3, c3_3, l3_3, h3_3, F3_3, rfl, U⟩ := hp
  refine ⟨_, _, rfl, (Sx.St.join S U), ?_⟩
  clear S U
  refine Sx.G.pure (.pointer (some ⟨b3, 0, none⟩)) (by kernel_rfl) (fun w => by kernel_rfl) ?_
  refine Sx.G.nil ?_
  refine Sx.E.next ?_
  refine Sx.C.seq ?_
  refine Sx.C.region ?_
  refine Sx.G.pure (.pointer (some ⟨b3, 0, none⟩)) (by kernel_rfl) (fun w => by kernel_rfl) ?_
  refine Sx.G.pure (.int .i64 n) (by kernel_rfl) (fun w => by kernel_rfl) ?_
  refine Sx.G.call 46 #[.pointer (some ⟨b3, 0, none⟩), .int .i64 n] (by kernel_rfl) (fun w => by kernel_rfl) (fun w4 S => (impl_sawM g n (by omega) S).mono fun e w4' hp => ?_)
  obtain ⟨rfl, A4_0, c4_0, l4_0, h4_0, F4_0, A4_1, c4_1, l4_1, h4_1, F4_1, A4_2, c4_2, l4_2, h4_2, F4_2, A4_3, c4_3, l4_3, h4_3, F4_3, S'⟩ := hp
  refine ⟨_, _, rfl, S', ?_⟩
  clear S S'
  refine Sx.G.nil ?_
  refine Sx.E.next ?_
  refine Sx.C.seq ?_
  refine Sx.C.region ?_
  refine Sx.G.pure (.pointer (some ⟨b3, 0, none⟩)) (by kernel_rfl) (fun w => by kernel_rfl) ?_
  refine Sx.G.call 36 #[.pointer (some ⟨b3, 0, none⟩)] (by kernel_rfl) (fun w => by kernel_rfl) (fun w5 S => (impl_guestM (sawG g n) S).mono fun e w5' hp => ?_)
  obtain ⟨rfl, S'⟩ := hp
  refine ⟨_, _, rfl, S', ?_⟩
  clear S S'
  refine Sx.G.sto 33 (.tmp 4) (.tmp 12) b2 0 5 [.slice none 0 0, .int .i64 0, .int .i64 0, .slice none 0 0, .slice none 0 0, .int .i64 0, .int .i64 0, .bool false, .int .i64 0, .int .i64 0, .int .i64 0, .bool false, .int .i64 0, .bool false, .slice none 0 0] [.slice A4_0 (sawG g n).prog.length c4_0, .int .i64 (sawG g n).a, .int .i64 (sawG g n).pc, .slice A4_1 (sawG g n).wr.length c4_1, .slice A4_2 (sawG g n).lv.length c4_2, .int .i64 (sawG g n).t.1, .int .i64 (sawG g n).t.2.1, .bool (sawG g n).t.2.2, .int .i64 (sawG g n).pd, .int .i64 (sawG g n).x.1, .int .i64 (sawG g n).x.2.1, .bool (sawG g n).x.2.2.1, .int .i64 (sawG g n).x.2.2.2, .bool (sawG g n).hl, .slice A4_3 (sawG g n).seen.length c4_3] [.slice A4_0 (sawG g n).prog.length c4_0, .int .i64 (sawG g n).a, .int .i64 (sawG g n).pc, .slice A4_1 (sawG g n).wr.length c4_1, .slice A4_2 (sawG g n).lv.length c4_2, .int .i64 (sawG g n).t.1, .int .i64 (sawG g n).t.2.1, .bool (sawG g n).t.2.2, .int .i64 (sawG g n).pd, .int .i64 (sawG g n).x.1, .int .i64 (sawG g n).x.2.1, .bool (sawG g n).x.2.2.1, .int .i64 (sawG g n).x.2.2.2, .bool (sawG g n).hl, .slice A4_3 (sawG g n).seen.length c4_3] [vr b3 [.int .i64 (sawG g n).a, .int .i64 (sawG g n).pc, .int .i64 (sawG g n).t.1, .int .i64 (sawG g n).t.2.1, .bool (sawG g n).t.2.2, .int .i64 (sawG g n).pd, .int .i64 (sawG g n).x.1, .int .i64 (sawG g n).x.2.1, .bool (sawG g n).x.2.2.1, .int .i64 (sawG g n).x.2.2.2, .bool (sawG g n).hl, .slice A4_0 (sawG g n).prog.length c4_0, .slice A4_1 (sawG g n).wr.length c4_1, .slice A4_2 (sawG g n).lv.length c4_2, .slice A4_3 (sawG g n).seen.length c4_3], ow (rLst 54 (rPair rInt rInt)) l4_0 h4_0 ((sawG g n).prog) [.slice A4_0 (sawG g n).prog.length c4_0] F4_0, ow (rLst 86 (rPair rInt rInt)) l4_1 h4_1 ((sawG g n).wr) [.slice A4_1 (sawG g n).wr.length c4_1] F4_1, ow (rLst 86 (rPair rInt rInt)) l4_2 h4_2 ((sawG g n).lv) [.slice A4_2 (sawG g n).lv.length c4_2] F4_2, ow (rLst 3 rInt) l4_3 h4_3 ((sawG g n).seen) [.slice A4_3 (sawG g n).seen.length c4_3] F4_3, vr b2 [.slice A4_0 (sawG g n).prog.length c4_0, .int .i64 (sawG g n).a, .int .i64 (sawG g n).pc, .slice A4_1 (sawG g n).wr.length c4_1, .slice A4_2 (sawG g n).lv.length c4_2, .int .i64 (sawG g n).t.1, .int .i64 (sawG g n).t.2.1, .bool (sawG g n).t.2.2, .int .i64 (sawG g n).pd, .int .i64 (sawG g n).x.1, .int .i64 (sawG g n).x.2.1, .bool (sawG g n).x.2.2.1, .int .i64 (sawG g n).x.2.2.2, .bool (sawG g n).hl, .slice A4_3 (sawG g n).seen.length c4_3], vr b1 [.slice PA0 g.prog.length Pc0, .int .i64 g.a, .int .i64 g.pc, .slice PA1 g.wr.length Pc1, .slice PA2 g.lv.length Pc2, .int .i64 g.t.1, .int .i64 g.t.2.1, .bool g.t.2.2, .int .i64 g.pd, .int .i64 g.x.1, .int .i64 g.x.2.1, .bool g.x.2.2.1, .int .i64 g.x.2.2.2, .bool g.hl, .slice PA3 g.seen.length Pc3]] rfl (by kernel_rfl) (by kernel_rfl) (by kernel_rfl) rfl (by kernel_rfl) rfl (by kernel_rfl) (by kernel_rfl) (by kernel_rfl) ?_
  refine Sx.G.nil ?_
  refine Sx.E.next ?_
  refine Sx.C.ret ?_
  refine Sx.E.retc b2 5 [.slice A4_0 (sawG g n).prog.length c4_0, .int .i64 (sawG g n).a, .int .i64 (sawG g n).pc, .slice A4_1 (sawG g n).wr.length c4_1, .slice A4_2 (sawG g n).lv.length c4_2, .int .i64 (sawG g n).t.1, .int .i64 (sawG g n).t.2.1, .bool (sawG g n).t.2.2, .int .i64 (sawG g n).pd, .int .i64 (sawG g n).x.1, .int .i64 (sawG g n).x.2.1, .bool (sawG g n).x.2.2.1, .int .i64 (sawG g n).x.2.2.2, .bool (sawG g n).hl, .slice A4_3 (sawG g n).seen.length c4_3] rfl (by kernel_rfl) rfl (by kernel_rfl) (by kernel_rfl) (fun w S => ?_)
  obtain ⟨GW2, S⟩ := S.weak 2 rfl
  obtain ⟨GW3, S⟩ := S.weak 3 rfl
  obtain ⟨ho, hF⟩ := rG_shut (g := sawG g n) S 1 rfl 2 rfl 3 rfl 4 rfl (by decide) (by decide) (by decide) (by decide) (by decide) (by decide)
  exact ⟨_, _, rfl, ho, hF, S.below⟩
set_option maxRecDepth 100000 in
set_option maxHeartbeats 4000000 in
theorem impl_int_g (g : gT) (cs : List Value) (w : World) (hn : gnum g) (hc : rG.cap g) (h : rG.rd w 0 w.heap.size g cs) : Calls Tryz.prog 8 #[.agg cs.toArray] w (Gives rG w (intG g)) := by
  obtain ⟨q0, q1, q2, q3⟩ := rG_len hc
  have hr := h
  obtain ⟨P0, P1, P2, P3, rfl, h0, h1, h2, h3⟩ := rG_rd h
  obtain ⟨PA0, Pc0, e0, hP0⟩ := lst_val h0
  subst e0
  obtain ⟨PA1, Pc1, e1, hP1⟩ := lst_val h1
  subst e1
  obtain ⟨PA2, Pc2, e2, hP2⟩ := lst_val h2
  subst e2
  obtain ⟨PA3, Pc3, e3, hP3⟩ := lst_val h3
  subst e3
  refine Sx.enter (args := [.agg #[.slice PA0 g.prog.length Pc0, .int .i64 g.a, .int .i64 g.pc, .slice PA1 g.wr.length Pc1, .slice PA2 g.lv.length Pc2, .int .i64 g.t.1, .int .i64 g.t.2.1, .bool g.t.2.2, .int .i64 g.pd, .int .i64 g.x.1, .int .i64 g.x.2.1, .bool g.x.2.2.1, .int .i64 g.x.2.2.2, .bool g.hl, .slice PA3 g.seen.length Pc3]]) Tryz.func8 rfl Tryz.ntmps8 rfl ?_
  refine Sx.C.seq ?_
  refine Sx.C.region ?_
  refine Sx.G.box 33 (.tmp 0) [.slice PA0 g.prog.length Pc0, .int .i64 g.a, .int .i64 g.pc, .slice PA1 g.wr.length Pc1, .slice PA2 g.lv.length Pc2, .int .i64 g.t.1, .int .i64 g.t.2.1, .bool g.t.2.2, .int .i64 g.pd, .int .i64 g.x.1, .int .i64 g.x.2.1, .bool g.x.2.2.1, .int .i64 g.x.2.2.2, .bool g.hl, .slice PA3 g.seen.length Pc3] rfl (by kernel_rfl) (by kernel_rfl) (fun b1 => ?_)
  refine Sx.G.alloc 33 (.agg #[.slice none 0 0, .int .i64 0, .int .i64 0, .slice none 0 0, .slice none 0 0, .int .i64 0, .int .i64 0, .bool false, .int .i64 0, .int .i64 0, .int .i64 0, .bool false, .int .i64 0, .bool false, .slice none 0 0]) [.slice none 0 0, .int .i64 0, .int .i64 0, .slice none 0 0, .slice none 0 0, .int .i64 0, .int .i64 0, .bool false, .int .i64 0, .int .i64 0, .int .i64 0, .bool false, .int .i64 0, .bool false, .slice none 0 0] rfl (by kernel_rfl) (fun w => by kernel_rfl) (by kernel_rfl) (fun b2 => ?_)
  refine Sx.G.nil ?_
  refine Sx.E.next ?_
  refine Sx.C.seq ?_
  refine Sx.C.region ?_
  refine Sx.G.ld 33 (.tmp 1) b1 0 1 [.slice PA0 g.prog.length Pc0, .int .i64 g.a, .int .i64 g.pc, .slice PA1 g.wr.length Pc1, .slice PA2 g.lv.length Pc2, .int .i64 g.t.1, .int .i64 g.t.2.1, .bool g.t.2.2, .int .i64 g.pd, .int .i64 g.x.1, .int .i64 g.x.2.1, .bool g.x.2.2.1, .int .i64 g.x.2.2.2, .bool g.hl, .slice PA3 g.seen.length Pc3] [.slice PA0 g.prog.length Pc0, .int .i64 g.a, .int .i64 g.pc, .slice PA1 g.wr.length Pc1, .slice PA2 g.lv.length Pc2, .int .i64 g.t.1, .int .i64 g.t.2.1, .bool g.t.2.2, .int .i64 g.pd, .int .i64 g.x.1, .int .i64 g.x.2.1, .bool g.x.2.2.1, .int .i64 g.x.2.2.2, .bool g.hl, .slice PA3 g.seen.length Pc3] rfl (by kernel_rfl) (by kernel_rfl) rfl (by kernel_rfl) (by kernel_rfl) (by kernel_rfl) ?_
  refine Sx.G.call 34 #[.agg #[.slice PA0 g.prog.length Pc0, .int .i64 g.a, .int .i64 g.pc, .slice PA1 g.wr.length Pc1, .slice PA2 g.lv.length Pc2, .int .i64 g.t.1, .int .i64 g.t.2.1, .bool g.t.2.2, .int .i64 g.pd, .int .i64 g.x.1, .int .i64 g.x.2.1, .bool g.x.2.2.1, .int .i64 g.x.2.2.2, .bool g.hl, .slice PA3 g.seen.length Pc3]] (by kernel_rfl) (fun w => by kernel_rfl) (fun w3 S => (impl_copyM g _ _ hc (St.old S hr)).mono fun e w3' hp => ?_)
  obtain ⟨b3, A3_0, c3_0, l3_0, h3_0, F3_0, A3_1, c3_1, l3_1, h3_1, F3_1, A3_2, c3_2, l3_2, h3_2, F3_2, A3_3, c3_3, l3_3, h3_3, F3_3, rfl, U⟩ := hp
  refine ⟨_, _, rfl, (Sx.St.join S U), ?_⟩
  clear S U
  refine Sx.G.pure (.pointer (some ⟨b3, 0, none⟩)) (by kernel_rfl) (fun w => by kernel_rfl) ?_
  refine Sx.G.nil ?_
  refine Sx.E.next ?_
  refine Sx.C.seq ?_
  refine Sx.C.region ?_
  refine Sx.G.pure (.pointer (some ⟨b3, 0, none⟩)) (by kernel_rfl) (fun w => by kernel_rfl) ?_
  refine Sx.G.call 35 #[.pointer (some ⟨b3, 0, none⟩)] (by kernel_rfl) (fun w => by kernel_rfl) (fun w4 S => (impl_intM g hn (by omega) S).mono fun e w4' hp => ?_)
  obtain ⟨rfl, A4_0, c4_0, l4_0, h4_0, F4_0, A4_1, c4_1, l4_1, h4_1, F4_1, A4_2, c4_2, l4_2, h4_2, F4_2, A4_3, c4_3, l4_3, h4_3, F4_3, S'⟩ := hp
  refine ⟨_, _, rfl, S', ?_⟩
  clear S S'
  refine Sx.G.nil ?_
  refine Sx.E.next ?_
  refine Sx.C.seq ?_
  refine Sx.C.region ?_
  refine Sx.G.pure (.pointer (some ⟨b3, 0, none⟩)) (by kernel_rfl) (fun w => by kernel_rfl) ?_
  refine Sx.G.call 36 #[.pointer (some ⟨b3, 0, none⟩)] (by kernel_rfl) (fun w => by kernel_rfl) (fun w5 S => (impl_guestM (intG g) S).mono fun e w5' hp => ?_)
  obtain ⟨rfl, S'⟩ := hp
  refine ⟨_, _, rfl, S', ?_⟩
  clear S S'
  refine Sx.G.sto 33 (.tmp 2) (.tmp 9) b2 0 5 [.slice none 0 0, .int .i64 0, .int .i64 0, .slice none 0 0, .slice none 0 0, .int .i64 0, .int .i64 0, .bool false, .int .i64 0, .int .i64 0, .int .i64 0, .bool false, .int .i64 0, .bool false, .slice none 0 0] [.slice A4_0 (intG g).prog.length c4_0, .int .i64 (intG g).a, .int .i64 (intG g).pc, .slice A4_1 (intG g).wr.length c4_1, .slice A4_2 (intG g).lv.length c4_2, .int .i64 (intG g).t.1, .int .i64 (intG g).t.2.1, .bool (intG g).t.2.2, .int .i64 (intG g).pd, .int .i64 (intG g).x.1, .int .i64 (intG g).x.2.1, .bool (intG g).x.2.2.1, .int .i64 (intG g).x.2.2.2, .bool (intG g).hl, .slice A4_3 (intG g).seen.length c4_3] [.slice A4_0 (intG g).prog.length c4_0, .int .i64 (intG g).a, .int .i64 (intG g).pc, .slice A4_1 (intG g).wr.length c4_1, .slice A4_2 (intG g).lv.length c4_2, .int .i64 (intG g).t.1, .int .i64 (intG g).t.2.1, .bool (intG g).t.2.2, .int .i64 (intG g).pd, .int .i64 (intG g).x.1, .int .i64 (intG g).x.2.1, .bool (intG g).x.2.2.1, .int .i64 (intG g).x.2.2.2, .bool (intG g).hl, .slice A4_3 (intG g).seen.length c4_3] [vr b3 [.int .i64 (intG g).a, .int .i64 (intG g).pc, .int .i64 (intG g).t.1, .int .i64 (intG g).t.2.1, .bool (intG g).t.2.2, .int .i64 (intG g).pd, .int .i64 (intG g).x.1, .int .i64 (intG g).x.2.1, .bool (intG g).x.2.2.1, .int .i64 (intG g).x.2.2.2, .bool (intG g).hl, .slice A4_0 (intG g).prog.length c4_0, .slice A4_1 (intG g).wr.length c4_1, .slice A4_2 (intG g).lv.length c4_2, .slice A4_3 (intG g).seen.length c4_3], ow (rLst 54 (rPair rInt rInt)) l4_0 h4_0 ((intG g).prog) [.slice A4_0 (intG g).prog.length c4_0] F4_0, ow (rLst 86 (rPair rInt rInt)) l4_1 h4_1 ((intG g).wr) [.slice A4_1 (intG g).wr.length c4_1] F4_1, ow (rLst 86 (rPair rInt rInt)) l4_2 h4_2 ((intG g).lv) [.slice A4_2 (intG g).lv.length c4_2] F4_2, ow (rLst 3 rInt) l4_3 h4_3 ((intG g).seen) [.slice A4_3 (intG g).seen.length c4_3] F4_3, vr b2 [.slice A4_0 (intG g).prog.length c4_0, .int .i64 (intG g).a, .int .i64 (intG g).pc, .slice A4_1 (intG g).wr.length c4_1, .slice A4_2 (intG g).lv.length c4_2, .int .i64 (intG g).t.1, .int .i64 (intG g).t.2.1, .bool (intG g).t.2.2, .int .i64 (intG g).pd, .int .i64 (intG g).x.1, .int .i64 (intG g).x.2.1, .bool (intG g).x.2.2.1, .int .i64 (intG g).x.2.2.2, .bool (intG g).hl, .slice A4_3 (intG g).seen.length c4_3], vr b1 [.slice PA0 g.prog.length Pc0, .int .i64 g.a, .int .i64 g.pc, .slice PA1 g.wr.length Pc1, .slice PA2 g.lv.length Pc2, .int .i64 g.t.1, .int .i64 g.t.2.1, .bool g.t.2.2, .int .i64 g.pd, .int .i64 g.x.1, .int .i64 g.x.2.1, .bool g.x.2.2.1, .int .i64 g.x.2.2.2, .bool g.hl, .slice PA3 g.seen.length Pc3]] rfl (by kernel_rfl) (by kernel_rfl) (by kernel_rfl) rfl (by kernel_rfl) rfl (by kernel_rfl) (by kernel_rfl) (by kernel_rfl) ?_
  refine Sx.G.nil ?_
  refine Sx.E.next ?_
  refine Sx.C.ret ?_
  refine Sx.E.retc b2 5 [.slice A4_0 (intG g).prog.length c4_0, .int .i64 (intG g).a, .int .i64 (intG g).pc, .slice A4_1 (intG g).wr.length c4_1, .slice A4_2 (intG g).lv.length c4_2, .int .i64 (intG g).t.1, .int .i64 (intG g).t.2.1, .bool (intG g).t.2.2, .int .i64 (intG g).pd, .int .i64 (intG g).x.1, .int .i64 (intG g).x.2.1, .bool (intG g).x.2.2.1, .int .i64 (intG g).x.2.2.2, .bool (intG g).hl, .slice A4_3 (intG g).seen.length c4_3] rfl (by kernel_rfl) rfl (by kernel_rfl) (by kernel_rfl) (fun w S => ?_)
  obtain ⟨GW2, S⟩ := S.weak 2 rfl
  obtain ⟨GW3, S⟩ := S.weak 3 rfl
  obtain ⟨ho, hF⟩ := rG_shut (g := intG g) S 1 rfl 2 rfl 3 rfl 4 rfl (by decide) (by decide) (by decide) (by decide) (by decide) (by decide)
  exact ⟨_, _, rfl, ho, hF, S.below⟩
set_option maxRecDepth 100000 in
set_option maxHeartbeats 4000000 in
theorem impl_stop_g (g : gT) (cs : List Value) (e : QT) (w : World) (hc : rG.cap g) (h : rG.rd w 0 w.heap.size g cs) : Calls Tryz.prog 18 #[.agg cs.toArray, .agg #[.int .i64 e.1, .int .i64 e.2.1, .bool e.2.2.1, .int .i64 e.2.2.2]] w (Gives rG w (stopG g e)) := by
  obtain ⟨q0, q1, q2, q3⟩ := rG_len hc
  have hr := h
  obtain ⟨P0, P1, P2, P3, rfl, h0, h1, h2, h3⟩ := rG_rd h
  obtain ⟨PA0, Pc0, e0, hP0⟩ := lst_val h0
  subst e0
  obtain ⟨PA1, Pc1, e1, hP1⟩ := lst_val h1
  subst e1
  obtain ⟨PA2, Pc2, e2, hP2⟩ := lst_val h2
  subst e2
  obtain ⟨PA3, Pc3, e3, hP3⟩ := lst_val h3
  subst e3
  refine Sx.enter (args := [.agg #[.slice PA0 g.prog.length Pc0, .int .i64 g.a, .int .i64 g.pc, .slice PA1 g.wr.length Pc1, .slice PA2 g.lv.length Pc2, .int .i64 g.t.1, .int .i64 g.t.2.1, .bool g.t.2.2, .int .i64 g.pd, .int .i64 g.x.1, .int .i64 g.x.2.1, .bool g.x.2.2.1, .int .i64 g.x.2.2.2, .bool g.hl, .slice PA3 g.seen.length Pc3], .agg #[.int .i64 e.1, .int .i64 e.2.1, .bool e.2.2.1, .int .i64 e.2.2.2]]) Tryz.func18 rfl Tryz.ntmps18 rfl ?_
  refine Sx.C.seq ?_
  refine Sx.C.region ?_
  refine Sx.G.box 33 (.tmp 0) [.slice PA0 g.prog.length Pc0, .int .i64 g.a, .int .i64 g.pc, .slice PA1 g.wr.length Pc1, .slice PA2 g.lv.length Pc2, .int .i64 g.t.1, .int .i64 g.t.2.1, .bool g.t.2.2, .int .i64 g.pd, .int .i64 g.x.1, .int .i64 g.x.2.1, .bool g.x.2.2.1, .int .i64 g.x.2.2.2, .bool g.hl, .slice PA3 g.seen.length Pc3] rfl (by kernel_rfl) (by kernel_rfl) (fun b1 => ?_)
  refine Sx.G.box 30 (.tmp 1) [.int .i64 e.1, .int .i64 e.2.1, .bool e.2.2.1, .int .i64 e.2.2.2] rfl (by kernel_rfl) (by kernel_rfl) (fun b2 => ?_)
  refine Sx.G.alloc 33 (.agg #[.slice none 0 0, .int .i64 0, .int .i64 0, .slice none 0 0, .slice none 0 0, .int .i64 0, .int .i64 0, .bool false, .int .i64 0, .int .i64 0, .int .i64 0, .bool false, .int .i64 0, .bool false, .slice none 0 0]) [.slice none 0 0, .int .i64 0, .int .i64 0, .slice none 0 0, .slice none 0 0, .int .i64 0, .int .i64 0, .bool false, .int .i64 0, .int .i64 0, .int .i64 0, .bool false, .int .i64 0, .bool false, .slice none 0 0] rfl (by kernel_rfl) (fun w => by kernel_rfl) (by kernel_rfl) (fun b3 => ?_)
  refine Sx.G.nil ?_
  refine Sx.E.next ?_
  refine Sx.C.seq ?_
  refine Sx.C.region ?_
  refine Sx.G.ld 33 (.tmp 2) b1 0 2 [.slice PA0 g.prog.length Pc0, .int .i64 g.a, .int .i64 g.pc, .slice PA1 g.wr.length Pc1, .slice PA2 g.lv.length Pc2, .int .i64 g.t.1, .int .i64 g.t.2.1, .bool g.t.2.2, .int .i64 g.pd, .int .i64 g.x.1, .int .i64 g.x.2.1, .bool g.x.2.2.1, .int .i64 g.x.2.2.2, .bool g.hl, .slice PA3 g.seen.length Pc3] [.slice PA0 g.prog.length Pc0, .int .i64 g.a, .int .i64 g.pc, .slice PA1 g.wr.length Pc1, .slice PA2 g.lv.length Pc2, .int .i64 g.t.1, .int .i64 g.t.2.1, .bool g.t.2.2, .int .i64 g.pd, .int .i64 g.x.1, .int .i64 g.x.2.1, .bool g.x.2.2.1, .int .i64 g.x.2.2.2, .bool g.hl, .slice PA3 g.seen.length Pc3] rfl (by kernel_rfl) (by kernel_rfl) rfl (by kernel_rfl) (by kernel_rfl) (by kernel_rfl) ?_
  refine Sx.G.call 34 #[.agg #[.slice PA0 g.prog.length Pc0, .int .i64 g.a, .int .i64 g.pc, .slice PA1 g.wr.length Pc1, .slice PA2 g.lv.length Pc2, .int .i64 g.t.1, .int .i64 g.t.2.1, .bool g.t.2.2, .int .i64 g.pd, .int .i64 g.x.1, .int .i64 g.x.2.1, .bool g.x.2.2.1, .int .i64 g.x.2.2.2, .bool g.hl, .slice PA3 g.seen.length Pc3]] (by kernel_rfl) (fun w => by kernel_rfl) (fun w4 S => (impl_copyM g _ _ hc (St.old S hr)).mono fun e w4' hp => ?_)
  obtain ⟨b4, A4_0, c4_0, l4_0, h4_0, F4_0, A4_1, c4_1, l4_1, h4_1, F4_1, A4_2, c4_2, l4_2, h4_2, F4_2, A4_3, c4_3, l4_3, h4_3, F4_3, rfl, U⟩ := hp
  refine ⟨_, _, rfl, (Sx.St.join S U), ?_⟩
  clear S U
  refine Sx.G.pure (.pointer (some ⟨b4, 0, none⟩)) (by kernel_rfl) (fun w => by kernel_rfl) ?_
  refine Sx.G.nil ?_
  refine Sx.E.next ?_
  refine Sx.C.seq ?_
  refine Sx.C.region ?_
  refine Sx.G.pure (.pointer (some ⟨b4, 0, none⟩)) (by kernel_rfl) (fun w => by kernel_rfl) ?_
  refine Sx.G.ld 30 (.tmp 3) b2 0 6 [.int .i64 e.1, .int .i64 e.2.1, .bool e.2.2.1, .int .i64 e.2.2.2] [.int .i64 e.1, .int .i64 e.2.1, .bool e.2.2.1, .int .i64 e.2.2.2] rfl (by kernel_rfl) (by kernel_rfl) rfl (by kernel_rfl) (by kernel_rfl) (by kernel_rfl) ?_
  refine Sx.G.pure (.pointer (some ⟨b4, 0, none⟩)) (by kernel_rfl) (fun w => by kernel_rfl) ?_
  refine Sx.G.pure (.pointer (some ⟨b4, 0, none⟩)) (by kernel_rfl) (fun w => by kernel_rfl) ?_
  refine Sx.G.pure (.pointer (some ⟨b4, 6, none⟩)) (by kernel_rfl) (fun w => by kernel_rfl) ?_
  refine Sx.G.sto 30 (.tmp 12) (.tmp 9) b4 6 0 [.int .i64 g.a, .int .i64 g.pc, .int .i64 g.t.1, .int .i64 g.t.2.1, .bool g.t.2.2, .int .i64 g.pd, .int .i64 g.x.1, .int .i64 g.x.2.1, .bool g.x.2.2.1, .int .i64 g.x.2.2.2, .bool g.hl, .slice A4_0 g.prog.length c4_0, .slice A4_1 g.wr.length c4_1, .slice A4_2 g.lv.length c4_2, .slice A4_3 g.seen.length c4_3] [.int .i64 e.1, .int .i64 e.2.1, .bool e.2.2.1, .int .i64 e.2.2.2] [.int .i64 g.a, .int .i64 g.pc, .int .i64 g.t.1, .int .i64 g.t.2.1, .bool g.t.2.2, .int .i64 g.pd, .int .i64 e.1, .int .i64 e.2.1, .bool e.2.2.1, .int .i64 e.2.2.2, .bool g.hl, .slice A4_0 g.prog.length c4_0, .slice A4_1 g.wr.length c4_1, .slice A4_2 g.lv.length c4_2, .slice A4_3 g.seen.length c4_3] [vr b4 [.int .i64 g.a, .int .i64 g.pc, .int .i64 g.t.1, .int .i64 g.t.2.1, .bool g.t.2.2, .int .i64 g.pd, .int .i64 e.1, .int .i64 e.2.1, .bool e.2.2.1, .int .i64 e.2.2.2, .bool g.hl, .slice A4_0 g.prog.length c4_0, .slice A4_1 g.wr.length c4_1, .slice A4_2 g.lv.length c4_2, .slice A4_3 g.seen.length c4_3], ow (rLst 54 (rPair rInt rInt)) l4_0 h4_0 g.prog [.slice A4_0 g.prog.length c4_0] F4_0, ow (rLst 86 (rPair rInt rInt)) l4_1 h4_1 g.wr [.slice A4_1 g.wr.length c4_1] F4_1, ow (rLst 86 (rPair rInt rInt)) l4_2 h4_2 g.lv [.slice A4_2 g.lv.length c4_2] F4_2, ow (rLst 3 rInt) l4_3 h4_3 g.seen [.slice A4_3 g.seen.length c4_3] F4_3, vr b3 [.slice none 0 0, .int .i64 0, .int .i64 0, .slice none 0 0, .slice none 0 0, .int .i64 0, .int .i64 0, .bool false, .int .i64 0, .int .i64 0, .int .i64 0, .bool false, .int .i64 0, .bool false, .slice none 0 0], vr b2 [.int .i64 e.1, .int .i64 e.2.1, .bool e.2.2.1, .int .i64 e.2.2.2], vr b1 [.slice PA0 g.prog.length Pc0, .int .i64 g.a, .int .i64 g.pc, .slice PA1 g.wr.length Pc1, .slice PA2 g.lv.length Pc2, .int .i64 g.t.1, .int .i64 g.t.2.1, .bool g.t.2.2, .int .i64 g.pd, .int .i64 g.x.1, .int .i64 g.x.2.1, .bool g.x.2.2.1, .int .i64 g.x.2.2.2, .bool g.hl, .slice PA3 g.seen.length Pc3]] rfl (by kernel_rfl) (by kernel_rfl) (by kernel_rfl) rfl (by kernel_rfl) rfl (by kernel_rfl) (by kernel_rfl) (by kernel_rfl) ?_
  refine Sx.G.nil ?_
  refine Sx.E.next ?_
  refine Sx.C.seq ?_
  refine Sx.C.region ?_
  refine Sx.G.pure (.pointer (some ⟨b4, 0, none⟩)) (by kernel_rfl) (fun w => by kernel_rfl) ?_
  refine Sx.G.call 36 #[.pointer (some ⟨b4, 0, none⟩)] (by kernel_rfl) (fun w => by kernel_rfl) (fun w5 S => (impl_guestM ({ g with x := (e.1, e.2.1, e.2.2.1, e.2.2.2) }) S).mono fun e w5' hp => ?_)
  obtain ⟨rfl, S'⟩ := hp
  refine ⟨_, _, rfl, S', ?_⟩
  clear S S'
  refine Sx.G.sto 33 (.tmp 4) (.tmp 14) b3 0 5 [.slice none 0 0, .int .i64 0, .int .i64 0, .slice none 0 0, .slice none 0 0, .int .i64 0, .int .i64 0, .bool false, .int .i64 0, .int .i64 0, .int .i64 0, .bool false, .int .i64 0, .bool false, .slice none 0 0] [.slice A4_0 g.prog.length c4_0, .int .i64 g.a, .int .i64 g.pc, .slice A4_1 g.wr.length c4_1, .slice A4_2 g.lv.length c4_2, .int .i64 g.t.1, .int .i64 g.t.2.1, .bool g.t.2.2, .int .i64 g.pd, .int .i64 e.1, .int .i64 e.2.1, .bool e.2.2.1, .int .i64 e.2.2.2, .bool g.hl, .slice A4_3 g.seen.length c4_3] [.slice A4_0 g.prog.length c4_0, .int .i64 g.a, .int .i64 g.pc, .slice A4_1 g.wr.length c4_1, .slice A4_2 g.lv.length c4_2, .int .i64 g.t.1, .int .i64 g.t.2.1, .bool g.t.2.2, .int .i64 g.pd, .int .i64 e.1, .int .i64 e.2.1, .bool e.2.2.1, .int .i64 e.2.2.2, .bool g.hl, .slice A4_3 g.seen.length c4_3] [vr b4 [.int .i64 g.a, .int .i64 g.pc, .int .i64 g.t.1, .int .i64 g.t.2.1, .bool g.t.2.2, .int .i64 g.pd, .int .i64 e.1, .int .i64 e.2.1, .bool e.2.2.1, .int .i64 e.2.2.2, .bool g.hl, .slice A4_0 g.prog.length c4_0, .slice A4_1 g.wr.length c4_1, .slice A4_2 g.lv.length c4_2, .slice A4_3 g.seen.length c4_3], ow (rLst 54 (rPair rInt rInt)) l4_0 h4_0 g.prog [.slice A4_0 g.prog.length c4_0] F4_0, ow (rLst 86 (rPair rInt rInt)) l4_1 h4_1 g.wr [.slice A4_1 g.wr.length c4_1] F4_1, ow (rLst 86 (rPair rInt rInt)) l4_2 h4_2 g.lv [.slice A4_2 g.lv.length c4_2] F4_2, ow (rLst 3 rInt) l4_3 h4_3 g.seen [.slice A4_3 g.seen.length c4_3] F4_3, vr b3 [.slice A4_0 g.prog.length c4_0, .int .i64 g.a, .int .i64 g.pc, .slice A4_1 g.wr.length c4_1, .slice A4_2 g.lv.length c4_2, .int .i64 g.t.1, .int .i64 g.t.2.1, .bool g.t.2.2, .int .i64 g.pd, .int .i64 e.1, .int .i64 e.2.1, .bool e.2.2.1, .int .i64 e.2.2.2, .bool g.hl, .slice A4_3 g.seen.length c4_3], vr b2 [.int .i64 e.1, .int .i64 e.2.1, .bool e.2.2.1, .int .i64 e.2.2.2], vr b1 [.slice PA0 g.prog.length Pc0, .int .i64 g.a, .int .i64 g.pc, .slice PA1 g.wr.length Pc1, .slice PA2 g.lv.length Pc2, .int .i64 g.t.1, .int .i64 g.t.2.1, .bool g.t.2.2, .int .i64 g.pd, .int .i64 g.x.1, .int .i64 g.x.2.1, .bool g.x.2.2.1, .int .i64 g.x.2.2.2, .bool g.hl, .slice PA3 g.seen.length Pc3]] rfl (by kernel_rfl) (by kernel_rfl) (by kernel_rfl) rfl (by kernel_rfl) rfl (by kernel_rfl) (by kernel_rfl) (by kernel_rfl) ?_
  refine Sx.G.nil ?_
  refine Sx.E.next ?_
  refine Sx.C.ret ?_
  refine Sx.E.retc b3 5 [.slice A4_0 g.prog.length c4_0, .int .i64 g.a, .int .i64 g.pc, .slice A4_1 g.wr.length c4_1, .slice A4_2 g.lv.length c4_2, .int .i64 g.t.1, .int .i64 g.t.2.1, .bool g.t.2.2, .int .i64 g.pd, .int .i64 e.1, .int .i64 e.2.1, .bool e.2.2.1, .int .i64 e.2.2.2, .bool g.hl, .slice A4_3 g.seen.length c4_3] rfl (by kernel_rfl) rfl (by kernel_rfl) (by kernel_rfl) (fun w S => ?_)
  obtain ⟨GW2, S⟩ := S.weak 2 rfl
  obtain ⟨GW3, S⟩ := S.weak 3 rfl
  obtain ⟨ho, hF⟩ := rG_shut (g := stopG g e) S 1 rfl 2 rfl 3 rfl 4 rfl (by decide) (by decide) (by decide) (by decide) (by decide) (by decide)
  exact ⟨_, _, rfl, ho, hF, S.below⟩
set_option maxRecDepth 100000 in
set_option maxHeartbeats 4000000 in
theorem impl_gnew_g (p : List (Int × Int)) (A : Option Addr) (c : Nat) (w : World) (hp : p.length ≤ 1048576) (h : rdLst (rPair rInt rInt) w 0 w.heap.size p [.slice A p.length c]) : Calls Tryz.prog 6 #[.slice A p.length c] w (Gives rG w (newG p)) := by
  refine Sx.enter (args := [.slice A p.length c]) Tryz.func6 rfl Tryz.ntmps6 rfl ?_
  refine Sx.C.seq ?_
  refine Sx.C.region ?_
  refine Sx.G.alloc 33 (.agg #[.slice none 0 0, .int .i64 0, .int .i64 0, .slice none 0 0, .slice none 0 0, .int .i64 0, .int .i64 0, .bool false, .int .i64 0, .int .i64 0, .int .i64 0, .bool false, .int .i64 0, .bool false, .slice none 0 0]) [.slice none 0 0, .int .i64 0, .int .i64 0, .slice none 0 0, .slice none 0 0, .int .i64 0, .int .i64 0, .bool false, .int .i64 0, .int .i64 0, .int .i64 0, .bool false, .int .i64 0, .bool false, .slice none 0 0] rfl (by kernel_rfl) (fun w => by kernel_rfl) (by kernel_rfl) (fun b1 => ?_)
  refine Sx.G.nil ?_
  refine Sx.E.next ?_
  refine Sx.C.seq ?_
  refine Sx.C.region ?_
  refine Sx.G.pure (.slice A p.length c) (by kernel_rfl) (fun w => by kernel_rfl) ?_
  refine Sx.G.call 31 #[.slice A p.length c] (by kernel_rfl) (fun w => by kernel_rfl) (fun w2 S => (lib_cloneIns p A c _ hp (St.old (r := rLsw (rPair rInt rInt)) S h)).mono fun e w2' hp => ?_)
  obtain ⟨cs, F, rfl, ho, hF, hb⟩ := hp
  obtain ⟨u2, rfl⟩ := lst_own ho
  obtain ⟨A2, c2, e2, -⟩ := lst_val ((St.got S hb ho hF).reads 0 rfl)
  subst e2
  generalize F = F2 at ho hF
  refine ⟨_, _, rfl, (St.got S hb ho hF), ?_⟩
  clear S hb ho hF
  refine Sx.G.call 32 #[.int .i64 4] (by kernel_rfl) (fun w => by kernel_rfl) (fun w3 S => (impl_new4 _).mono fun e w3' hp => ?_)
  obtain ⟨ad3, tc3, rfl, hc3, ho, hb⟩ := hp
  rw [← pcells_s] at ho
  refine ⟨_, _, rfl, (S.gotp (l := (Slots.nosL 4)) hb hc3 ho), ?_⟩
  clear S ho hb
  refine Sx.G.call 32 #[.int .i64 4] (by kernel_rfl) (fun w => by kernel_rfl) (fun w4 S => (impl_new4 _).mono fun e w4' hp => ?_)
  obtain ⟨ad4, tc4, rfl, hc4, ho, hb⟩ := hp
  rw [← pcells_s] at ho
  refine ⟨_, _, rfl, (S.gotp (l := (Slots.nosL 4)) hb hc4 ho), ?_⟩
  clear S ho hb
  refine Sx.G.pure (.agg #[.slice A2 p.length c2, .int .i64 0, .int .i64 0, .slice (some ad3) 4 tc3, .slice (some ad4) 4 tc4, .int .i64 0, .int .i64 0, .bool false, .int .i64 0, .int .i64 0, .int .i64 0, .bool false, .int .i64 0, .bool false, .slice none 0 0]) (by kernel_rfl) (fun w => by kernel_rfl) ?_
  refine Sx.G.sto 33 (.tmp 2) (.tmp 7) b1 0 3 [.slice none 0 0, .int .i64 0, .int .i64 0, .slice none 0 0, .slice none 0 0, .int .i64 0, .int .i64 0, .bool false, .int .i64 0, .int .i64 0, .int .i64 0, .bool false, .int .i64 0, .bool false, .slice none 0 0] [.slice A2 p.length c2, .int .i64 0, .int .i64 0, .slice (some ad3) 4 tc3, .slice (some ad4) 4 tc4, .int .i64 0, .int .i64 0, .bool false, .int .i64 0, .int .i64 0, .int .i64 0, .bool false, .int .i64 0, .bool false, .slice none 0 0] [.slice A2 p.length c2, .int .i64 0, .int .i64 0, .slice (some ad3) 4 tc3, .slice (some ad4) 4 tc4, .int .i64 0, .int .i64 0, .bool false, .int .i64 0, .int .i64 0, .int .i64 0, .bool false, .int .i64 0, .bool false, .slice none 0 0] [ow (rLsw (rPair rInt rInt)) w4.heap.size w4'.heap.size (Slots.nosL 4) [.slice (some ad4) 4 tc4] (blks (some ad4) (pcells (Slots.nosL 4))), ow (rLsw (rPair rInt rInt)) w3.heap.size w3'.heap.size (Slots.nosL 4) [.slice (some ad3) 4 tc3] (blks (some ad3) (pcells (Slots.nosL 4))), ow (rLst 54 (rPair rInt rInt)) w2.heap.size (w2'.heap.size) p [.slice A2 p.length c2] F2, vr b1 [.slice A2 p.length c2, .int .i64 0, .int .i64 0, .slice (some ad3) 4 tc3, .slice (some ad4) 4 tc4, .int .i64 0, .int .i64 0, .bool false, .int .i64 0, .int .i64 0, .int .i64 0, .bool false, .int .i64 0, .bool false, .slice none 0 0]] rfl (by kernel_rfl) (by kernel_rfl) (by kernel_rfl) rfl (by kernel_rfl) rfl (by kernel_rfl) (by kernel_rfl) (by kernel_rfl) ?_
  refine Sx.G.nil ?_
  refine Sx.E.next ?_
  refine Sx.C.ret ?_
  refine Sx.E.retc b1 3 [.slice A2 p.length c2, .int .i64 0, .int .i64 0, .slice (some ad3) 4 tc3, .slice (some ad4) 4 tc4, .int .i64 0, .int .i64 0, .bool false, .int .i64 0, .int .i64 0, .int .i64 0, .bool false, .int .i64 0, .bool false, .slice none 0 0] rfl (by kernel_rfl) rfl (by kernel_rfl) (by kernel_rfl) (fun w S => ?_)
  replace S := St.nil S 3 rInt
  obtain ⟨ho, hF⟩ := rG_shut (g := newG p) S 3 rfl 2 rfl 1 rfl 0 rfl (by decide) (by decide) (by decide) (by decide) (by decide) (by decide)
  exact ⟨_, _, rfl, ho, hF, S.below⟩
theorem impl_saw (g : gT) (cs : List Value) (n : Int) (w : World) (hn : gnum g) (wn : (Lit.int .i64 n).wf = true) (hc : rG.cap g) (h : rG.rd w 0 w.heap.size g cs) : Calls Tryz.prog 16 #[.agg cs.toArray, .int .i64 n] w (gP w (sawG g n)) := (impl_saw_g g cs n w hc h).mono gives_gP
theorem impl_stop (g : gT) (cs : List Value) (e : QT) (w : World) (hn : gnum g) (we : wfQ e) (hc : rG.cap g) (h : rG.rd w 0 w.heap.size g cs) : Calls Tryz.prog 18 #[.agg cs.toArray, .agg #[.int .i64 e.1, .int .i64 e.2.1, .bool e.2.2.1, .int .i64 e.2.2.2]] w (gP w (stopG g e)) := (impl_stop_g g cs e w hc h).mono gives_gP
theorem impl_int (g : gT) (cs : List Value) (w : World) (hn : gnum g) (hc : rG.cap g) (h : rG.rd w 0 w.heap.size g cs) : Calls Tryz.prog 8 #[.agg cs.toArray] w (gP w (intG g)) := (impl_int_g g cs w hn hc h).mono gives_gP
theorem impl_gnew (p : List (Int × Int)) (A : Option Addr) (c : Nat) (w : World) (hp : p.length ≤ 1048576) (h : rdLst (rPair rInt rInt) w 0 w.heap.size p [.slice A p.length c]) : Calls Tryz.prog 6 #[.slice A p.length c] w (gP w (newG p)) := (impl_gnew_g p A c w hp h).mono gives_gP
end Go.Proofs.YteopkcndkcciaaaGreat.Guests
namespace Go.Proofs.YteopkcndkcciaaaGreat.Draw
set_option maxRecDepth 100000
open Go.ChangeShapes Go.WideShapes Go.ChangeAt Go.RowKit
open Go.Proofs.YteopkcndkcciaaaGreat.Base
theorem big_yes (A : Option Addr) (n c : Nat) (w : World) (hn : n ≤ 9223372036854775807) (h : 1048576 < n) :
    Calls Tryz.prog 4 #[.slice A n c] w fun e w' => e = .returned (.bool true) ∧ w = w' := by
  go_enter Tryz.func4, Tryz.ntmps4
  go_wp2
  go_ret
  exact ⟨by simp; omega, rfl⟩
theorem big_no (A : Option Addr) (n c : Nat) (w : World) (h : n ≤ 1048576) :
    Calls Tryz.prog 4 #[.slice A n c] w fun e w' => e = .returned (.bool false) ∧ w = w' := by
  go_enter Tryz.func4, Tryz.ntmps4
  go_wp2
  go_ret
  exact ⟨by simp; omega, rfl⟩
end Go.Proofs.YteopkcndkcciaaaGreat.Draw
