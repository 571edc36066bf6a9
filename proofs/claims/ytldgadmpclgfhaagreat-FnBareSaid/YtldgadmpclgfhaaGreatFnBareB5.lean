/-
  The texts that FnBare wants, part 5: CtlImpl InsImpl GuestImpl BareImpl Big. No condition.
-/
import Derived.Test.YtldgadmpclgfhaaGreatFnBareB4
import Derived.Laws.StructEq
import Derived.BigQuiet
namespace Go.Proofs.YtldgadmpclgfhaaGreat.Ctls
set_option maxHeartbeats 8000000
set_option maxRecDepth 100000
set_option maxRecDepth 100000
open Go.ChangeShapes Go.WideShapes Go.ChangeAt Go.RowKit
open Go.Proofs.YtldgadmpclgfhaaGreat.Base Go.Proofs.YtldgadmpclgfhaaGreat.Mem Go.Proofs.YtldgadmpclgfhaaGreat.Data Go.Proofs.YtldgadmpclgfhaaGreat.Ints Go.Proofs.YtldgadmpclgfhaaGreat.Slots
set_option linter.unusedVariables false
set_option linter.unusedSimpArgs false
theorem impl_trapsOk (n : Int) (w : World) :
  Calls Tryz.prog 134 #[.int .i64 n] w fun e w' => e = .returned (.bool (inB n 0 3)) ∧ w = w' := by
 have hv : inB n 0 3 = (decide (n ≥ 0) && decide (n ≤ 3)) := rfl
 cases h1 : decide (n ≥ 0)
 all_goals
  cases h2 : decide (n ≤ 3)
  all_goals
   rw [h1, h2] at hv
   simp only [Bool.and_false, Bool.and_true] at hv
   rw [hv]; clear hv
   go_enter Tryz.func134, Tryz.ntmps134
   go_wp2
   go_ret
   exact ⟨rfl, rfl⟩
theorem impl_postOk (n : Int) (w : World) :
  Calls Tryz.prog 91 #[.int .i64 n] w fun e w' => e = .returned (.bool (inB n 0 255)) ∧ w = w' := by
 have hv : inB n 0 255 = (decide (n ≥ 0) && decide (n ≤ 255)) := rfl
 cases h1 : decide (n ≥ 0)
 all_goals
  cases h2 : decide (n ≤ 255)
  all_goals
   rw [h1, h2] at hv
   simp only [Bool.and_false, Bool.and_true] at hv
   rw [hv]; clear hv
   go_enter Tryz.func91, Tryz.ntmps91
   go_wp2
   go_ret
   exact ⟨rfl, rfl⟩
def faultsL (p q r s : Bool) : List Int :=
 (if p = true then [1] else []) ++ ((if q = true then [2] else []) ++ ((if r = true then [3] else []) ++ (if s = true then [4] else [])))
def nextF (p q r s : Bool) (f : Int) : Int :=
 if f = 1 then (if p = true then 1 else if q = true then 2 else if r = true then 3 else if s = true then 4 else 0)
 else if f = 2 then (if q = true then 2 else if r = true then 3 else if s = true then 4 else 0)
 else if f = 3 then (if r = true then 3 else if s = true then 4 else 0)
 else if f = 4 then (if s = true then 4 else 0) else 0
def p1 (s : CT) : Bool := !inB s.1 0 3
def p2 (s : CT) : Bool := !inB s.2.1 0 255
def p3 (s : CT) : Bool := (s.2.1 != 0) && !s.2.2
def p4 (s : CT) : Bool := (s.2.1 != 0) && (s.1 == 2)
def nx (s : CT) (f : Int) : Int := nextF (p1 s) (p2 s) (p3 s) (p4 s) f
theorem ctlF_is (s : CT) : ctlF s = faultsL (p1 s) (p2 s) (p3 s) (p4 s) := by
 unfold ctlF faultsL p1 p2 p3 p4
 congr 1
 ·
  cases inB s.1 0 3 <;> simp
 ·
  congr 1
  ·
   cases inB s.2.1 0 255 <;> simp
  ·
   congr 1
   ·
    by_cases h : s.2.1 = 0 <;> cases s.2.2 <;> simp [h]
   ·
    by_cases h : s.2.1 = 0 <;> by_cases h2 : s.1 = 2 <;> simp [h, h2]
theorem ok_next : ∀ p q r s : Bool, ((faultsL p q r s).length == 0) = (nextF p q r s 1 == 0) := by decide +kernel
theorem ctlOk_is (s : CT) : ctlOk s = (nx s 1 == 0) := by unfold ctlOk nx; rw [ctlF_is]; exact ok_next _ _ _ _
theorem impl_faultFrom (a b f : Int) (o : Bool) (w : World) (hf : f = 1 ∨ f = 2 ∨ f = 3 ∨ f = 4 ∨ f = 5) :
  Calls Tryz.prog 128 #[.agg #[.int .i64 a, .int .i64 b, .bool o], .int .i64 f] w fun e w' => e = .returned (.int .i64 (nx (a, b, o) f)) ∧ Below w.heap.size w w' := by
 have hb0 : Below w.heap.size w (w.alloc (.cells #[.int .i64 a, .int .i64 b, .bool o] 35)) := (Below.refl _ _).alloc (Nat.le_refl _) _
 have t0 := Var.new w [.int .i64 a, .int .i64 b, .bool o] 35
 change Var (w.alloc (.cells #[.int .i64 a, .int .i64 b, .bool o] 35)) w.heap.size [.int .i64 a, .int .i64 b, .bool o] at t0
 have K1 := fun V : World => impl_trapsOk a V
 have K2 := fun V : World => impl_postOk b V
 have hv : nx (a, b, o) f = nextF (!inB a 0 3) (!inB b 0 255) ((b != 0) && !o) ((b != 0) && (a == 2)) f := rfl
 generalize inB a 0 3 = x at K1 hv
 generalize inB b 0 255 = y at K2 hv
 rcases hf with rfl | rfl | rfl | rfl | rfl
 ·
  skip
  cases x
  ·
   skip
   have HV := Lib.hid (show nx (a, b, o) 1 = 1 from by rw [hv]; simp [nextF])
   clear hv
   go_enter Tryz.func128, Tryz.ntmps128
   go_wp2_with fail
   generalize w.alloc (.cells #[.int .i64 a, .int .i64 b, .bool o] 35) = W0 at t0 hb0 ⊢
   have v0 := t0.cell 0 (v := .int .i64 a) rfl
   have v1 := t0.cell 1 (v := .int .i64 b) rfl
   have v2 := t0.cell 2 (v := .bool o) rfl
   refine (K1 _).mono ?_
   rintro e w' ⟨rfl, rfl⟩
   go_wp2_with fail
   go_ret
   exact ⟨by rw [HV.out]; rfl, hb0⟩
  ·
   skip
   cases y
   ·
    skip
    have HV := Lib.hid (show nx (a, b, o) 1 = 2 from by rw [hv]; simp [nextF])
    clear hv
    go_enter Tryz.func128, Tryz.ntmps128
    go_wp2_with fail
    generalize w.alloc (.cells #[.int .i64 a, .int .i64 b, .bool o] 35) = W0 at t0 hb0 ⊢
    have v0 := t0.cell 0 (v := .int .i64 a) rfl
    have v1 := t0.cell 1 (v := .int .i64 b) rfl
    have v2 := t0.cell 2 (v := .bool o) rfl
    refine (K1 _).mono ?_
    rintro e w' ⟨rfl, rfl⟩
    go_wp2_with fail
    refine (K2 _).mono ?_
    rintro e w' ⟨rfl, rfl⟩
    go_wp2_with fail
    go_ret
    exact ⟨by rw [HV.out]; rfl, hb0⟩
   ·
    skip
    by_cases hb2 : b = 0
    ·
     subst hb2
     have HV := Lib.hid (show nx (a, 0, o) 1 = 0 from by rw [hv]; simp [nextF])
     clear hv
     go_enter Tryz.func128, Tryz.ntmps128
     go_wp2_with fail
     generalize w.alloc (.cells #[.int .i64 a, .int .i64 0, .bool o] 35) = W0 at t0 hb0 ⊢
     have v0 := t0.cell 0 (v := .int .i64 a) rfl
     have v1 := t0.cell 1 (v := .int .i64 0) rfl
     have v2 := t0.cell 2 (v := .bool o) rfl
     refine (K1 _).mono ?_
     rintro e w' ⟨rfl, rfl⟩
     go_wp2_with fail
     refine (K2 _).mono ?_
     rintro e w' ⟨rfl, rfl⟩
     go_wp2_with fail
     go_ret
     exact ⟨by rw [HV.out]; rfl, hb0⟩
    ·
     have hbn : (b != 0) = true := by simpa using hb2
     cases o
     ·
      skip
      have HV := Lib.hid (show nx (a, b, false) 1 = 3 from by rw [hv]; simp [nextF, hbn])
      clear hv
      go_enter Tryz.func128, Tryz.ntmps128
      go_wp2_with fail
      generalize w.alloc (.cells #[.int .i64 a, .int .i64 b, .bool false] 35) = W0 at t0 hb0 ⊢
      have v0 := t0.cell 0 (v := .int .i64 a) rfl
      have v1 := t0.cell 1 (v := .int .i64 b) rfl
      have v2 := t0.cell 2 (v := .bool false) rfl
      refine (K1 _).mono ?_
      rintro e w' ⟨rfl, rfl⟩
      go_wp2_with fail
      refine (K2 _).mono ?_
      rintro e w' ⟨rfl, rfl⟩
      go_wp2_with fail
      go_ret
      exact ⟨by rw [HV.out]; rfl, hb0⟩
     ·
      skip
      by_cases ha2 : a = 2
      ·
       subst ha2
       have HV := Lib.hid (show nx (2, b, true) 1 = 4 from by rw [hv]; simp [nextF, hbn])
       clear hv
       go_enter Tryz.func128, Tryz.ntmps128
       go_wp2_with fail
       generalize w.alloc (.cells #[.int .i64 2, .int .i64 b, .bool true] 35) = W0 at t0 hb0 ⊢
       have v0 := t0.cell 0 (v := .int .i64 2) rfl
       have v1 := t0.cell 1 (v := .int .i64 b) rfl
       have v2 := t0.cell 2 (v := .bool true) rfl
       refine (K1 _).mono ?_
       rintro e w' ⟨rfl, rfl⟩
       go_wp2_with fail
       refine (K2 _).mono ?_
       rintro e w' ⟨rfl, rfl⟩
       go_wp2_with fail
       go_ret
       exact ⟨by rw [HV.out]; rfl, hb0⟩
      ·
       have han : (a == 2) = false := by simpa using ha2
       have HV := Lib.hid (show nx (a, b, true) 1 = 0 from by rw [hv]; simp [nextF, hbn, han])
       clear hv
       go_enter Tryz.func128, Tryz.ntmps128
       go_wp2_with fail
       generalize w.alloc (.cells #[.int .i64 a, .int .i64 b, .bool true] 35) = W0 at t0 hb0 ⊢
       have v0 := t0.cell 0 (v := .int .i64 a) rfl
       have v1 := t0.cell 1 (v := .int .i64 b) rfl
       have v2 := t0.cell 2 (v := .bool true) rfl
       refine (K1 _).mono ?_
       rintro e w' ⟨rfl, rfl⟩
       go_wp2_with fail
       refine (K2 _).mono ?_
       rintro e w' ⟨rfl, rfl⟩
       go_wp2_with fail
       go_ret
       exact ⟨by rw [HV.out]; rfl, hb0⟩
 ·
  skip
  cases y
  ·
   skip
   have HV := Lib.hid (show nx (a, b, o) 2 = 2 from by rw [hv]; simp [nextF])
   clear hv
   go_enter Tryz.func128, Tryz.ntmps128
   go_wp2_with fail
   generalize w.alloc (.cells #[.int .i64 a, .int .i64 b, .bool o] 35) = W0 at t0 hb0 ⊢
   have v0 := t0.cell 0 (v := .int .i64 a) rfl
   have v1 := t0.cell 1 (v := .int .i64 b) rfl
   have v2 := t0.cell 2 (v := .bool o) rfl
   refine (K2 _).mono ?_
   rintro e w' ⟨rfl, rfl⟩
   go_wp2_with fail
   go_ret
   exact ⟨by rw [HV.out]; rfl, hb0⟩
  ·
   skip
   by_cases hb2 : b = 0
   ·
    subst hb2
    have HV := Lib.hid (show nx (a, 0, o) 2 = 0 from by rw [hv]; simp [nextF])
    clear hv
    go_enter Tryz.func128, Tryz.ntmps128
    go_wp2_with fail
    generalize w.alloc (.cells #[.int .i64 a, .int .i64 0, .bool o] 35) = W0 at t0 hb0 ⊢
    have v0 := t0.cell 0 (v := .int .i64 a) rfl
    have v1 := t0.cell 1 (v := .int .i64 0) rfl
    have v2 := t0.cell 2 (v := .bool o) rfl
    refine (K2 _).mono ?_
    rintro e w' ⟨rfl, rfl⟩
    go_wp2_with fail
    go_ret
    exact ⟨by rw [HV.out]; rfl, hb0⟩
   ·
    have hbn : (b != 0) = true := by simpa using hb2
    cases o
    ·
     skip
     have HV := Lib.hid (show nx (a, b, false) 2 = 3 from by rw [hv]; simp [nextF, hbn])
     clear hv
     go_enter Tryz.func128, Tryz.ntmps128
     go_wp2_with fail
     generalize w.alloc (.cells #[.int .i64 a, .int .i64 b, .bool false] 35) = W0 at t0 hb0 ⊢
     have v0 := t0.cell 0 (v := .int .i64 a) rfl
     have v1 := t0.cell 1 (v := .int .i64 b) rfl
     have v2 := t0.cell 2 (v := .bool false) rfl
     refine (K2 _).mono ?_
     rintro e w' ⟨rfl, rfl⟩
     go_wp2_with fail
     go_ret
     exact ⟨by rw [HV.out]; rfl, hb0⟩
    ·
     skip
     by_cases ha2 : a = 2
     ·
      subst ha2
      have HV := Lib.hid (show nx (2, b, true) 2 = 4 from by rw [hv]; simp [nextF, hbn])
      clear hv
      go_enter Tryz.func128, Tryz.ntmps128
      go_wp2_with fail
      generalize w.alloc (.cells #[.int .i64 2, .int .i64 b, .bool true] 35) = W0 at t0 hb0 ⊢
      have v0 := t0.cell 0 (v := .int .i64 2) rfl
      have v1 := t0.cell 1 (v := .int .i64 b) rfl
      have v2 := t0.cell 2 (v := .bool true) rfl
      refine (K2 _).mono ?_
      rintro e w' ⟨rfl, rfl⟩
      go_wp2_with fail
      go_ret
      exact ⟨by rw [HV.out]; rfl, hb0⟩
     ·
      have han : (a == 2) = false := by simpa using ha2
      have HV := Lib.hid (show nx (a, b, true) 2 = 0 from by rw [hv]; simp [nextF, hbn, han])
      clear hv
      go_enter Tryz.func128, Tryz.ntmps128
      go_wp2_with fail
      generalize w.alloc (.cells #[.int .i64 a, .int .i64 b, .bool true] 35) = W0 at t0 hb0 ⊢
      have v0 := t0.cell 0 (v := .int .i64 a) rfl
      have v1 := t0.cell 1 (v := .int .i64 b) rfl
      have v2 := t0.cell 2 (v := .bool true) rfl
      refine (K2 _).mono ?_
      rintro e w' ⟨rfl, rfl⟩
      go_wp2_with fail
      go_ret
      exact ⟨by rw [HV.out]; rfl, hb0⟩
 ·
  skip
  by_cases hb2 : b = 0
  ·
   subst hb2
   have HV := Lib.hid (show nx (a, 0, o) 3 = 0 from by rw [hv]; simp [nextF])
   clear hv
   go_enter Tryz.func128, Tryz.ntmps128
   go_wp2_with fail
   generalize w.alloc (.cells #[.int .i64 a, .int .i64 0, .bool o] 35) = W0 at t0 hb0 ⊢
   have v0 := t0.cell 0 (v := .int .i64 a) rfl
   have v1 := t0.cell 1 (v := .int .i64 0) rfl
   have v2 := t0.cell 2 (v := .bool o) rfl
   go_ret
   exact ⟨by rw [HV.out]; rfl, hb0⟩
  ·
   have hbn : (b != 0) = true := by simpa using hb2
   cases o
   ·
    skip
    have HV := Lib.hid (show nx (a, b, false) 3 = 3 from by rw [hv]; simp [nextF, hbn])
    clear hv
    go_enter Tryz.func128, Tryz.ntmps128
    go_wp2_with fail
    generalize w.alloc (.cells #[.int .i64 a, .int .i64 b, .bool false] 35) = W0 at t0 hb0 ⊢
    have v0 := t0.cell 0 (v := .int .i64 a) rfl
    have v1 := t0.cell 1 (v := .int .i64 b) rfl
    have v2 := t0.cell 2 (v := .bool false) rfl
    go_ret
    exact ⟨by rw [HV.out]; rfl, hb0⟩
   ·
    skip
    by_cases ha2 : a = 2
    ·
     subst ha2
     have HV := Lib.hid (show nx (2, b, true) 3 = 4 from by rw [hv]; simp [nextF, hbn])
     clear hv
     go_enter Tryz.func128, Tryz.ntmps128
     go_wp2_with fail
     generalize w.alloc (.cells #[.int .i64 2, .int .i64 b, .bool true] 35) = W0 at t0 hb0 ⊢
     have v0 := t0.cell 0 (v := .int .i64 2) rfl
     have v1 := t0.cell 1 (v := .int .i64 b) rfl
     have v2 := t0.cell 2 (v := .bool true) rfl
     go_ret
     exact ⟨by rw [HV.out]; rfl, hb0⟩
    ·
     have han : (a == 2) = false := by simpa using ha2
     have HV := Lib.hid (show nx (a, b, true) 3 = 0 from by rw [hv]; simp [nextF, hbn, han])
     clear hv
     go_enter Tryz.func128, Tryz.ntmps128
     go_wp2_with fail
     generalize w.alloc (.cells #[.int .i64 a, .int .i64 b, .bool true] 35) = W0 at t0 hb0 ⊢
     have v0 := t0.cell 0 (v := .int .i64 a) rfl
     have v1 := t0.cell 1 (v := .int .i64 b) rfl
     have v2 := t0.cell 2 (v := .bool true) rfl
     go_ret
     exact ⟨by rw [HV.out]; rfl, hb0⟩
 ·
  skip
  by_cases hb2 : b = 0
  ·
   subst hb2
   have HV := Lib.hid (show nx (a, 0, o) 4 = 0 from by rw [hv]; simp [nextF])
   clear hv
   go_enter Tryz.func128, Tryz.ntmps128
   go_wp2_with fail
   generalize w.alloc (.cells #[.int .i64 a, .int .i64 0, .bool o] 35) = W0 at t0 hb0 ⊢
   have v0 := t0.cell 0 (v := .int .i64 a) rfl
   have v1 := t0.cell 1 (v := .int .i64 0) rfl
   have v2 := t0.cell 2 (v := .bool o) rfl
   go_ret
   exact ⟨by rw [HV.out]; rfl, hb0⟩
  ·
   have hbn : (b != 0) = true := by simpa using hb2
   by_cases ha2 : a = 2
   ·
    subst ha2
    have HV := Lib.hid (show nx (2, b, o) 4 = 4 from by rw [hv]; simp [nextF, hbn])
    clear hv
    go_enter Tryz.func128, Tryz.ntmps128
    go_wp2_with fail
    generalize w.alloc (.cells #[.int .i64 2, .int .i64 b, .bool o] 35) = W0 at t0 hb0 ⊢
    have v0 := t0.cell 0 (v := .int .i64 2) rfl
    have v1 := t0.cell 1 (v := .int .i64 b) rfl
    have v2 := t0.cell 2 (v := .bool o) rfl
    go_ret
    exact ⟨by rw [HV.out]; rfl, hb0⟩
   ·
    have han : (a == 2) = false := by simpa using ha2
    have HV := Lib.hid (show nx (a, b, o) 4 = 0 from by rw [hv]; simp [nextF, hbn, han])
    clear hv
    go_enter Tryz.func128, Tryz.ntmps128
    go_wp2_with fail
    generalize w.alloc (.cells #[.int .i64 a, .int .i64 b, .bool o] 35) = W0 at t0 hb0 ⊢
    have v0 := t0.cell 0 (v := .int .i64 a) rfl
    have v1 := t0.cell 1 (v := .int .i64 b) rfl
    have v2 := t0.cell 2 (v := .bool o) rfl
    go_ret
    exact ⟨by rw [HV.out]; rfl, hb0⟩
 ·
  skip
  have HV := Lib.hid (show nx (a, b, o) 5 = 0 from by rw [hv]; simp [nextF])
  clear hv
  go_enter Tryz.func128, Tryz.ntmps128
  go_wp2_with fail
  generalize w.alloc (.cells #[.int .i64 a, .int .i64 b, .bool o] 35) = W0 at t0 hb0 ⊢
  have v0 := t0.cell 0 (v := .int .i64 a) rfl
  have v1 := t0.cell 1 (v := .int .i64 b) rfl
  have v2 := t0.cell 2 (v := .bool o) rfl
  go_ret
  exact ⟨by rw [HV.out]; rfl, hb0⟩
theorem impl_ctlOk (a b : Int) (o : Bool) (w : World) (ws : wfC (a, b, o)) :
  Calls Tryz.prog 123 #[.agg #[.int .i64 a, .int .i64 b, .bool o]] w fun e w' => e = .returned (.bool (ctlOk (a, b, o))) ∧ Below w.heap.size w w' := by
 have H1 := Lib.hid (fun V : World => impl_faultFrom a b 1 o V (.inl rfl))
 have HV := Lib.hid (ctlOk_is (a, b, o))
 generalize nx (a, b, o) 1 = z at H1 HV
 go_enter Tryz.func123, Tryz.ntmps123
 go_wp2_with fail
 refine (H1.out _).mono ?_
 rintro e w1 ⟨rfl, hb1⟩
 have HB1 := Lib.hid (btr ((Below.refl w.heap.size w).alloc (Nat.le_refl _) (.cells #[.int .i64 a, .int .i64 b, .bool o] 35)) hb1)
 clear hb1
 go_wp2_with fail
 go_ret
 exact ⟨by rw [HV.out]; rfl, HB1.out⟩
end Go.Proofs.YtldgadmpclgfhaaGreat.Ctls
namespace Go.Proofs.YtldgadmpclgfhaaGreat.Inss
set_option maxHeartbeats 8000000
set_option maxRecDepth 100000
set_option maxRecDepth 100000
open Go.ChangeShapes Go.WideShapes Go.ChangeAt Go.RowKit
open Go.Proofs.YtldgadmpclgfhaaGreat.Base Go.Proofs.YtldgadmpclgfhaaGreat.Mem Go.Proofs.YtldgadmpclgfhaaGreat.Data Go.Proofs.YtldgadmpclgfhaaGreat.Addrs Go.Proofs.YtldgadmpclgfhaaGreat.Rights
set_option linter.unusedVariables false
set_option linter.unusedSimpArgs false
def topX (o : Int) : Int := if o = 1 ∨ o = 2 ∨ o = 5 ∨ o = 6 then 99 else if o = 3 ∨ o = 4 then 15 else if o = 7 then 0 else if o = 8 then 11 else -1
theorem insOk_top (o x : Int) : insOk (o, x) = (decide (0 ≤ x) && decide (x ≤ topX o)) := by
 unfold insOk topX
 dsimp only
 have hz : (x == 0) = (decide (0 ≤ x) && decide (x ≤ 0)) := by
  rw [Bool.eq_iff_iff, beq_iff_eq, Bool.and_eq_true, decide_eq_true_iff, decide_eq_true_iff]; omega
 have hb : ∀ k : Int, inB x 0 k = (decide (0 ≤ x) && decide (x ≤ k)) := fun k => by
  rw [Bool.eq_iff_iff, inB_iff, Bool.and_eq_true, decide_eq_true_iff, decide_eq_true_iff]
 have hn : false = (decide (0 ≤ x) && decide (x ≤ -1)) := by
  rw [eq_comm, Bool.and_eq_false_iff, decide_eq_false_iff_not, decide_eq_false_iff_not]; omega
 split
 ·
  exact hb 99
 ·
  split
  ·
   exact hb 15
  ·
   split
   ·
    exact hz
   ·
    split
    ·
     exact hb 11
    ·
     exact hn
theorem impl_topX (o : Int) (w : World) :
  Calls Tryz.prog 127 #[.int .i64 o] w fun e w' => e = .returned (.int .i64 (topX o)) ∧ w' = w := by
 rcases op_cases o with rfl | rfl | rfl | rfl | rfl | rfl | rfl | rfl | h
 iterate 8
  ·
   go_enter Tryz.func127, Tryz.ntmps127
   go_wp2_with fail
   go_ret
   exact ⟨rfl, rfl⟩
 ·
  have HV := Lib.hid (show topX o = -1 by
   simp only [beq_eq_false_iff_ne, ne_eq] at h
   simp [topX, h])
  obtain ⟨h1, h2, h3, h4, h5, h6, h7, h8⟩ := h
  go_enter Tryz.func127, Tryz.ntmps127
  go_wp2_with fail
  go_ret
  exact ⟨by rw [HV.out]; rfl, rfl⟩
theorem impl_insOk (o x : Int) (w : World) (ws : wfJ (o, x)) :
  Calls Tryz.prog 122 #[.agg #[.int .i64 o, .int .i64 x]] w fun e w' => e = .returned (.bool (insOk (o, x))) ∧ Below w.heap.size w w' := by
 have hb0 : Below w.heap.size w (w.alloc (.cells #[.int .i64 o, .int .i64 x] 55)) := (Below.refl _ _).alloc (Nat.le_refl _) _
 have k0 : (w.alloc (.cells #[.int .i64 o, .int .i64 x] 55)).cell? ⟨w.heap.size, 0, none⟩ = some (.int .i64 o) := cell_of_row _ _ 0 _ _ _ (heap_alloc_new w _)
 have k1 : (w.alloc (.cells #[.int .i64 o, .int .i64 x] 55)).cell? ⟨w.heap.size, 1, none⟩ = some (.int .i64 x) := cell_of_row _ _ 1 _ _ _ (heap_alloc_new w _)
 have HB := Lib.hid hb0
 have HC := Lib.hid (show ∀ V : World, Calls Tryz.prog 127 #[.int .i64 o] V fun e w' => e = .returned (.int .i64 (topX o)) ∧ w' = V from impl_topX o)
 have hv := insOk_top o x
 generalize topX o = t at hv HC
 clear hb0 ws
 by_cases h0 : 0 ≤ x
 ·
  have hd : decide (x ≥ 0) = true := decide_eq_true h0
  rw [decide_eq_true h0, Bool.true_and] at hv
  have HV := Lib.hid hv
  clear hv h0
  go_enter Tryz.func122, Tryz.ntmps122
  go_wp2_with fail
  generalize w.alloc (.cells #[.int .i64 o, .int .i64 x] 55) = W at k0 k1 HB ⊢
  go_quiet ((go_at_call 127; exact Calls.quiet_of_same (HC.out _)))
  go_wp2_with fail
  go_ret
  exact ⟨by rw [HV.out]; rfl, btr HB.out (below_drewN (Below.refl _ _) _)⟩
 ·
  have hd : decide (x ≥ 0) = false := decide_eq_false (by omega)
  rw [decide_eq_false h0, Bool.false_and] at hv
  have HV := Lib.hid hv
  clear hv h0
  go_enter Tryz.func122, Tryz.ntmps122
  go_wp2_with fail
  generalize w.alloc (.cells #[.int .i64 o, .int .i64 x] 55) = W at k0 k1 HB ⊢
  go_quiet ((go_at_call 127; exact Calls.quiet_of_same (HC.out _)))
  go_wp2_with fail
  go_ret
  exact ⟨by rw [HV.out]; rfl, btr HB.out (below_drewN (Below.refl _ _) _)⟩
theorem progOk_len {l : List JT} (h : l.length = 0 ∨ 12 < l.length) : progOk l = false := by
 unfold progOk
 rw [inB_false.2 (by omega), Bool.and_false]
theorem impl_progOk (A : Option Addr) (n c : Nat) (l : List JT) (w : World) (hn : n ≤ 1048576) (hl : l.length = n) (h1 : Lies w 0 w.heap.size A (jcells l)) (wl : wfJL l) :
  Calls Tryz.prog 109 #[.slice A n c] w fun e w' => e = .returned (.bool (progOk l)) ∧ Below w.heap.size w w' := by
 have H1 := Lib.hid h1
 have HL := Lib.hid hl
 have HW := Lib.hid wl
 clear h1 hl wl
 by_cases h0 : n = 0
 ·
  subst h0
  have HV := Lib.hid (progOk_len (l := l) (.inl HL.out))
  go_enter Tryz.func109, Tryz.ntmps109
  go_wp2_with fail
  go_ret
  exact ⟨by rw [HV.out]; rfl, Below.refl _ _⟩
 ·
  by_cases h12 : 12 < n
  ·
   have HV := Lib.hid (progOk_len (l := l) (.inr (by rw [HL.out]; exact h12)))
   have e0 : ((n : Int) == 0) = false := by simpa using h0
   have e12 : decide ((n : Int) > 12) = true := decide_eq_true (by omega)
   go_enter Tryz.func109, Tryz.ntmps109
   go_wp2_with fail
   go_ret
   exact ⟨by rw [HV.out]; rfl, Below.refl _ _⟩
  ·
   have e0 : ((n : Int) == 0) = false := by simpa using h0
   have e12 : decide ((n : Int) > 12) = false := decide_eq_false (by omega)
   go_enter Tryz.func109, Tryz.ntmps109
   go_wp2_with fail
   go_loopw [14] (fun i wr => ∃ (k : Nat), k ≤ n ∧ i = .int .i64 k ∧ (∀ (j : Nat) (hj : j < l.length), j < k → insOk l[j] = true) ∧ Below w.heap.size w wr) (fun i _ => n - (intOf i).toNat)
   case atStart => exact ⟨0, Nat.zero_le _, rfl, fun j hj h => absurd h (Nat.not_lt_zero _), Below.refl _ _⟩
   case round =>
    obtain ⟨k, hk, rfl, hall, hb⟩ := hrel
    have HA := Lib.hid hall
    have HB := Lib.hid hb
    clear hall
    by_cases hlt : k < n
    ·
     have hkl : k < l.length := by have := HL.out; omega
     obtain ⟨b, off, rfl, _, hbw, c0, c1⟩ := j_at H1.out k hkl
     have d0 := (hb.cell (p := ⟨b, off + k * 2, none⟩) hbw).trans c0
     have d1 := (hb.cell (p := ⟨b, off + k * 2 + 1, none⟩) hbw).trans c1
     have hj0 : (0 : Int) ≤ (k : Int) := Int.natCast_nonneg _
     have hj1 : (k : Int) < (n : Int) := by omega
     have hcall := impl_insOk l[k].1 l[k].2 wr (HW.out _ (List.getElem_mem hkl))
     obtain ⟨v, hv⟩ : ∃ v, insOk l[k] = v := ⟨_, rfl⟩
     rw [show insOk (l[k].1, l[k].2) = v from hv] at hcall
     have HCALL := Lib.hid hcall
     have HV := Lib.hid hv
     clear hcall hv c0 c1 hb
     generalize l[k].1 = o at d0 HCALL
     generalize l[k].2 = x at d1 HCALL
     cases v
     ·
      go_wp2_with fail
      refine HCALL.out.mono ?_
      rintro e w1 ⟨rfl, hb1⟩
      have HB1 := Lib.hid (btr HB.out hb1)
      clear hb1
      go_wp2_with fail
      go_ret
      exact ⟨by rw [progOk_no hkl HV.out]; rfl, HB1.out⟩
     ·
      go_wp2_with fail
      refine HCALL.out.mono ?_
      rintro e w1 ⟨rfl, hb1⟩
      have HB1 := Lib.hid (btr HB.out hb1)
      clear hb1
      go_wp2_with fail
      go_roundw
      case rel =>
       refine ⟨k + 1, by omega, by go_num, fun j hj h => ?_, HB1.out⟩
       rcases Nat.lt_succ_iff_lt_or_eq.1 h with h2 | rfl
       ·
        exact HA.out j hj h2
       ·
        exact HV.out
      case measure => simp [intOf]; omega
    ·
     obtain rfl : k = n := by omega
     have hv := progOk_yes (l := l) (fun j hj => HA.out j hj (by have := HL.out; omega))
     rw [HL.out, inB_iff.2 ⟨by omega, by omega⟩] at hv
     have HV := Lib.hid hv
     clear hv hb
     go_wp2_with fail
     go_ret
     exact ⟨by rw [HV.out]; rfl, HB.out⟩
theorem neq_pair (x y u v : Int) (W : World) : (binOp .neq 55 (.agg #[.int .i64 x, .int .i64 y]) (.agg #[.int .i64 u, .int .i64 v])).run Tryz.prog W = .ok (.bool (!(x == u && y == v))) W := by
 have u3 := Tryz.underlying3
 have a3 := Tryz.isAgg3
 have z3 := Tryz.sizeOf3
 have hS : Tryz.prog.underlying 55 = some (.struct (Tryz.prog.fieldsOf 55)) := by kernel_rfl
 have hp : Tryz.prog.stoodInHeld 55 = false := by kernel_rfl
 rw [run_neq_struct, show (10000 : Nat) = 9999 + 1 from rfl, run_equalIn_agg W 9999 55 _ _ hS hp]
 simp only [Program.fieldsOf, Tryz.underlying55]
 go_simp
 by_cases hx : x = u <;> by_cases hy : y = v <;> simp [hx, hy]
theorem impl_sameD (A B : Option Addr) (n n' c d : Nat) (l m : List JT) (w : World) (hn : n ≤ 1048576) (hn' : n' ≤ 1048576) (hl : l.length = n) (hm : m.length = n')
  (h1 : Lies w 0 w.heap.size A (jcells l)) (h2 : Lies w 0 w.heap.size B (jcells m)) :
  Calls Tryz.prog 86 #[.slice A n c, .slice B n' d] w (SamePost w l m) := by
 have H1 := Lib.hid h1
 have H2 := Lib.hid h2
 have HL := Lib.hid hl
 have HM := Lib.hid hm
 clear h1 h2 hl hm
 by_cases hnn : n = n'
 ·
  subst hnn
  go_enter Tryz.func86, Tryz.ntmps86
  go_wp2
  go_loopw [13] (fun i wr => ∃ (k q : Nat), k ≤ n ∧ i = .int .i64 k ∧ l.take k = m.take k ∧ wr = w.drewN q) (fun i _ => n - (intOf i).toNat)
  case atStart => exact ⟨0, 0, Nat.zero_le _, rfl, rfl, rfl⟩
  case round =>
   obtain ⟨k, q, hk, rfl, ht, rfl⟩ := hrel
   have HT := Lib.hid ht
   clear ht
   by_cases hlt : k < n
   ·
    have hkl : k < l.length := by have := HL.out; omega
    have hkm : k < m.length := by have := HM.out; omega
    obtain ⟨b, off, rfl, _, hbw, c1, c2⟩ := j_at H1.out k hkl
    obtain ⟨b', off', rfl, _, hbw', c1', c2'⟩ := j_at H2.out k hkm
    have hi0 : (0 : Int) ≤ (k : Int) := Int.natCast_nonneg _
    have hi1 : (k : Int) < (n : Int) := by omega
    have hstep := same_step hkl hkm HT.out
    have hne := neq_pair l[k].1 l[k].2 m[k].1 m[k].2
    have HP := Lib.hid hstep
    clear hstep
    generalize l[k].1 = x at c1 HP hne
    generalize l[k].2 = y at c2 HP hne
    generalize m[k].1 = x' at c1' HP hne
    generalize m[k].2 = y' at c2' HP hne
    by_cases hx : x = x' ∧ y = y'
    ·
     obtain ⟨rfl, rfl⟩ := hx
     rw [show (!(x == x && y == y)) = false by simp] at hne
     go_wp2
     go_quiet (fail)
     go_wp2
     go_roundw
     case rel => exact ⟨k + 1, _, by omega, by go_num, HP.out.1 (by simp), rfl⟩
     case measure => simp [intOf]; omega
    ·
     have hno := HP.out.2 hx
     have HX := Lib.hid hno
     rw [show (!(x == x' && y == y')) = true by
      rw [Bool.not_eq_true', Bool.and_eq_false_iff, beq_eq_false_iff_ne, beq_eq_false_iff_ne]
      by_cases h : x = x'
      ·
       exact .inr (fun h2 => hx ⟨h, h2⟩)
      ·
       exact .inl h] at hne
     clear hno hx HP
     go_wp2
     go_quiet (fail)
     go_wp2
     go_ret
     exact same_no2 _ _ HX.out
   ·
    have hkn : k = n := by omega
    subst hkn
    go_wp2
    go_ret
    exact same_yes _ HT.out HL.out HM.out
 ·
  have hd : (n == n') = false := by simpa using hnn
  have hd' : ((n : Int) == (n' : Int)) = false := by simp; omega
  have hd2 : ((n : Int) != (n' : Int)) = true := by simp; omega
  go_enter Tryz.func86, Tryz.ntmps86
  go_wp2
  go_ret
  exact same_no 0 (fun e => hnn (by rw [← HL.out, ← HM.out, e]))
theorem impl_same (A B : Option Addr) (n n' c d : Nat) (l m : List JT) (w : World) (hn : n ≤ 1048576) (hn' : n' ≤ 1048576) (hl : l.length = n) (hm : m.length = n')
  (h1 : Lies w 0 w.heap.size A (jcells l)) (h2 : Lies w 0 w.heap.size B (jcells m)) (wl : wfJL l) (wm : wfJL m) :
  Calls Tryz.prog 86 #[.slice A n c, .slice B n' d] w fun e w' => e = .returned (.bool (decide (l = m))) ∧ Below w.heap.size w w' :=
 (impl_sameD A B n n' c d l m w hn hn' hl hm h1 h2).mono fun e w' ⟨h, q, hq⟩ => ⟨h, hq ▸ below_drewN (Below.refl _ _) _⟩
end Go.Proofs.YtldgadmpclgfhaaGreat.Inss
namespace Go.Proofs.YtldgadmpclgfhaaGreat.Guests
set_option maxHeartbeats 8000000
set_option maxRecDepth 100000
set_option maxRecDepth 100000
open Go.ChangeShapes Go.WideShapes Go.ChangeAt Go.RowKit
open Go.Proofs.YtldgadmpclgfhaaGreat.Base Go.Proofs.YtldgadmpclgfhaaGreat.Mem Go.Proofs.YtldgadmpclgfhaaGreat.Data Go.Proofs.YtldgadmpclgfhaaGreat.Slots Go.Proofs.YtldgadmpclgfhaaGreat.Ints Go.Proofs.YtldgadmpclgfhaaGreat.Ctls Go.Proofs.YtldgadmpclgfhaaGreat.Exits Go.Proofs.YtldgadmpclgfhaaGreat.Stt Go.Proofs.YtldgadmpclgfhaaGreat.Irqs Go.Proofs.YtldgadmpclgfhaaGreat.Inss
set_option linter.unusedVariables false
set_option linter.unusedSimpArgs false
def gnum (g : gT) : Prop := wfGuest g
theorem gnum_pd {g : gT} (h : gnum g) : (Lit.int .i64 g.pd).wf = true := h.2.2.2.2.2.2.1
theorem gnum_t {g : gT} (h : gnum g) : wfC g.t := h.2.2.2.2.2.1
theorem gnum_x {g : gT} (h : gnum g) : wfQ g.x := h.2.2.2.2.2.2.2.1
theorem impl_new4 (w : World) : Calls Tryz.prog 98 #[.int .i64 4] w (RowPost w 4 (Slots.nosL 4)) := by
 have h := Slots.impl_new 4 w
 rwa [show Slots.newN 4 = 4 by decide] at h
theorem lib_cloneIns (xs : List (Int × Int)) (A : Option Addr) (c : Nat) (w : World) (hp : xs.length ≤ 1048576) (h : rdLst (rPair rInt rInt) w 0 w.heap.size xs [.slice A xs.length c]) : Calls Tryz.prog 97 #[.slice A xs.length c] w (Gives (rLst 55 (rPair rInt rInt)) w xs) := by
 rcases A with _ | ad
 ·
  obtain rfl := Sx.p2_nothing h
  refine Sx.enter (args := [.slice none 0 c]) Tryz.func97 rfl Tryz.ntmps97 rfl ?_
  refine Sx.C.seq (Sx.C.region ?_)
  refine Sx.G.p (.slice none 0 0) ?_
  refine Sx.G.nil (Sx.E.next (Sx.C.seq (Sx.C.seq (Sx.C.region ?_))))
  refine Sx.G.p (.slice none 0 c) ?_
  refine Sx.G.p (.bool true) ?_
  refine Sx.G.nil (Sx.E.next ?_)
  refine Sx.C.yes (by kernel_rfl) (by kernel_rfl) ?_
  refine Sx.C.seq (Sx.C.region ?_)
  refine Sx.G.p (.slice none 0 0) ?_
  refine Sx.G.nil (Sx.E.next (Sx.C.ret (Sx.E.then_ret ?_)))
  refine Sx.E.ret1 (.slice none 0 0) rfl (by kernel_rfl) (fun w S => ?_)
  have S' := St.nil S 55 (rPair rInt rInt)
  exact ⟨[_], _, rfl, S'.own 0 rfl, S'.nodup 0 rfl, S.below⟩
 ·
  refine Sx.enter (args := [.slice (some ad) xs.length c]) Tryz.func97 rfl Tryz.ntmps97 rfl ?_
  refine Sx.C.seq (Sx.C.region ?_)
  refine Sx.G.p (.slice none 0 0) ?_
  refine Sx.G.nil (Sx.E.next (Sx.C.seq (Sx.C.seq (Sx.C.region ?_))))
  refine Sx.G.p (.slice (some ad) xs.length c) ?_
  refine Sx.G.p (.bool false) ?_
  refine Sx.G.nil (Sx.E.next ?_)
  refine Sx.C.no (by kernel_rfl) (by kernel_rfl) ?_
  refine Sx.C.skip (Sx.E.next (Sx.C.seq (Sx.C.region ?_)))
  refine Sx.G.fresh 55 (rPair rInt rInt) (by kernel_rfl) (fun w => by kernel_rfl) (fun b1 hi1 => ?_)
  refine Sx.G.p (.slice (some ad) xs.length c) ?_
  refine Sx.G.apps 0 rfl xs (fun w S => St.old (r := rLsw (rPair rInt rInt)) S h) (List.nil_append _) xs.length (by simp) flat_P2 (.tmp 5) (.tmp 6) 32 2 16 rfl rfl (by kernel_rfl) (by kernel_rfl) rfl (by kernel_rfl) (by kernel_rfl) (by simp only [maxLen, List.length_nil, List.length_cons]; omega) (by simp only [List.length_nil, List.length_cons]; omega) (fun A2 c2 F2 hi2 hm2 => ?_)
  refine Sx.G.p (.slice A2 xs.length c2) ?_
  refine Sx.G.nil (Sx.E.next (Sx.C.ret ?_))
  refine Sx.E.ret1 (.slice A2 xs.length c2) rfl (by kernel_rfl) (fun w S => ?_)
  exact ⟨[_], _, rfl, S.own 0 rfl, S.nodup 0 rfl, S.below⟩
theorem lib_cloneSlot (xs : List (Int × Int)) (A : Option Addr) (c : Nat) (w : World) (hp : xs.length ≤ 1048576) (h : rdLst (rPair rInt rInt) w 0 w.heap.size xs [.slice A xs.length c]) : Calls Tryz.prog 105 #[.slice A xs.length c] w (Gives (rLst 108 (rPair rInt rInt)) w xs) := by
 rcases A with _ | ad
 ·
  obtain rfl := Sx.p2_nothing h
  refine Sx.enter (args := [.slice none 0 c]) Tryz.func105 rfl Tryz.ntmps105 rfl ?_
  refine Sx.C.seq (Sx.C.region ?_)
  refine Sx.G.p (.slice none 0 0) ?_
  refine Sx.G.nil (Sx.E.next (Sx.C.seq (Sx.C.seq (Sx.C.region ?_))))
  refine Sx.G.p (.slice none 0 c) ?_
  refine Sx.G.p (.bool true) ?_
  refine Sx.G.nil (Sx.E.next ?_)
  refine Sx.C.yes (by kernel_rfl) (by kernel_rfl) ?_
  refine Sx.C.seq (Sx.C.region ?_)
  refine Sx.G.p (.slice none 0 0) ?_
  refine Sx.G.nil (Sx.E.next (Sx.C.ret (Sx.E.then_ret ?_)))
  refine Sx.E.ret1 (.slice none 0 0) rfl (by kernel_rfl) (fun w S => ?_)
  have S' := St.nil S 108 (rPair rInt rInt)
  exact ⟨[_], _, rfl, S'.own 0 rfl, S'.nodup 0 rfl, S.below⟩
 ·
  refine Sx.enter (args := [.slice (some ad) xs.length c]) Tryz.func105 rfl Tryz.ntmps105 rfl ?_
  refine Sx.C.seq (Sx.C.region ?_)
  refine Sx.G.p (.slice none 0 0) ?_
  refine Sx.G.nil (Sx.E.next (Sx.C.seq (Sx.C.seq (Sx.C.region ?_))))
  refine Sx.G.p (.slice (some ad) xs.length c) ?_
  refine Sx.G.p (.bool false) ?_
  refine Sx.G.nil (Sx.E.next ?_)
  refine Sx.C.no (by kernel_rfl) (by kernel_rfl) ?_
  refine Sx.C.skip (Sx.E.next (Sx.C.seq (Sx.C.region ?_)))
  refine Sx.G.fresh 108 (rPair rInt rInt) (by kernel_rfl) (fun w => by kernel_rfl) (fun b1 hi1 => ?_)
  refine Sx.G.p (.slice (some ad) xs.length c) ?_
  refine Sx.G.apps 0 rfl xs (fun w S => St.old (r := rLsw (rPair rInt rInt)) S h) (List.nil_append _) xs.length (by simp) flat_P2 (.tmp 5) (.tmp 6) 33 2 16 rfl rfl (by kernel_rfl) (by kernel_rfl) rfl (by kernel_rfl) (by kernel_rfl) (by simp only [maxLen, List.length_nil, List.length_cons]; omega) (by simp only [List.length_nil, List.length_cons]; omega) (fun A2 c2 F2 hi2 hm2 => ?_)
  refine Sx.G.p (.slice A2 xs.length c2) ?_
  refine Sx.G.nil (Sx.E.next (Sx.C.ret ?_))
  refine Sx.E.ret1 (.slice A2 xs.length c2) rfl (by kernel_rfl) (fun w S => ?_)
  exact ⟨[_], _, rfl, S.own 0 rfl, S.nodup 0 rfl, S.below⟩
theorem lib_cloneInt (xs : List (Int)) (A : Option Addr) (c : Nat) (w : World) (hp : xs.length ≤ 1048576) (h : rdLst rInt w 0 w.heap.size xs [.slice A xs.length c]) : Calls Tryz.prog 77 #[.slice A xs.length c] w (Gives (rLst 3 rInt) w xs) := by
 rcases A with _ | ad
 ·
  obtain rfl := Sx.i1_nothing h
  refine Sx.enter (args := [.slice none 0 c]) Tryz.func77 rfl Tryz.ntmps77 rfl ?_
  refine Sx.C.seq (Sx.C.region ?_)
  refine Sx.G.p (.slice none 0 0) ?_
  refine Sx.G.nil (Sx.E.next (Sx.C.seq (Sx.C.seq (Sx.C.region ?_))))
  refine Sx.G.p (.slice none 0 c) ?_
  refine Sx.G.p (.bool true) ?_
  refine Sx.G.nil (Sx.E.next ?_)
  refine Sx.C.yes (by kernel_rfl) (by kernel_rfl) ?_
  refine Sx.C.seq (Sx.C.region ?_)
  refine Sx.G.p (.slice none 0 0) ?_
  refine Sx.G.nil (Sx.E.next (Sx.C.ret (Sx.E.then_ret ?_)))
  refine Sx.E.ret1 (.slice none 0 0) rfl (by kernel_rfl) (fun w S => ?_)
  have S' := St.nil S 3 rInt
  exact ⟨[_], _, rfl, S'.own 0 rfl, S'.nodup 0 rfl, S.below⟩
 ·
  refine Sx.enter (args := [.slice (some ad) xs.length c]) Tryz.func77 rfl Tryz.ntmps77 rfl ?_
  refine Sx.C.seq (Sx.C.region ?_)
  refine Sx.G.p (.slice none 0 0) ?_
  refine Sx.G.nil (Sx.E.next (Sx.C.seq (Sx.C.seq (Sx.C.region ?_))))
  refine Sx.G.p (.slice (some ad) xs.length c) ?_
  refine Sx.G.p (.bool false) ?_
  refine Sx.G.nil (Sx.E.next ?_)
  refine Sx.C.no (by kernel_rfl) (by kernel_rfl) ?_
  refine Sx.C.skip (Sx.E.next (Sx.C.seq (Sx.C.region ?_)))
  refine Sx.G.fresh 3 rInt (by kernel_rfl) (fun w => by kernel_rfl) (fun b1 hi1 => ?_)
  refine Sx.G.p (.slice (some ad) xs.length c) ?_
  refine Sx.G.apps 0 rfl xs (fun w S => St.old (r := rLsw rInt) S h) (List.nil_append _) xs.length (by simp) flat_int (.tmp 5) (.tmp 6) 28 1 8 rfl rfl (by kernel_rfl) (by kernel_rfl) rfl (by kernel_rfl) (by kernel_rfl) (by simp only [maxLen, List.length_nil, List.length_cons]; omega) (by simp only [List.length_nil, List.length_cons]; omega) (fun A2 c2 F2 hi2 hm2 => ?_)
  refine Sx.G.p (.slice A2 xs.length c2) ?_
  refine Sx.G.nil (Sx.E.next (Sx.C.ret ?_))
  refine Sx.E.ret1 (.slice A2 xs.length c2) rfl (by kernel_rfl) (fun w S => ?_)
  exact ⟨[_], _, rfl, S.own 0 rfl, S.nodup 0 rfl, S.below⟩
theorem impl_regs (g : gT) (cs : List Value) (w : World) (h : rG.rd w 0 w.heap.size g cs) : Calls Tryz.prog 85 #[.agg cs.toArray] w (fun e w' => e = .returned (.agg #[.int .i64 g.a, .int .i64 g.pc, .int .i64 g.t.1, .int .i64 g.t.2.1, .bool g.t.2.2, .int .i64 g.pd, .int .i64 g.x.1, .int .i64 g.x.2.1, .bool g.x.2.2.1, .int .i64 g.x.2.2.2, .bool g.hl]) ∧ Below w.heap.size w w') := by
 have hr := h
 obtain ⟨P0, P1, P2, P3, rfl, h0, h1, h2, h3⟩ := rG_rd h
 obtain ⟨PA0, Pc0, e0, hP0⟩ := lst_val h0
 subst e0
 obtain ⟨PA1, Pc1, e1, hP1⟩ := lst_val h1
 subst e1
 obtain ⟨PA2, Pc2, e2, hP2⟩ := lst_val h2
 subst e2
 obtain ⟨PA3, Pc3, e3, hP3⟩ := lst_val h3
 subst e3
 refine Sx.enter (args := [.agg #[.slice PA0 g.prog.length Pc0, .int .i64 g.a, .int .i64 g.pc, .slice PA1 g.wr.length Pc1, .slice PA2 g.lv.length Pc2, .int .i64 g.t.1, .int .i64 g.t.2.1, .bool g.t.2.2, .int .i64 g.pd, .int .i64 g.x.1, .int .i64 g.x.2.1, .bool g.x.2.2.1, .int .i64 g.x.2.2.2, .bool g.hl, .slice PA3 g.seen.length Pc3]]) Tryz.func85 rfl Tryz.ntmps85 rfl ?_
 refine Sx.C.seq (Sx.C.region ?_)
 refine Sx.G.b [.slice PA0 g.prog.length Pc0, .int .i64 g.a, .int .i64 g.pc, .slice PA1 g.wr.length Pc1, .slice PA2 g.lv.length Pc2, .int .i64 g.t.1, .int .i64 g.t.2.1, .bool g.t.2.2, .int .i64 g.pd, .int .i64 g.x.1, .int .i64 g.x.2.1, .bool g.x.2.2.1, .int .i64 g.x.2.2.2, .bool g.hl, .slice PA3 g.seen.length Pc3] (fun b1 => ?_)
 refine Sx.G.ar [.int .i64 0, .int .i64 0, .int .i64 0, .int .i64 0, .bool false, .int .i64 0, .int .i64 0, .int .i64 0, .bool false, .int .i64 0, .bool false] (fun b2 => ?_)
 refine Sx.G.nil (Sx.E.next (Sx.C.seq (Sx.C.region ?_)))
 refine Sx.G.p (.pointer (some ⟨b1, 1, none⟩)) ?_
 refine Sx.G.g (.int .i64 g.a) .m1 .m1 ?_
 refine Sx.G.p (.pointer (some ⟨b1, 2, none⟩)) ?_
 refine Sx.G.g (.int .i64 g.pc) .m1 .m2 ?_
 refine Sx.G.p (.pointer (some ⟨b1, 5, none⟩)) ?_
 refine Sx.G.lp 5 [.int .i64 g.t.1, .int .i64 g.t.2.1, .bool g.t.2.2] .m1 ?_
 refine Sx.G.p (.pointer (some ⟨b1, 8, none⟩)) ?_
 refine Sx.G.g (.int .i64 g.pd) .m1 .m8 ?_
 refine Sx.G.p (.pointer (some ⟨b1, 9, none⟩)) ?_
 refine Sx.G.lp 9 [.int .i64 g.x.1, .int .i64 g.x.2.1, .bool g.x.2.2.1, .int .i64 g.x.2.2.2] .m1 ?_
 refine Sx.G.p (.pointer (some ⟨b1, 13, none⟩)) ?_
 refine Sx.G.g (.bool g.hl) .m1 .m13 ?_
 refine Sx.G.p (.agg #[.int .i64 g.a, .int .i64 g.pc, .int .i64 g.t.1, .int .i64 g.t.2.1, .bool g.t.2.2, .int .i64 g.pd, .int .i64 g.x.1, .int .i64 g.x.2.1, .bool g.x.2.2.1, .int .i64 g.x.2.2.2, .bool g.hl]) ?_
 refine Sx.G.sw [.int .i64 g.a, .int .i64 g.pc, .int .i64 g.t.1, .int .i64 g.t.2.1, .bool g.t.2.2, .int .i64 g.pd, .int .i64 g.x.1, .int .i64 g.x.2.1, .bool g.x.2.2.1, .int .i64 g.x.2.2.2, .bool g.hl] .a0 ?_
 refine Sx.G.nil (Sx.E.next (Sx.C.ret ?_))
 refine Sx.E.retc b2 0 [.int .i64 g.a, .int .i64 g.pc, .int .i64 g.t.1, .int .i64 g.t.2.1, .bool g.t.2.2, .int .i64 g.pd, .int .i64 g.x.1, .int .i64 g.x.2.1, .bool g.x.2.2.1, .int .i64 g.x.2.2.2, .bool g.hl] rfl (by kernel_rfl) rfl (by kernel_rfl) (by kernel_rfl) (fun w S => ?_)
 exact ⟨rfl, S.below⟩
def regOk (g : gT) : Bool := inB g.a 0 99 && decide (g.pc ≥ 0) && decide (g.pc ≤ 12) && ctlOk g.t && pend g.pd && exitOk g.x
theorem guestOk_reg (g : gT) : guestOk g = (progOk g.prog && regOk g && okTab g.wr 4 8 && okTab g.lv 4 8 && decide ((g.seen.length : Int) ≤ 40)) := by
 unfold guestOk regOk
 rw [show inB g.pc 0 12 = (decide (g.pc ≥ 0) && decide (g.pc ≤ 12)) from rfl]
 generalize progOk g.prog = a1; generalize inB g.a 0 99 = a2; generalize decide (g.pc ≥ 0) = a3; generalize decide (g.pc ≤ 12) = a4; generalize ctlOk g.t = a5; generalize pend g.pd = a6; generalize exitOk g.x = a7; generalize okTab g.wr 4 8 = a8; generalize okTab g.lv 4 8 = a9; generalize decide ((g.seen.length : Int) ≤ 40) = a0
 revert a0 a1 a2 a3 a4 a5 a6 a7 a8 a9; decide
theorem impl_regOk (g : gT) (w : World) (hn : gnum g) : Calls Tryz.prog 110 #[.agg #[.int .i64 g.a, .int .i64 g.pc, .int .i64 g.t.1, .int .i64 g.t.2.1, .bool g.t.2.2, .int .i64 g.pd, .int .i64 g.x.1, .int .i64 g.x.2.1, .bool g.x.2.2.1, .int .i64 g.x.2.2.2, .bool g.hl]] w fun e w' => e = .returned (.bool (regOk g)) ∧ Below w.heap.size w w' := by
 have hpd := gnum_pd hn
 have wt := gnum_t hn
 have wx := gnum_x hn
 refine Sx.enter (args := [.agg #[.int .i64 g.a, .int .i64 g.pc, .int .i64 g.t.1, .int .i64 g.t.2.1, .bool g.t.2.2, .int .i64 g.pd, .int .i64 g.x.1, .int .i64 g.x.2.1, .bool g.x.2.2.1, .int .i64 g.x.2.2.2, .bool g.hl]]) Tryz.func110 rfl Tryz.ntmps110 rfl ?_
 refine Sx.C.seq (Sx.C.region ?_)
 refine Sx.G.b [.int .i64 g.a, .int .i64 g.pc, .int .i64 g.t.1, .int .i64 g.t.2.1, .bool g.t.2.2, .int .i64 g.pd, .int .i64 g.x.1, .int .i64 g.x.2.1, .bool g.x.2.2.1, .int .i64 g.x.2.2.2, .bool g.hl] (fun b1 => ?_)
 refine Sx.G.p (.bool false) ?_
 refine Sx.G.nil (Sx.E.next (Sx.C.seq (Sx.C.region ?_)))
 refine Sx.G.p (.pointer (some ⟨b1, 0, none⟩)) ?_
 refine Sx.G.g (.int .i64 g.a) .m0 .m0 ?_
 refine Sx.G.cp 108 #[.int .i64 g.a] (.bool (inB g.a 0 99)) (fun w S => by exact Exits.impl_cellOkE g.a _) ?_
 refine Sx.G.p (.bool (inB g.a 0 99)) ?_
 cases hc2 : (inB g.a 0 99)
 ·
  have hb2 := hc2
  refine Sx.G.k ?_
  refine Sx.G.k ?_
  refine Sx.G.k ?_
  refine Sx.G.p (.bool false) ?_
  refine Sx.G.p (.bool false) ?_
  refine Sx.G.k ?_
  refine Sx.G.k ?_
  refine Sx.G.k ?_
  refine Sx.G.p (.bool false) ?_
  refine Sx.G.p (.bool false) ?_
  refine Sx.G.k ?_
  refine Sx.G.k ?_
  refine Sx.G.k ?_
  refine Sx.G.p (.bool false) ?_
  refine Sx.G.p (.bool false) ?_
  refine Sx.G.k ?_
  refine Sx.G.k ?_
  refine Sx.G.k ?_
  refine Sx.G.p (.bool false) ?_
  refine Sx.G.p (.bool false) ?_
  refine Sx.G.k ?_
  refine Sx.G.k ?_
  refine Sx.G.k ?_
  refine Sx.G.p (.bool false) ?_
  refine Sx.G.p (.bool false) ?_
  refine Sx.G.nil (Sx.E.next (Sx.C.ret ?_))
  refine Sx.E.ret1 (.bool false) rfl (by kernel_rfl) (fun w S => ?_)
  exact ⟨congrArg Ending.returned (congrArg Value.bool (by simp only [regOk, hb2, Bool.and_true, Bool.and_false, Bool.false_and, Bool.true_and])), S.below⟩
 ·
  have hb2 := hc2
  refine Sx.G.p (.pointer (some ⟨b1, 1, none⟩)) ?_
  refine Sx.G.g (.int .i64 g.pc) .m0 .m1 ?_
  refine Sx.G.p (.bool (decide (g.pc ≥ 0))) ?_
  refine Sx.G.p (.bool (decide (g.pc ≥ 0))) ?_
  refine Sx.G.p (.bool (decide (g.pc ≥ 0))) ?_
  cases hc3 : (decide (g.pc ≥ 0))
  ·
   have hb3 := hc3
   replace hc3 := of_decide_eq_false hc3
   refine Sx.G.k ?_
   refine Sx.G.k ?_
   refine Sx.G.k ?_
   refine Sx.G.p (.bool false) ?_
   refine Sx.G.p (.bool false) ?_
   refine Sx.G.k ?_
   refine Sx.G.k ?_
   refine Sx.G.k ?_
   refine Sx.G.p (.bool false) ?_
   refine Sx.G.p (.bool false) ?_
   refine Sx.G.k ?_
   refine Sx.G.k ?_
   refine Sx.G.k ?_
   refine Sx.G.p (.bool false) ?_
   refine Sx.G.p (.bool false) ?_
   refine Sx.G.k ?_
   refine Sx.G.k ?_
   refine Sx.G.k ?_
   refine Sx.G.p (.bool false) ?_
   refine Sx.G.p (.bool false) ?_
   refine Sx.G.nil (Sx.E.next (Sx.C.ret ?_))
   refine Sx.E.ret1 (.bool false) rfl (by kernel_rfl) (fun w S => ?_)
   exact ⟨congrArg Ending.returned (congrArg Value.bool (by simp only [regOk, hb2, hb3, Bool.and_true, Bool.and_false, Bool.false_and, Bool.true_and])), S.below⟩
  ·
   have hb3 := hc3
   replace hc3 := of_decide_eq_true hc3
   refine Sx.G.p (.pointer (some ⟨b1, 1, none⟩)) ?_
   refine Sx.G.g (.int .i64 g.pc) .m0 .m1 ?_
   refine Sx.G.p (.bool (decide (g.pc ≤ 12))) ?_
   refine Sx.G.p (.bool (decide (g.pc ≤ 12))) ?_
   refine Sx.G.p (.bool (decide (g.pc ≤ 12))) ?_
   cases hc4 : (decide (g.pc ≤ 12))
   ·
    have hb4 := hc4
    replace hc4 := of_decide_eq_false hc4
    refine Sx.G.k ?_
    refine Sx.G.k ?_
    refine Sx.G.k ?_
    refine Sx.G.p (.bool false) ?_
    refine Sx.G.p (.bool false) ?_
    refine Sx.G.k ?_
    refine Sx.G.k ?_
    refine Sx.G.k ?_
    refine Sx.G.p (.bool false) ?_
    refine Sx.G.p (.bool false) ?_
    refine Sx.G.k ?_
    refine Sx.G.k ?_
    refine Sx.G.k ?_
    refine Sx.G.p (.bool false) ?_
    refine Sx.G.p (.bool false) ?_
    refine Sx.G.nil (Sx.E.next (Sx.C.ret ?_))
    refine Sx.E.ret1 (.bool false) rfl (by kernel_rfl) (fun w S => ?_)
    exact ⟨congrArg Ending.returned (congrArg Value.bool (by simp only [regOk, hb2, hb3, hb4, Bool.and_true, Bool.and_false, Bool.false_and, Bool.true_and])), S.below⟩
   ·
    have hb4 := hc4
    replace hc4 := of_decide_eq_true hc4
    refine Sx.G.p (.pointer (some ⟨b1, 2, none⟩)) ?_
    refine Sx.G.lp 2 [.int .i64 g.t.1, .int .i64 g.t.2.1, .bool g.t.2.2] .m0 ?_
    refine Sx.G.cp 123 #[.agg #[.int .i64 g.t.1, .int .i64 g.t.2.1, .bool g.t.2.2]] (.bool (ctlOk g.t)) (fun w S => by exact Ctls.impl_ctlOk g.t.1 g.t.2.1 g.t.2.2 _ wt) ?_
    refine Sx.G.p (.bool (ctlOk g.t)) ?_
    refine Sx.G.p (.bool (ctlOk g.t)) ?_
    cases hc5 : (ctlOk g.t)
    ·
     have hb5 := hc5
     refine Sx.G.k ?_
     refine Sx.G.k ?_
     refine Sx.G.k ?_
     refine Sx.G.p (.bool false) ?_
     refine Sx.G.p (.bool false) ?_
     refine Sx.G.k ?_
     refine Sx.G.k ?_
     refine Sx.G.k ?_
     refine Sx.G.p (.bool false) ?_
     refine Sx.G.p (.bool false) ?_
     refine Sx.G.nil (Sx.E.next (Sx.C.ret ?_))
     refine Sx.E.ret1 (.bool false) rfl (by kernel_rfl) (fun w S => ?_)
     exact ⟨congrArg Ending.returned (congrArg Value.bool (by simp only [regOk, hb2, hb3, hb4, hb5, Bool.and_true, Bool.and_false, Bool.false_and, Bool.true_and])), S.below⟩
    ·
     have hb5 := hc5
     refine Sx.G.p (.pointer (some ⟨b1, 5, none⟩)) ?_
     refine Sx.G.g (.int .i64 g.pd) .m0 .m5 ?_
     refine Sx.G.cp 57 #[.int .i64 g.pd] (.bool (pend g.pd)) (fun w S => by exact Irqs.impl_pend g.pd _ hpd) ?_
     refine Sx.G.p (.bool (pend g.pd)) ?_
     refine Sx.G.p (.bool (pend g.pd)) ?_
     cases hc6 : (pend g.pd)
     ·
      have hb6 := hc6
      refine Sx.G.k ?_
      refine Sx.G.k ?_
      refine Sx.G.k ?_
      refine Sx.G.p (.bool false) ?_
      refine Sx.G.p (.bool false) ?_
      refine Sx.G.nil (Sx.E.next (Sx.C.ret ?_))
      refine Sx.E.ret1 (.bool false) rfl (by kernel_rfl) (fun w S => ?_)
      exact ⟨congrArg Ending.returned (congrArg Value.bool (by simp only [regOk, hb2, hb3, hb4, hb5, hb6, Bool.and_true, Bool.and_false, Bool.false_and, Bool.true_and])), S.below⟩
     ·
      have hb6 := hc6
      refine Sx.G.p (.pointer (some ⟨b1, 6, none⟩)) ?_
      refine Sx.G.lp 6 [.int .i64 g.x.1, .int .i64 g.x.2.1, .bool g.x.2.2.1, .int .i64 g.x.2.2.2] .m0 ?_
      refine Sx.G.cp 124 #[.agg #[.int .i64 g.x.1, .int .i64 g.x.2.1, .bool g.x.2.2.1, .int .i64 g.x.2.2.2]] (.bool (exitOk g.x)) (fun w S => by exact Exits.impl_exitOk g.x.1 g.x.2.1 g.x.2.2.1 g.x.2.2.2 _ wx) ?_
      refine Sx.G.p (.bool (exitOk g.x)) ?_
      refine Sx.G.p (.bool (exitOk g.x)) ?_
      refine Sx.G.nil (Sx.E.next (Sx.C.ret ?_))
      refine Sx.E.ret1 (.bool (exitOk g.x)) rfl (by kernel_rfl) (fun w S => ?_)
      exact ⟨congrArg Ending.returned (congrArg Value.bool (by simp only [regOk, hb2, hb3, hb4, hb5, hb6, Bool.and_true, Bool.and_false, Bool.false_and, Bool.true_and])), S.below⟩
theorem impl_copyM (g : gT) (cs : List Value) (w : World) (hc : rG.cap g) (h : rG.rd w 0 w.heap.size g cs) : Calls Tryz.prog 78 #[.agg cs.toArray] w (fun e w' => ∃ (b : Nat) (A0 : Option Addr) (c0 l0 h0 : Nat) (F0 : List Nat) (A1 : Option Addr) (c1 l1 h1 : Nat) (F1 : List Nat) (A2 : Option Addr) (c2 l2 h2 : Nat) (F2 : List Nat) (A3 : Option Addr) (c3 l3 h3 : Nat) (F3 : List Nat), e = .returned (.pointer (some ⟨b, 0, none⟩)) ∧ St w w' [vr b [.int .i64 g.a, .int .i64 g.pc, .int .i64 g.t.1, .int .i64 g.t.2.1, .bool g.t.2.2, .int .i64 g.pd, .int .i64 g.x.1, .int .i64 g.x.2.1, .bool g.x.2.2.1, .int .i64 g.x.2.2.2, .bool g.hl, .slice A0 g.prog.length c0, .slice A1 g.wr.length c1, .slice A2 g.lv.length c2, .slice A3 g.seen.length c3], ow (rLst 55 (rPair rInt rInt)) l0 h0 g.prog [.slice A0 g.prog.length c0] F0, ow (rLst 108 (rPair rInt rInt)) l1 h1 g.wr [.slice A1 g.wr.length c1] F1, ow (rLst 108 (rPair rInt rInt)) l2 h2 g.lv [.slice A2 g.lv.length c2] F2, ow (rLst 3 rInt) l3 h3 g.seen [.slice A3 g.seen.length c3] F3]) := by
 obtain ⟨q0, q1, q2, q3⟩ := rG_len hc
 have hr := h
 obtain ⟨P0, P1, P2, P3, rfl, h0, h1, h2, h3⟩ := rG_rd h
 obtain ⟨PA0, Pc0, e0, hP0⟩ := lst_val h0
 subst e0
 obtain ⟨PA1, Pc1, e1, hP1⟩ := lst_val h1
 subst e1
 obtain ⟨PA2, Pc2, e2, hP2⟩ := lst_val h2
 subst e2
 obtain ⟨PA3, Pc3, e3, hP3⟩ := lst_val h3
 subst e3
 refine Sx.enter (args := [.agg #[.slice PA0 g.prog.length Pc0, .int .i64 g.a, .int .i64 g.pc, .slice PA1 g.wr.length Pc1, .slice PA2 g.lv.length Pc2, .int .i64 g.t.1, .int .i64 g.t.2.1, .bool g.t.2.2, .int .i64 g.pd, .int .i64 g.x.1, .int .i64 g.x.2.1, .bool g.x.2.2.1, .int .i64 g.x.2.2.2, .bool g.hl, .slice PA3 g.seen.length Pc3]]) Tryz.func78 rfl Tryz.ntmps78 rfl ?_
 refine Sx.C.seq (Sx.C.region ?_)
 refine Sx.G.b [.slice PA0 g.prog.length Pc0, .int .i64 g.a, .int .i64 g.pc, .slice PA1 g.wr.length Pc1, .slice PA2 g.lv.length Pc2, .int .i64 g.t.1, .int .i64 g.t.2.1, .bool g.t.2.2, .int .i64 g.pd, .int .i64 g.x.1, .int .i64 g.x.2.1, .bool g.x.2.2.1, .int .i64 g.x.2.2.2, .bool g.hl, .slice PA3 g.seen.length Pc3] (fun b1 => ?_)
 refine Sx.G.p (.pointer none) ?_
 refine Sx.G.nil (Sx.E.next (Sx.C.seq ?_))
 refine Sx.C.draw (.take 0 (.take 2 (.take 3 (.take 5 (.take 6 (.take 8 (.take 9 (.take 11 (.take 12 (.alone 1 (.alone 4 (.alone 7 (.alone 10 (.alone 13 (.take 14 (.alone 15 (.take 16 .nil))))))))))))))))) [vr b1 [.slice PA0 g.prog.length Pc0, .int .i64 g.a, .int .i64 g.pc, .slice PA1 g.wr.length Pc1, .slice PA2 g.lv.length Pc2, .int .i64 g.t.1, .int .i64 g.t.2.1, .bool g.t.2.2, .int .i64 g.pd, .int .i64 g.x.1, .int .i64 g.x.2.1, .bool g.x.2.2.1, .int .i64 g.x.2.2.2, .bool g.hl, .slice PA3 g.seen.length Pc3]] (fun w S => St.pick S [0] _ rfl (by decide)) (by kernel_rfl) (by kernel_rfl) (by kernel_rfl) ?_
 refine Sx.GT.lw .m0 ?_
 refine Sx.GT.p (.pointer (some ⟨b1, 0, none⟩)) ?_
 refine Sx.GT.g (.slice PA0 g.prog.length Pc0) .m0 .m0 ?_
 refine Sx.GT.p (.pointer (some ⟨b1, 3, none⟩)) ?_
 refine Sx.GT.g (.slice PA1 g.wr.length Pc1) .m0 .m3 ?_
 refine Sx.GT.p (.pointer (some ⟨b1, 4, none⟩)) ?_
 refine Sx.GT.g (.slice PA2 g.lv.length Pc2) .m0 .m4 ?_
 refine Sx.GT.p (.pointer (some ⟨b1, 14, none⟩)) ?_
 refine Sx.GT.g (.slice PA3 g.seen.length Pc3) .m0 .m14 ?_
 refine Sx.GT.alone (Sx.Alone.cp 85 #[.agg #[.slice PA0 g.prog.length Pc0, .int .i64 g.a, .int .i64 g.pc, .slice PA1 g.wr.length Pc1, .slice PA2 g.lv.length Pc2, .int .i64 g.t.1, .int .i64 g.t.2.1, .bool g.t.2.2, .int .i64 g.pd, .int .i64 g.x.1, .int .i64 g.x.2.1, .bool g.x.2.2.1, .int .i64 g.x.2.2.2, .bool g.hl, .slice PA3 g.seen.length Pc3]] (.agg #[.int .i64 g.a, .int .i64 g.pc, .int .i64 g.t.1, .int .i64 g.t.2.1, .bool g.t.2.2, .int .i64 g.pd, .int .i64 g.x.1, .int .i64 g.x.2.1, .bool g.x.2.2.1, .int .i64 g.x.2.2.2, .bool g.hl]) (fun w S => by exact impl_regs g _ _ (St.old S hr)) (fun w S => St.pick S [0] _ rfl (by decide)) ?_)
 refine Sx.GT.alone (Sx.Alone.c 97 #[.slice PA0 g.prog.length Pc0] (fun w2 S => (lib_cloneIns g.prog PA0 Pc0 _ q0 (St.old S h0)).mono fun e w2' hp => ?_))
 obtain ⟨cs, F, rfl, ho, hF, hb⟩ := hp
 obtain ⟨u2, rfl⟩ := lst_own ho
 obtain ⟨A2, c2, e2, -⟩ := lst_val ((St.got S hb ho hF).reads 0 rfl)
 subst e2
 generalize F = F2 at ho hF
 refine ⟨_, _, rfl, (St.got S hb ho hF), (fun w S => St.pick S [1] _ rfl (by decide)), ?_⟩
 clear S hb ho hF
 refine Sx.GT.alone (Sx.Alone.c 105 #[.slice PA1 g.wr.length Pc1] (fun w3 S => (lib_cloneSlot g.wr PA1 Pc1 _ q1 (St.old S h1)).mono fun e w3' hp => ?_))
 obtain ⟨cs, F, rfl, ho, hF, hb⟩ := hp
 obtain ⟨u3, rfl⟩ := lst_own ho
 obtain ⟨A3, c3, e3, -⟩ := lst_val ((St.got S hb ho hF).reads 0 rfl)
 subst e3
 generalize F = F3 at ho hF
 refine ⟨_, _, rfl, (St.got S hb ho hF), (fun w S => St.pick S [2] _ rfl (by decide)), ?_⟩
 clear S hb ho hF
 refine Sx.GT.alone (Sx.Alone.c 105 #[.slice PA2 g.lv.length Pc2] (fun w4 S => (lib_cloneSlot g.lv PA2 Pc2 _ q2 (St.old S h2)).mono fun e w4' hp => ?_))
 obtain ⟨cs, F, rfl, ho, hF, hb⟩ := hp
 obtain ⟨u4, rfl⟩ := lst_own ho
 obtain ⟨A4, c4, e4, -⟩ := lst_val ((St.got S hb ho hF).reads 0 rfl)
 subst e4
 generalize F = F4 at ho hF
 refine ⟨_, _, rfl, (St.got S hb ho hF), (fun w S => St.pick S [3] _ rfl (by decide)), ?_⟩
 clear S hb ho hF
 refine Sx.GT.alone (Sx.Alone.c 77 #[.slice PA3 g.seen.length Pc3] (fun w5 S => (lib_cloneInt g.seen PA3 Pc3 _ q3 (St.old S h3)).mono fun e w5' hp => ?_))
 obtain ⟨cs, F, rfl, ho, hF, hb⟩ := hp
 obtain ⟨u5, rfl⟩ := lst_own ho
 obtain ⟨A5, c5, e5, -⟩ := lst_val ((St.got S hb ho hF).reads 0 rfl)
 subst e5
 generalize F = F5 at ho hF
 refine ⟨_, _, rfl, (St.got S hb ho hF), (fun w S => St.pick S [4] _ rfl (by decide)), ?_⟩
 clear S hb ho hF
 refine Sx.GT.p (.agg #[.int .i64 g.a, .int .i64 g.pc, .int .i64 g.t.1, .int .i64 g.t.2.1, .bool g.t.2.2, .int .i64 g.pd, .int .i64 g.x.1, .int .i64 g.x.2.1, .bool g.x.2.2.1, .int .i64 g.x.2.2.2, .bool g.hl, .slice A2 g.prog.length c2, .slice A3 g.wr.length c3, .slice A4 g.lv.length c4, .slice A5 g.seen.length c5]) ?_
 refine Sx.GT.alone (Sx.Alone.b [.int .i64 g.a, .int .i64 g.pc, .int .i64 g.t.1, .int .i64 g.t.2.1, .bool g.t.2.2, .int .i64 g.pd, .int .i64 g.x.1, .int .i64 g.x.2.1, .bool g.x.2.2.1, .int .i64 g.x.2.2.2, .bool g.hl, .slice A2 g.prog.length c2, .slice A3 g.wr.length c3, .slice A4 g.lv.length c4, .slice A5 g.seen.length c5] (fun w S => St.pick S [4] _ rfl (by decide)) (fun b6 => ?_))
 refine Sx.GT.p (.pointer (some ⟨b6, 0, none⟩)) ?_
 refine Sx.GT.nil (Sx.E.next (Sx.C.ret ?_))
 refine Sx.E.ret1 (.pointer (some ⟨b6, 0, none⟩)) rfl (by kernel_rfl) (fun w S => ?_)
 exact ⟨_, _, _, _, _, _, _, _, _, _, _, _, _, _, _, _, _, _, _, _, _, rfl, St.pick S [0, 4, 3, 2, 1] _ rfl (by decide)⟩
theorem impl_guestM {w0 w : World} {b : Nat} {R : List Res} {A0 A1 A2 A3 : Option Addr} {c0 c1 c2 c3 : Nat} (g : gT) (S : St w0 w (vr b [.int .i64 g.a, .int .i64 g.pc, .int .i64 g.t.1, .int .i64 g.t.2.1, .bool g.t.2.2, .int .i64 g.pd, .int .i64 g.x.1, .int .i64 g.x.2.1, .bool g.x.2.2.1, .int .i64 g.x.2.2.2, .bool g.hl, .slice A0 g.prog.length c0, .slice A1 g.wr.length c1, .slice A2 g.lv.length c2, .slice A3 g.seen.length c3] :: R)) : Calls Tryz.prog 79 #[.pointer (some ⟨b, 0, none⟩)] w fun e w' => e = .returned (.agg #[.slice A0 g.prog.length c0, .int .i64 g.a, .int .i64 g.pc, .slice A1 g.wr.length c1, .slice A2 g.lv.length c2, .int .i64 g.t.1, .int .i64 g.t.2.1, .bool g.t.2.2, .int .i64 g.pd, .int .i64 g.x.1, .int .i64 g.x.2.1, .bool g.x.2.2.1, .int .i64 g.x.2.2.2, .bool g.hl, .slice A3 g.seen.length c3]) ∧ St w0 w' (vr b [.int .i64 g.a, .int .i64 g.pc, .int .i64 g.t.1, .int .i64 g.t.2.1, .bool g.t.2.2, .int .i64 g.pd, .int .i64 g.x.1, .int .i64 g.x.2.1, .bool g.x.2.2.1, .int .i64 g.x.2.2.2, .bool g.hl, .slice A0 g.prog.length c0, .slice A1 g.wr.length c1, .slice A2 g.lv.length c2, .slice A3 g.seen.length c3] :: R) := by
 refine Sx.enterS (args := [.pointer (some ⟨b, 0, none⟩)]) S Tryz.func79 rfl Tryz.ntmps79 rfl ?_
 refine Sx.C.seq (Sx.C.region ?_)
 refine Sx.G.ar [.slice none 0 0, .int .i64 0, .int .i64 0, .slice none 0 0, .slice none 0 0, .int .i64 0, .int .i64 0, .bool false, .int .i64 0, .int .i64 0, .int .i64 0, .bool false, .int .i64 0, .bool false, .slice none 0 0] (fun b1 => ?_)
 refine Sx.G.nil (Sx.E.next (Sx.C.seq ?_))
 refine Sx.C.draw (.take 0 (.take 1 (.take 2 (.take 3 (.take 4 (.take 5 (.take 6 (.take 7 (.take 8 (.take 9 (.take 10 (.take 11 (.take 12 (.take 13 (.take 14 (.take 15 (.take 16 (.take 17 (.take 18 (.take 19 (.take 20 (.take 21 (.take 22 (.take 23 (.take 24 (.take 25 (.take 26 (.take 27 (.take 28 (.take 29 (.take 30 (.take 31 (.take 32 (.take 33 (.take 34 (.take 35 (.take 36 (.take 37 (.take 38 (.take 39 (.take 40 (.take 41 (.take 42 (.take 43 (.take 44 (.take 45 (.take 46 (.alone 47 .nil)))))))))))))))))))))))))))))))))))))))))))))))) [vr b [.int .i64 g.a, .int .i64 g.pc, .int .i64 g.t.1, .int .i64 g.t.2.1, .bool g.t.2.2, .int .i64 g.pd, .int .i64 g.x.1, .int .i64 g.x.2.1, .bool g.x.2.2.1, .int .i64 g.x.2.2.2, .bool g.hl, .slice A0 g.prog.length c0, .slice A1 g.wr.length c1, .slice A2 g.lv.length c2, .slice A3 g.seen.length c3]] (fun w S => St.pick S [1] _ rfl (by decide)) (by kernel_rfl) (by kernel_rfl) (by kernel_rfl) ?_
 refine Sx.GT.p (.pointer (some ⟨b, 0, none⟩)) ?_
 refine Sx.GT.p (.pointer (some ⟨b, 0, none⟩)) ?_
 refine Sx.GT.p (.pointer (some ⟨b, 11, none⟩)) ?_
 refine Sx.GT.g (.slice A0 g.prog.length c0) .m0 .m11 ?_
 refine Sx.GT.p (.pointer (some ⟨b, 0, none⟩)) ?_
 refine Sx.GT.p (.pointer (some ⟨b, 0, none⟩)) ?_
 refine Sx.GT.p (.pointer (some ⟨b, 0, none⟩)) ?_
 refine Sx.GT.p (.pointer (some ⟨b, 0, none⟩)) ?_
 refine Sx.GT.g (.int .i64 g.a) .m0 .m0 ?_
 refine Sx.GT.p (.pointer (some ⟨b, 0, none⟩)) ?_
 refine Sx.GT.p (.pointer (some ⟨b, 0, none⟩)) ?_
 refine Sx.GT.p (.pointer (some ⟨b, 0, none⟩)) ?_
 refine Sx.GT.p (.pointer (some ⟨b, 1, none⟩)) ?_
 refine Sx.GT.g (.int .i64 g.pc) .m0 .m1 ?_
 refine Sx.GT.p (.pointer (some ⟨b, 0, none⟩)) ?_
 refine Sx.GT.p (.pointer (some ⟨b, 0, none⟩)) ?_
 refine Sx.GT.p (.pointer (some ⟨b, 12, none⟩)) ?_
 refine Sx.GT.g (.slice A1 g.wr.length c1) .m0 .m12 ?_
 refine Sx.GT.p (.pointer (some ⟨b, 0, none⟩)) ?_
 refine Sx.GT.p (.pointer (some ⟨b, 0, none⟩)) ?_
 refine Sx.GT.p (.pointer (some ⟨b, 13, none⟩)) ?_
 refine Sx.GT.g (.slice A2 g.lv.length c2) .m0 .m13 ?_
 refine Sx.GT.p (.pointer (some ⟨b, 0, none⟩)) ?_
 refine Sx.GT.p (.pointer (some ⟨b, 0, none⟩)) ?_
 refine Sx.GT.p (.pointer (some ⟨b, 0, none⟩)) ?_
 refine Sx.GT.p (.pointer (some ⟨b, 2, none⟩)) ?_
 refine Sx.GT.lp 2 [.int .i64 g.t.1, .int .i64 g.t.2.1, .bool g.t.2.2] .m0 ?_
 refine Sx.GT.p (.pointer (some ⟨b, 0, none⟩)) ?_
 refine Sx.GT.p (.pointer (some ⟨b, 0, none⟩)) ?_
 refine Sx.GT.p (.pointer (some ⟨b, 0, none⟩)) ?_
 refine Sx.GT.p (.pointer (some ⟨b, 5, none⟩)) ?_
 refine Sx.GT.g (.int .i64 g.pd) .m0 .m5 ?_
 refine Sx.GT.p (.pointer (some ⟨b, 0, none⟩)) ?_
 refine Sx.GT.p (.pointer (some ⟨b, 0, none⟩)) ?_
 refine Sx.GT.p (.pointer (some ⟨b, 0, none⟩)) ?_
 refine Sx.GT.p (.pointer (some ⟨b, 6, none⟩)) ?_
 refine Sx.GT.lp 6 [.int .i64 g.x.1, .int .i64 g.x.2.1, .bool g.x.2.2.1, .int .i64 g.x.2.2.2] .m0 ?_
 refine Sx.GT.p (.pointer (some ⟨b, 0, none⟩)) ?_
 refine Sx.GT.p (.pointer (some ⟨b, 0, none⟩)) ?_
 refine Sx.GT.p (.pointer (some ⟨b, 0, none⟩)) ?_
 refine Sx.GT.p (.pointer (some ⟨b, 10, none⟩)) ?_
 refine Sx.GT.g (.bool g.hl) .m0 .m10 ?_
 refine Sx.GT.p (.pointer (some ⟨b, 0, none⟩)) ?_
 refine Sx.GT.p (.pointer (some ⟨b, 0, none⟩)) ?_
 refine Sx.GT.p (.pointer (some ⟨b, 14, none⟩)) ?_
 refine Sx.GT.g (.slice A3 g.seen.length c3) .m0 .m14 ?_
 refine Sx.GT.p (.agg #[.slice A0 g.prog.length c0, .int .i64 g.a, .int .i64 g.pc, .slice A1 g.wr.length c1, .slice A2 g.lv.length c2, .int .i64 g.t.1, .int .i64 g.t.2.1, .bool g.t.2.2, .int .i64 g.pd, .int .i64 g.x.1, .int .i64 g.x.2.1, .bool g.x.2.2.1, .int .i64 g.x.2.2.2, .bool g.hl, .slice A3 g.seen.length c3]) ?_
 refine Sx.GT.alone (Sx.Alone.sw [.slice A0 g.prog.length c0, .int .i64 g.a, .int .i64 g.pc, .slice A1 g.wr.length c1, .slice A2 g.lv.length c2, .int .i64 g.t.1, .int .i64 g.t.2.1, .bool g.t.2.2, .int .i64 g.pd, .int .i64 g.x.1, .int .i64 g.x.2.1, .bool g.x.2.2.1, .int .i64 g.x.2.2.2, .bool g.hl, .slice A3 g.seen.length c3] .a0 (fun w S => St.pick S [1] _ rfl (by decide)) ?_)
 refine Sx.GT.nil (Sx.E.next (Sx.C.ret ?_))
 refine Sx.E.retc b1 0 [.slice A0 g.prog.length c0, .int .i64 g.a, .int .i64 g.pc, .slice A1 g.wr.length c1, .slice A2 g.lv.length c2, .int .i64 g.t.1, .int .i64 g.t.2.1, .bool g.t.2.2, .int .i64 g.pd, .int .i64 g.x.1, .int .i64 g.x.2.1, .bool g.x.2.2.1, .int .i64 g.x.2.2.2, .bool g.hl, .slice A3 g.seen.length c3] rfl (by kernel_rfl) rfl (by kernel_rfl) (by kernel_rfl) (fun w S => ?_)
 replace S := Sx.St.tail S
 exact ⟨rfl, S⟩
theorem impl_gok (g : gT) (cs : List Value) (w : World) (hn : gnum g) (hc : rG.cap g) (h : rG.rd w 0 w.heap.size g cs) : Calls Tryz.prog 90 #[.agg cs.toArray] w (fun e w' => e = .returned (.bool (guestOk g)) ∧ Below w.heap.size w w') := by
 obtain ⟨q0, q1, q2, q3⟩ := rG_len hc
 have hr := h
 obtain ⟨P0, P1, P2, P3, rfl, h0, h1, h2, h3⟩ := rG_rd h
 obtain ⟨PA0, Pc0, e0, hP0⟩ := lst_val h0
 subst e0
 obtain ⟨PA1, Pc1, e1, hP1⟩ := lst_val h1
 subst e1
 obtain ⟨PA2, Pc2, e2, hP2⟩ := lst_val h2
 subst e2
 obtain ⟨PA3, Pc3, e3, hP3⟩ := lst_val h3
 subst e3
 refine Sx.enter (args := [.agg #[.slice PA0 g.prog.length Pc0, .int .i64 g.a, .int .i64 g.pc, .slice PA1 g.wr.length Pc1, .slice PA2 g.lv.length Pc2, .int .i64 g.t.1, .int .i64 g.t.2.1, .bool g.t.2.2, .int .i64 g.pd, .int .i64 g.x.1, .int .i64 g.x.2.1, .bool g.x.2.2.1, .int .i64 g.x.2.2.2, .bool g.hl, .slice PA3 g.seen.length Pc3]]) Tryz.func90 rfl Tryz.ntmps90 rfl ?_
 refine Sx.C.seq (Sx.C.region ?_)
 refine Sx.G.b [.slice PA0 g.prog.length Pc0, .int .i64 g.a, .int .i64 g.pc, .slice PA1 g.wr.length Pc1, .slice PA2 g.lv.length Pc2, .int .i64 g.t.1, .int .i64 g.t.2.1, .bool g.t.2.2, .int .i64 g.pd, .int .i64 g.x.1, .int .i64 g.x.2.1, .bool g.x.2.2.1, .int .i64 g.x.2.2.2, .bool g.hl, .slice PA3 g.seen.length Pc3] (fun b1 => ?_)
 refine Sx.G.p (.bool false) ?_
 refine Sx.G.nil (Sx.E.next (Sx.C.seq (Sx.C.region ?_)))
 refine Sx.G.p (.pointer (some ⟨b1, 0, none⟩)) ?_
 refine Sx.G.g (.slice PA0 g.prog.length Pc0) .m0 .m0 ?_
 refine Sx.G.cp 109 #[.slice PA0 g.prog.length Pc0] (.bool (progOk g.prog)) (fun w S => by exact Inss.impl_progOk PA0 g.prog.length Pc0 g.prog _ q0 rfl (by rw [← pcells_j]; exact p2_lies (St.old S h0)) hn.1.2) ?_
 refine Sx.G.p (.bool (progOk g.prog)) ?_
 cases hc2 : (progOk g.prog)
 ·
  have hb2 := hc2
  refine Sx.G.k ?_
  refine Sx.G.k ?_
  refine Sx.G.k ?_
  refine Sx.G.p (.bool false) ?_
  refine Sx.G.p (.bool false) ?_
  refine Sx.G.k ?_
  refine Sx.G.k ?_
  refine Sx.G.k ?_
  refine Sx.G.p (.bool false) ?_
  refine Sx.G.p (.bool false) ?_
  refine Sx.G.k ?_
  refine Sx.G.k ?_
  refine Sx.G.k ?_
  refine Sx.G.p (.bool false) ?_
  refine Sx.G.p (.bool false) ?_
  refine Sx.G.k ?_
  refine Sx.G.k ?_
  refine Sx.G.k ?_
  refine Sx.G.k ?_
  refine Sx.G.p (.bool false) ?_
  refine Sx.G.p (.bool false) ?_
  refine Sx.G.nil (Sx.E.next (Sx.C.ret ?_))
  refine Sx.E.ret1 (.bool false) rfl (by kernel_rfl) (fun w S => ?_)
  exact ⟨congrArg Ending.returned (congrArg Value.bool (by simp only [guestOk_reg, hb2, Bool.and_true, Bool.and_false, Bool.false_and, Bool.true_and])), S.below⟩
 ·
  have hb2 := hc2
  refine Sx.G.lw .m0 ?_
  refine Sx.G.cp 85 #[.agg #[.slice PA0 g.prog.length Pc0, .int .i64 g.a, .int .i64 g.pc, .slice PA1 g.wr.length Pc1, .slice PA2 g.lv.length Pc2, .int .i64 g.t.1, .int .i64 g.t.2.1, .bool g.t.2.2, .int .i64 g.pd, .int .i64 g.x.1, .int .i64 g.x.2.1, .bool g.x.2.2.1, .int .i64 g.x.2.2.2, .bool g.hl, .slice PA3 g.seen.length Pc3]] (.agg #[.int .i64 g.a, .int .i64 g.pc, .int .i64 g.t.1, .int .i64 g.t.2.1, .bool g.t.2.2, .int .i64 g.pd, .int .i64 g.x.1, .int .i64 g.x.2.1, .bool g.x.2.2.1, .int .i64 g.x.2.2.2, .bool g.hl]) (fun w S => by exact impl_regs g _ _ (St.old S hr)) ?_
  refine Sx.G.cp 110 #[.agg #[.int .i64 g.a, .int .i64 g.pc, .int .i64 g.t.1, .int .i64 g.t.2.1, .bool g.t.2.2, .int .i64 g.pd, .int .i64 g.x.1, .int .i64 g.x.2.1, .bool g.x.2.2.1, .int .i64 g.x.2.2.2, .bool g.hl]] (.bool (regOk g)) (fun w S => by exact impl_regOk g _ hn) ?_
  refine Sx.G.p (.bool (regOk g)) ?_
  refine Sx.G.p (.bool (regOk g)) ?_
  cases hc3 : (regOk g)
  ·
   have hb3 := hc3
   refine Sx.G.k ?_
   refine Sx.G.k ?_
   refine Sx.G.k ?_
   refine Sx.G.p (.bool false) ?_
   refine Sx.G.p (.bool false) ?_
   refine Sx.G.k ?_
   refine Sx.G.k ?_
   refine Sx.G.k ?_
   refine Sx.G.p (.bool false) ?_
   refine Sx.G.p (.bool false) ?_
   refine Sx.G.k ?_
   refine Sx.G.k ?_
   refine Sx.G.k ?_
   refine Sx.G.k ?_
   refine Sx.G.p (.bool false) ?_
   refine Sx.G.p (.bool false) ?_
   refine Sx.G.nil (Sx.E.next (Sx.C.ret ?_))
   refine Sx.E.ret1 (.bool false) rfl (by kernel_rfl) (fun w S => ?_)
   exact ⟨congrArg Ending.returned (congrArg Value.bool (by simp only [guestOk_reg, hb2, hb3, Bool.and_true, Bool.and_false, Bool.false_and, Bool.true_and])), S.below⟩
  ·
   have hb3 := hc3
   refine Sx.G.p (.pointer (some ⟨b1, 3, none⟩)) ?_
   refine Sx.G.g (.slice PA1 g.wr.length Pc1) .m0 .m3 ?_
   refine Sx.G.cp 111 #[.slice PA1 g.wr.length Pc1, .int .i64 4, .int .i64 8] (.bool (okTab g.wr 4 8)) (fun w S => by exact Slots.impl_tabOk PA1 g.wr.length Pc1 0 4 8 g.wr _ q1 rfl hn.2.2.2.1.2 (by rw [← pcells_s]; exact p2_lies (St.old S h1))) ?_
   refine Sx.G.p (.bool (okTab g.wr 4 8)) ?_
   refine Sx.G.p (.bool (okTab g.wr 4 8)) ?_
   cases hc4 : (okTab g.wr 4 8)
   ·
    have hb4 := hc4
    refine Sx.G.k ?_
    refine Sx.G.k ?_
    refine Sx.G.k ?_
    refine Sx.G.p (.bool false) ?_
    refine Sx.G.p (.bool false) ?_
    refine Sx.G.k ?_
    refine Sx.G.k ?_
    refine Sx.G.k ?_
    refine Sx.G.k ?_
    refine Sx.G.p (.bool false) ?_
    refine Sx.G.p (.bool false) ?_
    refine Sx.G.nil (Sx.E.next (Sx.C.ret ?_))
    refine Sx.E.ret1 (.bool false) rfl (by kernel_rfl) (fun w S => ?_)
    exact ⟨congrArg Ending.returned (congrArg Value.bool (by simp only [guestOk_reg, hb2, hb3, hb4, Bool.and_true, Bool.and_false, Bool.false_and, Bool.true_and])), S.below⟩
   ·
    have hb4 := hc4
    refine Sx.G.p (.pointer (some ⟨b1, 4, none⟩)) ?_
    refine Sx.G.g (.slice PA2 g.lv.length Pc2) .m0 .m4 ?_
    refine Sx.G.cp 111 #[.slice PA2 g.lv.length Pc2, .int .i64 4, .int .i64 8] (.bool (okTab g.lv 4 8)) (fun w S => by exact Slots.impl_tabOk PA2 g.lv.length Pc2 0 4 8 g.lv _ q2 rfl hn.2.2.2.2.1.2 (by rw [← pcells_s]; exact p2_lies (St.old S h2))) ?_
    refine Sx.G.p (.bool (okTab g.lv 4 8)) ?_
    refine Sx.G.p (.bool (okTab g.lv 4 8)) ?_
    cases hc5 : (okTab g.lv 4 8)
    ·
     have hb5 := hc5
     refine Sx.G.k ?_
     refine Sx.G.k ?_
     refine Sx.G.k ?_
     refine Sx.G.k ?_
     refine Sx.G.p (.bool false) ?_
     refine Sx.G.p (.bool false) ?_
     refine Sx.G.nil (Sx.E.next (Sx.C.ret ?_))
     refine Sx.E.ret1 (.bool false) rfl (by kernel_rfl) (fun w S => ?_)
     exact ⟨congrArg Ending.returned (congrArg Value.bool (by simp only [guestOk_reg, hb2, hb3, hb4, hb5, Bool.and_true, Bool.and_false, Bool.false_and, Bool.true_and])), S.below⟩
    ·
     have hb5 := hc5
     refine Sx.G.p (.pointer (some ⟨b1, 14, none⟩)) ?_
     refine Sx.G.g (.slice PA3 g.seen.length Pc3) .m0 .m14 ?_
     refine Sx.G.p (.int .i64 ((g.seen.length : Nat) : Int)) ?_
     refine Sx.G.p (.bool (decide (((g.seen.length : Nat) : Int) ≤ 40))) ?_
     refine Sx.G.p (.bool (decide (((g.seen.length : Nat) : Int) ≤ 40))) ?_
     refine Sx.G.p (.bool (decide (((g.seen.length : Nat) : Int) ≤ 40))) ?_
     refine Sx.G.nil (Sx.E.next (Sx.C.ret ?_))
     refine Sx.E.ret1 (.bool (decide (((g.seen.length : Nat) : Int) ≤ 40))) rfl (by kernel_rfl) (fun w S => ?_)
     exact ⟨congrArg Ending.returned (congrArg Value.bool (by simp only [guestOk_reg, hb2, hb3, hb4, hb5, Bool.and_true, Bool.and_false, Bool.false_and, Bool.true_and])), S.below⟩
theorem eqv_reg_eql (a0 : Int) (a1 : Int) (a2 : Int) (a3 : Int) (a4 : Bool) (a5 : Int) (a6 : Int) (a7 : Int) (a8 : Bool) (a9 : Int) (a10 : Bool) (b0 : Int) (b1 : Int) (b2 : Int) (b3 : Int) (b4 : Bool) (b5 : Int) (b6 : Int) (b7 : Int) (b8 : Bool) (b9 : Int) (b10 : Bool) (W : World) : (binOp .eql 111 (.agg #[.int .i64 a0, .int .i64 a1, .int .i64 a2, .int .i64 a3, .bool a4, .int .i64 a5, .int .i64 a6, .int .i64 a7, .bool a8, .int .i64 a9, .bool a10]) (.agg #[.int .i64 b0, .int .i64 b1, .int .i64 b2, .int .i64 b3, .bool b4, .int .i64 b5, .int .i64 b6, .int .i64 b7, .bool b8, .int .i64 b9, .bool b10])).run Tryz.prog W = .ok (.bool (a0 == b0 && a1 == b1 && a2 == b2 && a3 == b3 && a4 == b4 && a5 == b5 && a6 == b6 && a7 == b7 && a8 == b8 && a9 == b9 && a10 == b10)) W := by
 have ku0 := Tryz.underlying3
 have ka0 := Tryz.isAgg3
 have kz0 := Tryz.sizeOf3
 have ku1 := Tryz.underlying4
 have ka1 := Tryz.isAgg4
 have kz1 := Tryz.sizeOf4
 have ku2 := Tryz.underlying35
 have ka2 := Tryz.isAgg35
 have kz2 := Tryz.sizeOf35
 have ku3 := Tryz.underlying37
 have ka3 := Tryz.isAgg37
 have kz3 := Tryz.sizeOf37
 have hS : Tryz.prog.underlying 111 = some (.struct (Tryz.prog.fieldsOf 111)) := by kernel_rfl
 have hp : Tryz.prog.stoodInHeld 111 = false := by kernel_rfl
 rw [run_eql_struct, show (10000 : Nat) = 9999 + 1 from rfl, run_equalIn_agg W 9999 111 _ _ hS hp]
 simp only [Program.fieldsOf, Tryz.underlying111]
 go_simp
 clear ku0 ka0 kz0 ku1 ka1 kz1 ku2 ka2 kz2 ku3 ka3 kz3 hS hp
 (repeat' split) <;> simp_all
theorem sameG_reg (g k : gT) : sameG g k = ((g.a == k.a && g.pc == k.pc && g.t.1 == k.t.1 && g.t.2.1 == k.t.2.1 && g.t.2.2 == k.t.2.2 && g.pd == k.pd && g.x.1 == k.x.1 && g.x.2.1 == k.x.2.1 && g.x.2.2.1 == k.x.2.2.1 && g.x.2.2.2 == k.x.2.2.2 && g.hl == k.hl) && decide (g.prog = k.prog) && decide (g.wr = k.wr) && decide (g.lv = k.lv) && decide (g.seen = k.seen)) := by
 unfold sameG
 ac_rfl
theorem impl_gsame (g k : gT) (cs ds : List Value) (w : World) (hn : gnum g) (hm : gnum k) (hc : rG.cap g) (hd : rG.cap k) (h : rG.rd w 0 w.heap.size g cs) (j : rG.rd w 0 w.heap.size k ds) : Calls Tryz.prog 52 #[.agg cs.toArray, .agg ds.toArray] w (fun e w' => e = .returned (.bool (sameG g k)) ∧ Below w.heap.size w w') := by
 obtain ⟨q0, q1, q2, q3⟩ := rG_len hc
 obtain ⟨p0, p1, p2, p3⟩ := rG_len hd
 have hr := h
 obtain ⟨P0, P1, P2, P3, rfl, h0, h1, h2, h3⟩ := rG_rd h
 obtain ⟨PA0, Pc0, e0, hP0⟩ := lst_val h0
 subst e0
 obtain ⟨PA1, Pc1, e1, hP1⟩ := lst_val h1
 subst e1
 obtain ⟨PA2, Pc2, e2, hP2⟩ := lst_val h2
 subst e2
 obtain ⟨PA3, Pc3, e3, hP3⟩ := lst_val h3
 subst e3
 have jr := j
 obtain ⟨R0, R1, R2, R3, rfl, j0, j1, j2, j3⟩ := rG_rd j
 obtain ⟨RA0, Rc0, e0, hR0⟩ := lst_val j0
 subst e0
 obtain ⟨RA1, Rc1, e1, hR1⟩ := lst_val j1
 subst e1
 obtain ⟨RA2, Rc2, e2, hR2⟩ := lst_val j2
 subst e2
 obtain ⟨RA3, Rc3, e3, hR3⟩ := lst_val j3
 subst e3
 refine Sx.enter (args := [.agg #[.slice PA0 g.prog.length Pc0, .int .i64 g.a, .int .i64 g.pc, .slice PA1 g.wr.length Pc1, .slice PA2 g.lv.length Pc2, .int .i64 g.t.1, .int .i64 g.t.2.1, .bool g.t.2.2, .int .i64 g.pd, .int .i64 g.x.1, .int .i64 g.x.2.1, .bool g.x.2.2.1, .int .i64 g.x.2.2.2, .bool g.hl, .slice PA3 g.seen.length Pc3], .agg #[.slice RA0 k.prog.length Rc0, .int .i64 k.a, .int .i64 k.pc, .slice RA1 k.wr.length Rc1, .slice RA2 k.lv.length Rc2, .int .i64 k.t.1, .int .i64 k.t.2.1, .bool k.t.2.2, .int .i64 k.pd, .int .i64 k.x.1, .int .i64 k.x.2.1, .bool k.x.2.2.1, .int .i64 k.x.2.2.2, .bool k.hl, .slice RA3 k.seen.length Rc3]]) Tryz.func52 rfl Tryz.ntmps52 rfl ?_
 refine Sx.C.seq (Sx.C.region ?_)
 refine Sx.G.b [.slice PA0 g.prog.length Pc0, .int .i64 g.a, .int .i64 g.pc, .slice PA1 g.wr.length Pc1, .slice PA2 g.lv.length Pc2, .int .i64 g.t.1, .int .i64 g.t.2.1, .bool g.t.2.2, .int .i64 g.pd, .int .i64 g.x.1, .int .i64 g.x.2.1, .bool g.x.2.2.1, .int .i64 g.x.2.2.2, .bool g.hl, .slice PA3 g.seen.length Pc3] (fun b1 => ?_)
 refine Sx.G.b [.slice RA0 k.prog.length Rc0, .int .i64 k.a, .int .i64 k.pc, .slice RA1 k.wr.length Rc1, .slice RA2 k.lv.length Rc2, .int .i64 k.t.1, .int .i64 k.t.2.1, .bool k.t.2.2, .int .i64 k.pd, .int .i64 k.x.1, .int .i64 k.x.2.1, .bool k.x.2.2.1, .int .i64 k.x.2.2.2, .bool k.hl, .slice RA3 k.seen.length Rc3] (fun b2 => ?_)
 refine Sx.G.p (.bool false) ?_
 refine Sx.G.nil (Sx.E.next (Sx.C.seq ?_))
 refine Sx.C.draw (.take 0 (.take 2 (.alone 1 (.alone 3 (.take 4 (.take 5 (.take 6 (.take 7 (.take 8 (.take 9 (.alone 10 (.take 11 (.take 12 (.take 13 (.take 14 (.take 15 (.take 16 (.alone 17 (.take 18 (.take 19 (.take 20 (.take 21 (.take 22 (.take 23 (.alone 24 (.take 25 (.take 26 (.take 27 (.take 28 (.take 29 (.take 30 (.alone 31 (.take 32 (.take 33 .nil)))))))))))))))))))))))))))))))))) [vr b2 [.slice RA0 k.prog.length Rc0, .int .i64 k.a, .int .i64 k.pc, .slice RA1 k.wr.length Rc1, .slice RA2 k.lv.length Rc2, .int .i64 k.t.1, .int .i64 k.t.2.1, .bool k.t.2.2, .int .i64 k.pd, .int .i64 k.x.1, .int .i64 k.x.2.1, .bool k.x.2.2.1, .int .i64 k.x.2.2.2, .bool k.hl, .slice RA3 k.seen.length Rc3], vr b1 [.slice PA0 g.prog.length Pc0, .int .i64 g.a, .int .i64 g.pc, .slice PA1 g.wr.length Pc1, .slice PA2 g.lv.length Pc2, .int .i64 g.t.1, .int .i64 g.t.2.1, .bool g.t.2.2, .int .i64 g.pd, .int .i64 g.x.1, .int .i64 g.x.2.1, .bool g.x.2.2.1, .int .i64 g.x.2.2.2, .bool g.hl, .slice PA3 g.seen.length Pc3]] (fun w S => St.pick S [0, 1] _ rfl (by decide)) (by kernel_rfl) (by kernel_rfl) (by kernel_rfl) ?_
 refine Sx.GT.lw .m1 ?_
 refine Sx.GT.lw .m0 ?_
 refine Sx.GT.alone (Sx.Alone.cp 85 #[.agg #[.slice PA0 g.prog.length Pc0, .int .i64 g.a, .int .i64 g.pc, .slice PA1 g.wr.length Pc1, .slice PA2 g.lv.length Pc2, .int .i64 g.t.1, .int .i64 g.t.2.1, .bool g.t.2.2, .int .i64 g.pd, .int .i64 g.x.1, .int .i64 g.x.2.1, .bool g.x.2.2.1, .int .i64 g.x.2.2.2, .bool g.hl, .slice PA3 g.seen.length Pc3]] (.agg #[.int .i64 g.a, .int .i64 g.pc, .int .i64 g.t.1, .int .i64 g.t.2.1, .bool g.t.2.2, .int .i64 g.pd, .int .i64 g.x.1, .int .i64 g.x.2.1, .bool g.x.2.2.1, .int .i64 g.x.2.2.2, .bool g.hl]) (fun w S => by exact impl_regs g _ _ (St.old S hr)) (fun w S => St.pick S [0, 1] _ rfl (by decide)) ?_)
 refine Sx.GT.alone (Sx.Alone.cp 85 #[.agg #[.slice RA0 k.prog.length Rc0, .int .i64 k.a, .int .i64 k.pc, .slice RA1 k.wr.length Rc1, .slice RA2 k.lv.length Rc2, .int .i64 k.t.1, .int .i64 k.t.2.1, .bool k.t.2.2, .int .i64 k.pd, .int .i64 k.x.1, .int .i64 k.x.2.1, .bool k.x.2.2.1, .int .i64 k.x.2.2.2, .bool k.hl, .slice RA3 k.seen.length Rc3]] (.agg #[.int .i64 k.a, .int .i64 k.pc, .int .i64 k.t.1, .int .i64 k.t.2.1, .bool k.t.2.2, .int .i64 k.pd, .int .i64 k.x.1, .int .i64 k.x.2.1, .bool k.x.2.2.1, .int .i64 k.x.2.2.2, .bool k.hl]) (fun w S => by exact impl_regs k _ _ (St.old S jr)) (fun w S => St.pick S [0, 1] _ rfl (by decide)) ?_)
 refine Sx.GT.pure (.bool ((g.a == k.a && g.pc == k.pc && g.t.1 == k.t.1 && g.t.2.1 == k.t.2.1 && g.t.2.2 == k.t.2.2 && g.pd == k.pd && g.x.1 == k.x.1 && g.x.2.1 == k.x.2.1 && g.x.2.2.1 == k.x.2.2.1 && g.x.2.2.2 == k.x.2.2.2 && g.hl == k.hl))) 4 (by rfl) (by kernel_rfl) (fun w => Sx.run_eqs rfl rfl rfl (by kernel_rfl) (fun w => eqv_reg_eql g.a g.pc g.t.1 g.t.2.1 g.t.2.2 g.pd g.x.1 g.x.2.1 g.x.2.2.1 g.x.2.2.2 g.hl k.a k.pc k.t.1 k.t.2.1 k.t.2.2 k.pd k.x.1 k.x.2.1 k.x.2.2.1 k.x.2.2.2 k.hl w) w) ?_
 refine Sx.GT.p (.bool ((g.a == k.a && g.pc == k.pc && g.t.1 == k.t.1 && g.t.2.1 == k.t.2.1 && g.t.2.2 == k.t.2.2 && g.pd == k.pd && g.x.1 == k.x.1 && g.x.2.1 == k.x.2.1 && g.x.2.2.1 == k.x.2.2.1 && g.x.2.2.2 == k.x.2.2.2 && g.hl == k.hl))) ?_
 cases hc3 : ((g.a == k.a && g.pc == k.pc && g.t.1 == k.t.1 && g.t.2.1 == k.t.2.1 && g.t.2.2 == k.t.2.2 && g.pd == k.pd && g.x.1 == k.x.1 && g.x.2.1 == k.x.2.1 && g.x.2.2.1 == k.x.2.2.1 && g.x.2.2.2 == k.x.2.2.2 && g.hl == k.hl))
 ·
  have hb3 := hc3
  refine Sx.GT.k ?_
  refine Sx.GT.k ?_
  refine Sx.GT.k ?_
  refine Sx.GT.k ?_
  refine Sx.GT.alone (Sx.Alone.k (fun w S => St.pick S [0, 1] _ rfl (by decide)) ?_)
  refine Sx.GT.p (.bool false) ?_
  refine Sx.GT.p (.bool false) ?_
  refine Sx.GT.k ?_
  refine Sx.GT.k ?_
  refine Sx.GT.k ?_
  refine Sx.GT.k ?_
  refine Sx.GT.alone (Sx.Alone.k (fun w S => St.pick S [0, 1] _ rfl (by decide)) ?_)
  refine Sx.GT.p (.bool false) ?_
  refine Sx.GT.p (.bool false) ?_
  refine Sx.GT.k ?_
  refine Sx.GT.k ?_
  refine Sx.GT.k ?_
  refine Sx.GT.k ?_
  refine Sx.GT.alone (Sx.Alone.k (fun w S => St.pick S [0, 1] _ rfl (by decide)) ?_)
  refine Sx.GT.p (.bool false) ?_
  refine Sx.GT.p (.bool false) ?_
  refine Sx.GT.k ?_
  refine Sx.GT.k ?_
  refine Sx.GT.k ?_
  refine Sx.GT.k ?_
  refine Sx.GT.alone (Sx.Alone.k (fun w S => St.pick S [0, 1] _ rfl (by decide)) ?_)
  refine Sx.GT.p (.bool false) ?_
  refine Sx.GT.p (.bool false) ?_
  refine Sx.GT.nil (Sx.E.next (Sx.C.ret ?_))
  refine Sx.E.ret1 (.bool false) rfl (by kernel_rfl) (fun w S => ?_)
  exact ⟨congrArg Ending.returned (congrArg Value.bool (by simp only [sameG_reg, hb3, Bool.and_true, Bool.and_false, Bool.false_and, Bool.true_and])), S.below⟩
 ·
  have hb3 := hc3
  refine Sx.GT.p (.pointer (some ⟨b1, 0, none⟩)) ?_
  refine Sx.GT.g (.slice PA0 g.prog.length Pc0) .m1 .m0 ?_
  refine Sx.GT.p (.pointer (some ⟨b2, 0, none⟩)) ?_
  refine Sx.GT.g (.slice RA0 k.prog.length Rc0) .m0 .m0 ?_
  refine Sx.GT.alone (Sx.Alone.cp 86 #[.slice PA0 g.prog.length Pc0, .slice RA0 k.prog.length Rc0] (.bool (decide (g.prog = k.prog))) (fun w S => by exact ((Inss.impl_sameD PA0 RA0 g.prog.length k.prog.length Pc0 Rc0 g.prog k.prog _ q0 p0 rfl rfl (by rw [← pcells_j]; exact p2_lies (St.old S h0)) (by rw [← pcells_j]; exact p2_lies (St.old S j0))).mono fun e w' h => And.intro h.1 (drew_below h.2))) (fun w S => St.pick S [0, 1] _ rfl (by decide)) ?_)
  refine Sx.GT.p (.bool (decide (g.prog = k.prog))) ?_
  refine Sx.GT.p (.bool (decide (g.prog = k.prog))) ?_
  cases hc4 : (decide (g.prog = k.prog))
  ·
   have hb4 := hc4
   replace hc4 := of_decide_eq_false hc4
   refine Sx.GT.k ?_
   refine Sx.GT.k ?_
   refine Sx.GT.k ?_
   refine Sx.GT.k ?_
   refine Sx.GT.alone (Sx.Alone.k (fun w S => St.pick S [0, 1] _ rfl (by decide)) ?_)
   refine Sx.GT.p (.bool false) ?_
   refine Sx.GT.p (.bool false) ?_
   refine Sx.GT.k ?_
   refine Sx.GT.k ?_
   refine Sx.GT.k ?_
   refine Sx.GT.k ?_
   refine Sx.GT.alone (Sx.Alone.k (fun w S => St.pick S [0, 1] _ rfl (by decide)) ?_)
   refine Sx.GT.p (.bool false) ?_
   refine Sx.GT.p (.bool false) ?_
   refine Sx.GT.k ?_
   refine Sx.GT.k ?_
   refine Sx.GT.k ?_
   refine Sx.GT.k ?_
   refine Sx.GT.alone (Sx.Alone.k (fun w S => St.pick S [0, 1] _ rfl (by decide)) ?_)
   refine Sx.GT.p (.bool false) ?_
   refine Sx.GT.p (.bool false) ?_
   refine Sx.GT.nil (Sx.E.next (Sx.C.ret ?_))
   refine Sx.E.ret1 (.bool false) rfl (by kernel_rfl) (fun w S => ?_)
   exact ⟨congrArg Ending.returned (congrArg Value.bool (by simp only [sameG_reg, hb3, hb4, Bool.and_true, Bool.and_false, Bool.false_and, Bool.true_and])), S.below⟩
  ·
   have hb4 := hc4
   replace hc4 := of_decide_eq_true hc4
   refine Sx.GT.p (.pointer (some ⟨b1, 3, none⟩)) ?_
   refine Sx.GT.g (.slice PA1 g.wr.length Pc1) .m1 .m3 ?_
   refine Sx.GT.p (.pointer (some ⟨b2, 3, none⟩)) ?_
   refine Sx.GT.g (.slice RA1 k.wr.length Rc1) .m0 .m3 ?_
   refine Sx.GT.alone (Sx.Alone.cp 87 #[.slice PA1 g.wr.length Pc1, .slice RA1 k.wr.length Rc1] (.bool (decide (g.wr = k.wr))) (fun w S => by exact ((Slots.impl_same PA1 RA1 g.wr.length k.wr.length Pc1 Rc1 0 0 _ _ g.wr k.wr _ q1 p1 rfl rfl (by rw [← pcells_s]; exact p2_lies (St.old S h1)) (by rw [← pcells_s]; exact p2_lies (St.old S j1))).mono fun e w' h => And.intro h.1 (drew_below h.2))) (fun w S => St.pick S [0, 1] _ rfl (by decide)) ?_)
   refine Sx.GT.p (.bool (decide (g.wr = k.wr))) ?_
   refine Sx.GT.p (.bool (decide (g.wr = k.wr))) ?_
   cases hc5 : (decide (g.wr = k.wr))
   ·
    have hb5 := hc5
    replace hc5 := of_decide_eq_false hc5
    refine Sx.GT.k ?_
    refine Sx.GT.k ?_
    refine Sx.GT.k ?_
    refine Sx.GT.k ?_
    refine Sx.GT.alone (Sx.Alone.k (fun w S => St.pick S [0, 1] _ rfl (by decide)) ?_)
    refine Sx.GT.p (.bool false) ?_
    refine Sx.GT.p (.bool false) ?_
    refine Sx.GT.k ?_
    refine Sx.GT.k ?_
    refine Sx.GT.k ?_
    refine Sx.GT.k ?_
    refine Sx.GT.alone (Sx.Alone.k (fun w S => St.pick S [0, 1] _ rfl (by decide)) ?_)
    refine Sx.GT.p (.bool false) ?_
    refine Sx.GT.p (.bool false) ?_
    refine Sx.GT.nil (Sx.E.next (Sx.C.ret ?_))
    refine Sx.E.ret1 (.bool false) rfl (by kernel_rfl) (fun w S => ?_)
    exact ⟨congrArg Ending.returned (congrArg Value.bool (by simp only [sameG_reg, hb3, hb4, hb5, Bool.and_true, Bool.and_false, Bool.false_and, Bool.true_and])), S.below⟩
   ·
    have hb5 := hc5
    replace hc5 := of_decide_eq_true hc5
    refine Sx.GT.p (.pointer (some ⟨b1, 4, none⟩)) ?_
    refine Sx.GT.g (.slice PA2 g.lv.length Pc2) .m1 .m4 ?_
    refine Sx.GT.p (.pointer (some ⟨b2, 4, none⟩)) ?_
    refine Sx.GT.g (.slice RA2 k.lv.length Rc2) .m0 .m4 ?_
    refine Sx.GT.alone (Sx.Alone.cp 87 #[.slice PA2 g.lv.length Pc2, .slice RA2 k.lv.length Rc2] (.bool (decide (g.lv = k.lv))) (fun w S => by exact ((Slots.impl_same PA2 RA2 g.lv.length k.lv.length Pc2 Rc2 0 0 _ _ g.lv k.lv _ q2 p2 rfl rfl (by rw [← pcells_s]; exact p2_lies (St.old S h2)) (by rw [← pcells_s]; exact p2_lies (St.old S j2))).mono fun e w' h => And.intro h.1 (drew_below h.2))) (fun w S => St.pick S [0, 1] _ rfl (by decide)) ?_)
    refine Sx.GT.p (.bool (decide (g.lv = k.lv))) ?_
    refine Sx.GT.p (.bool (decide (g.lv = k.lv))) ?_
    cases hc6 : (decide (g.lv = k.lv))
    ·
     have hb6 := hc6
     replace hc6 := of_decide_eq_false hc6
     refine Sx.GT.k ?_
     refine Sx.GT.k ?_
     refine Sx.GT.k ?_
     refine Sx.GT.k ?_
     refine Sx.GT.alone (Sx.Alone.k (fun w S => St.pick S [0, 1] _ rfl (by decide)) ?_)
     refine Sx.GT.p (.bool false) ?_
     refine Sx.GT.p (.bool false) ?_
     refine Sx.GT.nil (Sx.E.next (Sx.C.ret ?_))
     refine Sx.E.ret1 (.bool false) rfl (by kernel_rfl) (fun w S => ?_)
     exact ⟨congrArg Ending.returned (congrArg Value.bool (by simp only [sameG_reg, hb3, hb4, hb5, hb6, Bool.and_true, Bool.and_false, Bool.false_and, Bool.true_and])), S.below⟩
    ·
     have hb6 := hc6
     replace hc6 := of_decide_eq_true hc6
     refine Sx.GT.p (.pointer (some ⟨b1, 14, none⟩)) ?_
     refine Sx.GT.g (.slice PA3 g.seen.length Pc3) .m1 .m14 ?_
     refine Sx.GT.p (.pointer (some ⟨b2, 14, none⟩)) ?_
     refine Sx.GT.g (.slice RA3 k.seen.length Rc3) .m0 .m14 ?_
     refine Sx.GT.alone (Sx.Alone.cp 53 #[.slice PA3 g.seen.length Pc3, .slice RA3 k.seen.length Rc3] (.bool (decide (g.seen = k.seen))) (fun w S => by exact ((Grid.lib_equal PA3 RA3 g.seen.length k.seen.length Pc3 Rc3 0 0 _ _ g.seen k.seen _ q3 p3 rfl rfl (i1_lies (St.old S h3)) (i1_lies (St.old S j3))).mono fun e w' h => And.intro h.1 (drew_below h.2))) (fun w S => St.pick S [0, 1] _ rfl (by decide)) ?_)
     refine Sx.GT.p (.bool (decide (g.seen = k.seen))) ?_
     refine Sx.GT.p (.bool (decide (g.seen = k.seen))) ?_
     refine Sx.GT.nil (Sx.E.next (Sx.C.ret ?_))
     refine Sx.E.ret1 (.bool (decide (g.seen = k.seen))) rfl (by kernel_rfl) (fun w S => ?_)
     exact ⟨congrArg Ending.returned (congrArg Value.bool (by simp only [sameG_reg, hb3, hb4, hb5, hb6, Bool.and_true, Bool.and_false, Bool.false_and, Bool.true_and])), S.below⟩
theorem impl_gnew_g (p : List (Int × Int)) (A : Option Addr) (c : Nat) (w : World) (hp : p.length ≤ 1048576) (h : rdLst (rPair rInt rInt) w 0 w.heap.size p [.slice A p.length c]) : Calls Tryz.prog 66 #[.slice A p.length c] w (Gives rG w (newG p)) := by
 refine Sx.enter (args := [.slice A p.length c]) Tryz.func66 rfl Tryz.ntmps66 rfl ?_
 refine Sx.C.seq (Sx.C.region ?_)
 refine Sx.G.ar [.slice none 0 0, .int .i64 0, .int .i64 0, .slice none 0 0, .slice none 0 0, .int .i64 0, .int .i64 0, .bool false, .int .i64 0, .int .i64 0, .int .i64 0, .bool false, .int .i64 0, .bool false, .slice none 0 0] (fun b1 => ?_)
 refine Sx.G.nil (Sx.E.next (Sx.C.seq (Sx.C.region ?_)))
 refine Sx.G.p (.slice A p.length c) ?_
 refine Sx.G.c 97 #[.slice A p.length c] (fun w2 S => (lib_cloneIns p A c _ hp (St.old (r := rLsw (rPair rInt rInt)) S h)).mono fun e w2' hp => ?_)
 obtain ⟨cs, F, rfl, ho, hF, hb⟩ := hp
 obtain ⟨u2, rfl⟩ := lst_own ho
 obtain ⟨A2, c2, e2, -⟩ := lst_val ((St.got S hb ho hF).reads 0 rfl)
 subst e2
 generalize F = F2 at ho hF
 refine ⟨_, _, rfl, (St.got S hb ho hF), ?_⟩
 clear S hb ho hF
 refine Sx.G.c 98 #[.int .i64 4] (fun w3 S => (impl_new4 _).mono fun e w3' hp => ?_)
 obtain ⟨ad3, tc3, rfl, hc3, ho, hb⟩ := hp
 rw [← pcells_s] at ho
 refine ⟨_, _, rfl, (S.gotp (l := (Slots.nosL 4)) hb hc3 ho), ?_⟩
 clear S ho hb
 refine Sx.G.c 98 #[.int .i64 4] (fun w4 S => (impl_new4 _).mono fun e w4' hp => ?_)
 obtain ⟨ad4, tc4, rfl, hc4, ho, hb⟩ := hp
 rw [← pcells_s] at ho
 refine ⟨_, _, rfl, (S.gotp (l := (Slots.nosL 4)) hb hc4 ho), ?_⟩
 clear S ho hb
 refine Sx.G.p (.agg #[.slice A2 p.length c2, .int .i64 0, .int .i64 0, .slice (some ad3) 4 tc3, .slice (some ad4) 4 tc4, .int .i64 0, .int .i64 0, .bool false, .int .i64 0, .int .i64 0, .int .i64 0, .bool false, .int .i64 0, .bool false, .slice none 0 0]) ?_
 refine Sx.G.sw [.slice A2 p.length c2, .int .i64 0, .int .i64 0, .slice (some ad3) 4 tc3, .slice (some ad4) 4 tc4, .int .i64 0, .int .i64 0, .bool false, .int .i64 0, .int .i64 0, .int .i64 0, .bool false, .int .i64 0, .bool false, .slice none 0 0] .a3 ?_
 refine Sx.G.nil (Sx.E.next (Sx.C.ret ?_))
 refine Sx.E.retc b1 3 [.slice A2 p.length c2, .int .i64 0, .int .i64 0, .slice (some ad3) 4 tc3, .slice (some ad4) 4 tc4, .int .i64 0, .int .i64 0, .bool false, .int .i64 0, .int .i64 0, .int .i64 0, .bool false, .int .i64 0, .bool false, .slice none 0 0] rfl (by kernel_rfl) rfl (by kernel_rfl) (by kernel_rfl) (fun w S => ?_)
 replace S := St.nil S 3 rInt
 obtain ⟨ho, hF⟩ := rG_shut (g := newG p) S 3 rfl 2 rfl 1 rfl 0 rfl (by decide) (by decide) (by decide) (by decide) (by decide) (by decide)
 exact ⟨_, _, rfl, ho, hF, S.below⟩
end Go.Proofs.YtldgadmpclgfhaaGreat.Guests
namespace Go.Proofs.YtldgadmpclgfhaaGreat.Kit
set_option maxHeartbeats 8000000
set_option maxRecDepth 100000
set_option maxRecDepth 100000
open Go.ChangeShapes Go.WideShapes Go.ChangeAt Go.RowKit Go.Deep
open Go.Proofs.YtldgadmpclgfhaaGreat.Base Go.Proofs.YtldgadmpclgfhaaGreat.Mem Go.Proofs.YtldgadmpclgfhaaGreat.Data Go.Proofs.YtldgadmpclgfhaaGreat.Stt Go.Proofs.YtldgadmpclgfhaaGreat.Guests Go.Proofs.YtldgadmpclgfhaaGreat.Ctls Go.Proofs.YtldgadmpclgfhaaGreat.Exits
set_option linter.unusedVariables false
set_option linter.unusedSimpArgs false
theorem i1_own {w : World} {lo hi c : Nat} {A : Option Addr} {l : List Int} (hc : l.length ≤ c) (h : Owned w lo hi A (icells l)) : (rLsw rInt).own w lo hi l [.slice A l.length c] (blks A (icells l)) ∧ (blks A (icells l)).Nodup :=
 ⟨⟨A, c, icells l, [], rfl, hc, by simp, (show ∀ l : List Int, ownAll rInt w lo hi l (icells l) [] from fun l => by
  induction l with
  | nil => exact ⟨rfl, rfl⟩
  | cons s l ih => exact ⟨[.int .i64 s], icells l, [], [], rfl, rfl, ⟨rfl, rfl⟩, ih⟩) l, h⟩, by
  unfold blks
  split
  ·
   simp
  ·
   cases A <;> simp⟩
theorem implx_copypage0 (A : Option Addr) (n c lo : Nat) (l : List Int) (w : World) (hn : n ≤ 1048576) (hl : l.length = n) (h1 : Lies w lo w.heap.size A (Ints.ncells l)) :
  Calls Tryz.prog 104 #[.slice A n c] w (Grid.IPostC w l) := by
 obtain ⟨i0, hi0, hz0, hz1, hz2⟩ := info_parts Grid.Tryz.infoInt
 obtain ⟨wm, hmk, hown, hgm⟩ := run_make_full w w.heap.size 28 3 i0 _ 1 Tryz.underlying28 hi0 hz0 hz1 .i64 .i64 n (by rw [hz2]; omega) (by simp only [maxLen]; omega) (Nat.le_refl _)
 obtain ⟨cur, hblk, hcur⟩ := Grid.block_of_row hown
 have hb0 : Below w.heap.size w wm := (Below.refl _ _).grown hgm (Nat.le_refl _) (fun _ h => by cases h)
 have hsrc := Lib.hid (Grid.Lies.src (h1.below hb0 (Nat.le_refl _)))
 have hlen := Lib.hid (show (Ints.ncells l).length = Nat.min n n by rw [Ints.ncells_len, hl]; exact (Nat.min_self n).symm)
 have hfit := Lib.hid (show 0 + (Ints.ncells l).length ≤ cur.length by rw [Ints.ncells_len, hl, hcur]; omega)
 have hs := Lib.hid (Grid.splice_all cur (Ints.ncells l) (by rw [Ints.ncells_len, hl, hcur]))
 have hsz := Lib.hid (show (Tryz.prog.info? 3).map (·.size) = some 1 by rw [hi0]; simp [hz1])
 have HB := Lib.hid hb0
 have HL := Lib.hid hl
 have HC := Lib.hid hblk
 have hlo := Nat.le_refl w.heap.size
 clear h1 hl hown hgm hblk hb0 hcur
 go_enter Tryz.func104, Tryz.ntmps104
 go_wp2_with (with_reducible refine wpList_copy_splice rfl (.tmp 7) (.tmp 8) 28 28 rfl 3 Tryz.underlying28 hsz.out (some ⟨w.heap.size, 0, none⟩) A n n n c rfl rfl w.heap.size 0 cur 3 HC.out (Ints.ncells l) hlen.out (fun hp => ⟨rfl, by obtain ⟨ad, e, _⟩ := hsrc.out 0 _ (List.getElem?_eq_getElem hp); subst e; exact ⟨_, rfl, fun j v hv => by obtain ⟨ad', e', hc⟩ := hsrc.out j v hv; cases e'; exact hc⟩⟩) hfit.out (Grid.ncells_one l) w.heap.size w HB.out hlo ?_; intro w2 HG hb2; have HB2 := Lib.hid hb2; clear hb2)
 go_ret
 have hg := HG.out
 rw [hs.out] at hg
 exact ⟨_, _, _, rfl, Nat.le_refl _, HL.out, Mem.Owned.of_row (Grid.row_of_block (n := n) hg (Nat.le_refl _) (by rw [Ints.ncells_len]; exact HL.out) (by simp only [maxLen]; omega)), HB2.out⟩
theorem implx_copypage (xs : List Int) (A : Option Addr) (c : Nat) (w : World) (hc : (rLsw rInt).cap xs) (h : rdLst rInt w 0 w.heap.size xs [.slice A xs.length c]) : Calls Tryz.prog 104 #[.slice A xs.length c] w (Gives (rLsw rInt) w xs) :=
 (implx_copypage0 A xs.length c 0 xs w hc.1 rfl (i1_lies h)).mono fun e w' h => by
  obtain ⟨B, n, d, rfl, hnd, hln, ho, hb⟩ := h
  subst hln
  exact ⟨[_], _, rfl, (i1_own hnd ho).1, (i1_own hnd ho).2, hb⟩
theorem decide_eqv {α : Type} [DecidableEq α] (x y : α) : decide (x = y) = eqv x y := by
 rcases Decidable.em (x = y) with h | h
 ·
  rw [decide_eq_true h, eqv_true h]
 ·
  rw [decide_eq_false h, eqv_false h]
theorem _root_.Go.Proofs.YtldgadmpclgfhaaGreat.Sx.St.pickT {w0 w : World} {R : List Res} (L L' : List Res) (S : St w0 w (L ++ R)) (is : List Nat) (hL : is.map (fun i => L[i]?) = L'.map some) (hn : is.Nodup) : St w0 w (L' ++ R) := by
 have hlt : ∀ i ∈ is, i < L.length := fun i hi => by
  have h1 : L[i]? ∈ is.map (fun i => L[i]?) := List.mem_map.2 ⟨i, hi, rfl⟩
  rw [hL] at h1
  obtain ⟨s, _, hs⟩ := List.mem_map.1 h1
  exact (List.getElem?_eq_some_iff.1 hs.symm).1
 refine St.pick S (is ++ (List.range R.length).map (fun k => L.length + k)) (L' ++ R) ?_ ?_
 ·
  rw [List.map_append, List.map_append, ← hL]
  congr 1
  ·
   exact List.map_congr_left fun i hi => List.getElem?_append_left (hlt i hi)
  ·
   rw [List.map_map]
   apply List.ext_getElem?
   intro k
   rw [List.getElem?_map, List.getElem?_map]
   rcases Nat.lt_or_ge k R.length with h | h
   ·
    rw [List.getElem?_range h, List.getElem?_eq_getElem h]
    simp [List.getElem?_append_right, h]
   ·
    rw [List.getElem?_eq_none (by simpa using h), List.getElem?_eq_none h]; rfl
 ·
  rw [List.nodup_append]
  refine ⟨hn, ?_, ?_⟩
  ·
   exact List.Pairwise.map (fun k => L.length + k) (fun a b h => by omega) List.nodup_range
  ·
   intro a ha b hb
   obtain ⟨k, _, rfl⟩ := List.mem_map.1 hb
   have := hlt a ha
   omega
theorem implx_copymem (xs : (List (List Int))) (A : Option Addr) (c : Nat) (w : World) (hc : (rLsw (rLsw rInt)).cap xs) (h : rdLst (rLsw rInt) w 0 w.heap.size xs [.slice A xs.length c]) : Calls Tryz.prog 75 #[.slice A xs.length c] w (Gives (rLsw (rLsw rInt)) w xs) := by
 obtain ⟨hl, hce⟩ := hc
 refine Sx.enter (args := [.slice A xs.length c]) Tryz.func75 rfl Tryz.ntmps75 rfl ?_
 refine Sx.C.seq (Sx.C.region ?_)
 refine Sx.G.p (.slice none 0 0) ?_
 refine Sx.G.nil (Sx.E.next (Sx.C.seq (Sx.C.region ?_)))
 refine Sx.G.p (.slice A xs.length c) ?_
 refine Sx.G.p (.int .i64 ((xs.length : Nat) : Int)) ?_
 refine Sx.G.mks (r := (rLsw rInt)) ([] : (List Int)) [.slice none 0 0] 26 28 (.tmp 7) (.tmp 7) 1 24 xs.length rfl (by kernel_rfl) (by kernel_rfl) (by kernel_rfl) rfl rfl (fun w lo hi => Kit.own_nil _ _ _) (by kernel_rfl) (by kernel_rfl) (by simp only [maxLen]; omega) (by omega) (fun b1 hi1 F1 => ?_)
 refine Sx.G.p (.slice (some ⟨b1, 0, none⟩) xs.length xs.length) ?_
 refine Sx.G.nil (Sx.E.next (Sx.C.seq (Sx.C.seq (Sx.C.region ?_))))
 refine Sx.G.p (.slice A xs.length c) ?_
 refine Sx.G.p (.int .i64 ((xs.length : Nat) : Int)) ?_
 refine Sx.G.p (.int .i64 0) ?_
 refine Sx.G.nil (Sx.E.next (Sx.C.block ?_))
 refine Sx.C.loop (α := Nat × Nat × List Nat) (fun x => x.1 ≤ xs.length) (fun x => [(11, .int .i64 (x.1 : Int)), (2, .slice none 0 0), (3, .slice (some ⟨b1, 0, none⟩) xs.length xs.length), (9, .slice A xs.length c), (10, .int .i64 ((xs.length : Nat) : Int))]) (fun x => [ow (rLsw (rLsw rInt)) w.heap.size x.2.1 (xs.take x.1 ++ List.replicate (xs.length - x.1) ([] : (List Int))) [.slice (some ⟨b1, 0, none⟩) xs.length xs.length] x.2.2]) (fun x => xs.length - x.1) (0, hi1, F1) (Nat.zero_le _) (fun a hA => (Sx.Ag.and hA (Sx.Ag.and hA (Sx.Ag.and hA (Sx.Ag.and hA (Sx.Ag.and hA (Sx.Ag.none hA) _ _ (by kernel_rfl)) _ _ (by kernel_rfl)) _ _ (by kernel_rfl)) _ _ (by kernel_rfl)) _ _ (by kernel_rfl))) (fun w' S => by have S2 := Sx.St.widen S 0 rfl (Nat.le_refl _) (S.hi 0 _ rfl); exact S2) (fun x hx => ?_)
 obtain ⟨i, hi, F⟩ := x
 dsimp only at hx
 obtain hi' := hx
 refine Sx.C.seq (Sx.C.region ?_)
 refine Sx.G.p (.bool (decide ((i : Int) < ((xs.length : Nat) : Int)))) ?_
 refine Sx.G.nil (Sx.E.next (Sx.C.seq ?_))
 cases hc2 : (decide ((i : Int) < ((xs.length : Nat) : Int)))
 ·
  have hb2 := hc2
  replace hc2 := of_decide_eq_false hc2
  refine Sx.C.no (by kernel_rfl) (by kernel_rfl) ?_
  refine Sx.C.exit (Sx.E.then_exit (Sx.E.then_exit (Sx.E.block_hit (Sx.E.next (Sx.C.seq (Sx.C.region ?_))))))
  refine Sx.G.p (.slice (some ⟨b1, 0, none⟩) xs.length xs.length) ?_
  refine Sx.G.p (.slice (some ⟨b1, 0, none⟩) xs.length xs.length) ?_
  refine Sx.G.nil (Sx.E.next (Sx.C.ret ?_))
  refine Sx.E.ret1 (.slice (some ⟨b1, 0, none⟩) xs.length xs.length) rfl (by kernel_rfl) (fun w S => ?_)
  have h2' : xs.take i = xs := List.take_of_length_le (by omega)
  rw [h2', show xs.length - i = 0 by omega, List.replicate_zero, List.append_nil] at S
  exact ⟨[_], F, rfl, S.own 0 rfl, S.nodup 0 rfl, S.below⟩
 ·
  have hb2 := hc2
  replace hc2 := of_decide_eq_true hc2
  refine Sx.C.yes (by kernel_rfl) (by kernel_rfl) ?_
  refine Sx.C.skip (Sx.E.next (Sx.C.seq ?_))
  have hlt : i < xs.length := by omega
  refine Sx.C.open (r := (rLsw rInt)) (pre := xs.take i) (x := ([] : (List Int))) (post := List.replicate (xs.length - (i + 1)) ([] : (List Int))) (by rw [show xs.length - i = (xs.length - (i + 1)) + 1 by omega, List.replicate_succ]) (by decide) (fun b off es F1 Fi F2 eA eF hes hm hmc => ?_)
  obtain ⟨rfl, rfl⟩ : b1 = b ∧ 0 = off := by cases eA; exact ⟨rfl, rfl⟩
  subst eF
  refine Sx.C.know (p := ∃ A0 c0, es = [.slice A0 0 c0]) (fun w S => Kit.open_nil (St.at_ S 1 rfl).1) ?_
  rintro ⟨z0, d0, rfl⟩
  refine Sx.C.block (Sx.C.seq (Sx.C.region ?_))
  refine Sx.G.p (.int .i64 (i : Int)) ?_
  obtain ⟨b3, f3, es3, eA3, hr3, hl3, hm3⟩ := Sx.old_elem (by decide) h i (by omega)
  subst eA3
  obtain ⟨x3, hx3⟩ : ∃ z_, z_ = (xs[i]'(by omega)) := ⟨_, rfl⟩
  rw [← hx3] at hr3
  replace hr3 : rdLst rInt w 0 w.heap.size x3 es3 := hr3
  obtain ⟨P3, rfl⟩ := lst_rd hr3
  obtain ⟨A3, c3, e3, -⟩ := lst_val hr3
  subst e3
  refine Sx.G.elem 26 28 (.tmp 9) (.tmp 11) 1 24 b3 f3 xs.length c i rfl (by kernel_rfl) (by kernel_rfl) (by kernel_rfl) (by kernel_rfl) (by omega) ?_
  refine Sx.G.ldr1 28 (.tmp 14) b3 ((f3 + i * 1) + 0) (.slice A3 x3.length c3) rfl (by kernel_rfl) (by kernel_rfl) (fun w S => hm3 w _ S 0 _ rfl) (by kernel_rfl) ?_
  refine Sx.G.p (.int .i64 (i : Int)) ?_
  refine Sx.G.p (.slice A3 x3.length c3) ?_
  refine Sx.G.nil (Sx.E.next (Sx.C.region ?_))
  refine Sx.G.p (.slice (some ⟨b1, 0, none⟩) xs.length xs.length) ?_
  refine Sx.G.p (.int .i64 (i : Int)) ?_
  refine Sx.G.p (.slice A3 x3.length c3) ?_
  refine Sx.G.c 104 #[.slice A3 x3.length c3] (fun w4 S => (implx_copypage x3 A3 c3 _ (hce _ (hx3 ▸ List.getElem_mem _)) (St.old (r := (rLsw rInt)) S hr3)).mono fun e w4' hp => ?_)
  obtain ⟨cs, F, rfl, ho, hF, hb⟩ := hp
  obtain ⟨u4, rfl⟩ := lsw_own ho
  obtain ⟨A4, c4, e4, -⟩ := lst_val ((rLsw _).reads ho)
  subst e4
  generalize F = F4 at ho hF
  refine ⟨_, _, rfl, (St.got S hb ho hF), ?_⟩
  clear S hb ho hF
  refine Sx.G.elem 26 28 (.tmp 16) (.tmp 17) 1 24 b1 0 xs.length xs.length i rfl (by kernel_rfl) (by kernel_rfl) (by kernel_rfl) (by kernel_rfl) (by omega) ?_
  refine Sx.G.hsto (k := i) (size := 1) 28 (.tmp 20) (.tmp 19) b1 ((0 + i * 1) + 0) 0 1 [.slice A4 x3.length c4] [.slice A4 x3.length c4] [ow (rLsw rInt) w4.heap.size w4'.heap.size x3 [.slice A4 x3.length c4] F4, Sx.hole (rLsw rInt) b1 0 w.heap.size hi (xs.take i) (List.replicate (xs.length - (i + 1)) ([] : (List Int))) [.slice A4 x3.length c4] F1 F2, ow (rLsw rInt) w.heap.size hi ([] : (List Int)) [.slice z0 0 d0] Fi] rfl (by kernel_rfl) (by kernel_rfl) (by kernel_rfl) rfl (by rw [List.length_take]; omega) rfl rfl rfl rfl (by kernel_rfl) (by kernel_rfl) (by kernel_rfl) ?_
  refine Sx.G.nil (Sx.E.block_normal (Sx.E.next (Sx.C.region ?_)))
  refine Sx.G.q (.int .i64 (IntKind.i64.wrap ((i : Int) + 1))) (.int .i64 ((i + 1 : Nat) : Int)) (congrArg (Value.int .i64) (Sx.wrap_up i (by omega))) ?_
  refine Sx.G.p (.int .i64 ((i + 1 : Nat) : Int)) ?_
  refine Sx.G.nil ?_
  exact Sx.E.again (i + 1, max hi w4'.heap.size, _) (show i + 1 ≤ xs.length by omega) (show xs.length - (i + 1) < xs.length - i by omega) (fun a hA => (Sx.Ag.and hA (Sx.Ag.and hA (Sx.Ag.and hA (Sx.Ag.and hA (Sx.Ag.and hA (Sx.Ag.none hA) _ _ (by kernel_rfl)) _ _ (by kernel_rfl)) _ _ (by kernel_rfl)) _ _ (by kernel_rfl)) _ _ (by kernel_rfl))) (fun w' S => by
   replace S := St.pick S [1, 0] [_, _] rfl (by decide)
   have S3 := Sx.St.closeW S (by decide) xs.length xs.length (by simp [List.length_take]; omega) hmc
   rw [hx3] at S3
   rw [show xs.take i ++ xs[i] :: List.replicate (xs.length - (i + 1)) ([] : (List Int)) = xs.take (i + 1) ++ List.replicate (xs.length - (i + 1)) ([] : (List Int)) by rw [Kit.take_step hlt, List.append_assoc]; rfl] at S3
   exact S3
   )
theorem implx_another_g (g : gT) (cs : List Value) (w : World) (hc : rG.cap g) (h : rG.rd w 0 w.heap.size g cs) : Calls Tryz.prog 36 #[.agg cs.toArray] w (Gives rG w g) := by
 obtain ⟨q0, q1, q2, q3⟩ := rG_len hc
 have hr := h
 obtain ⟨P0, P1, P2, P3, rfl, h0, h1, h2, h3⟩ := rG_rd h
 obtain ⟨PA0, Pc0, e0, hP0⟩ := lst_val h0
 subst e0
 obtain ⟨PA1, Pc1, e1, hP1⟩ := lst_val h1
 subst e1
 obtain ⟨PA2, Pc2, e2, hP2⟩ := lst_val h2
 subst e2
 obtain ⟨PA3, Pc3, e3, hP3⟩ := lst_val h3
 subst e3
 refine Sx.enter (args := [.agg #[.slice PA0 g.prog.length Pc0, .int .i64 g.a, .int .i64 g.pc, .slice PA1 g.wr.length Pc1, .slice PA2 g.lv.length Pc2, .int .i64 g.t.1, .int .i64 g.t.2.1, .bool g.t.2.2, .int .i64 g.pd, .int .i64 g.x.1, .int .i64 g.x.2.1, .bool g.x.2.2.1, .int .i64 g.x.2.2.2, .bool g.hl, .slice PA3 g.seen.length Pc3]]) Tryz.func36 rfl Tryz.ntmps36 rfl ?_
 refine Sx.C.seq (Sx.C.region ?_)
 refine Sx.G.b [.slice PA0 g.prog.length Pc0, .int .i64 g.a, .int .i64 g.pc, .slice PA1 g.wr.length Pc1, .slice PA2 g.lv.length Pc2, .int .i64 g.t.1, .int .i64 g.t.2.1, .bool g.t.2.2, .int .i64 g.pd, .int .i64 g.x.1, .int .i64 g.x.2.1, .bool g.x.2.2.1, .int .i64 g.x.2.2.2, .bool g.hl, .slice PA3 g.seen.length Pc3] (fun b1 => ?_)
 refine Sx.G.ar [.slice none 0 0, .int .i64 0, .int .i64 0, .slice none 0 0, .slice none 0 0, .int .i64 0, .int .i64 0, .bool false, .int .i64 0, .int .i64 0, .int .i64 0, .bool false, .int .i64 0, .bool false, .slice none 0 0] (fun b2 => ?_)
 refine Sx.G.nil (Sx.E.next (Sx.C.seq (Sx.C.region ?_)))
 refine Sx.G.lw .m1 ?_
 refine Sx.G.c 78 #[.agg #[.slice PA0 g.prog.length Pc0, .int .i64 g.a, .int .i64 g.pc, .slice PA1 g.wr.length Pc1, .slice PA2 g.lv.length Pc2, .int .i64 g.t.1, .int .i64 g.t.2.1, .bool g.t.2.2, .int .i64 g.pd, .int .i64 g.x.1, .int .i64 g.x.2.1, .bool g.x.2.2.1, .int .i64 g.x.2.2.2, .bool g.hl, .slice PA3 g.seen.length Pc3]] (fun w3 S => (impl_copyM g _ _ hc (St.old S hr)).mono fun e w3' hp => ?_)
 obtain ⟨b3, A3_0, c3_0, l3_0, h3_0, F3_0, A3_1, c3_1, l3_1, h3_1, F3_1, A3_2, c3_2, l3_2, h3_2, F3_2, A3_3, c3_3, l3_3, h3_3, F3_3, rfl, U⟩ := hp
 refine ⟨_, _, rfl, (Sx.St.join S U), ?_⟩
 clear S U
 refine Sx.G.c 79 #[.pointer (some ⟨b3, 0, none⟩)] (fun w4 S => (impl_guestM g S).mono fun e w4' hp => ?_)
 obtain ⟨rfl, S'⟩ := hp
 refine ⟨_, _, rfl, S', ?_⟩
 clear S S'
 refine Sx.G.sw [.slice A3_0 g.prog.length c3_0, .int .i64 g.a, .int .i64 g.pc, .slice A3_1 g.wr.length c3_1, .slice A3_2 g.lv.length c3_2, .int .i64 g.t.1, .int .i64 g.t.2.1, .bool g.t.2.2, .int .i64 g.pd, .int .i64 g.x.1, .int .i64 g.x.2.1, .bool g.x.2.2.1, .int .i64 g.x.2.2.2, .bool g.hl, .slice A3_3 g.seen.length c3_3] .a5 ?_
 refine Sx.G.nil (Sx.E.next (Sx.C.ret ?_))
 refine Sx.E.retc b2 5 [.slice A3_0 g.prog.length c3_0, .int .i64 g.a, .int .i64 g.pc, .slice A3_1 g.wr.length c3_1, .slice A3_2 g.lv.length c3_2, .int .i64 g.t.1, .int .i64 g.t.2.1, .bool g.t.2.2, .int .i64 g.pd, .int .i64 g.x.1, .int .i64 g.x.2.1, .bool g.x.2.2.1, .int .i64 g.x.2.2.2, .bool g.hl, .slice A3_3 g.seen.length c3_3] rfl (by kernel_rfl) rfl (by kernel_rfl) (by kernel_rfl) (fun w S => ?_)
 obtain ⟨GW2, S⟩ := S.weak 2 rfl
 obtain ⟨GW3, S⟩ := S.weak 3 rfl
 obtain ⟨ho, hF⟩ := rG_shut (g := g) S 1 rfl 2 rfl 3 rfl 4 rfl (by decide) (by decide) (by decide) (by decide) (by decide) (by decide)
 exact ⟨_, _, rfl, ho, hF, S.below⟩
theorem implx_another (g : gT) (cs : List Value) (w : World) (hc : wG.cap g) (h : wG.rd w 0 w.heap.size g cs) : Calls Tryz.prog 36 #[.agg cs.toArray] w (Gives wG w g) := (implx_another_g g cs w (cap_G hc) (rd_G h)).mono weak_G
theorem implx_copyguests (xs : (List gT)) (A : Option Addr) (c : Nat) (w : World) (hc : (rLsw wG).cap xs) (h : rdLst wG w 0 w.heap.size xs [.slice A xs.length c]) : Calls Tryz.prog 76 #[.slice A xs.length c] w (Gives (rLsw wG) w xs) := by
 obtain ⟨hl, hce⟩ := hc
 refine Sx.enter (args := [.slice A xs.length c]) Tryz.func76 rfl Tryz.ntmps76 rfl ?_
 refine Sx.C.seq (Sx.C.region ?_)
 refine Sx.G.p (.slice none 0 0) ?_
 refine Sx.G.nil (Sx.E.next (Sx.C.seq (Sx.C.region ?_)))
 refine Sx.G.p (.slice A xs.length c) ?_
 refine Sx.G.p (.int .i64 ((xs.length : Nat) : Int)) ?_
 refine Sx.G.mks (r := wG) ({ prog := [], a := 0, pc := 0, wr := [], lv := [], t := (0, 0, false), pd := 0, x := (0, 0, false, 0), hl := false, seen := [] } : gT) [.slice none 0 0, .int .i64 0, .int .i64 0, .slice none 0 0, .slice none 0 0, .int .i64 0, .int .i64 0, .bool false, .int .i64 0, .int .i64 0, .int .i64 0, .bool false, .int .i64 0, .bool false, .slice none 0 0] 27 39 (.tmp 7) (.tmp 7) 15 184 xs.length rfl (by kernel_rfl) (by kernel_rfl) (by kernel_rfl) rfl rfl (fun w lo hi => Kit.own_zero_Guest w lo hi) (by kernel_rfl) (by kernel_rfl) (by simp only [maxLen]; omega) (by omega) (fun b1 hi1 F1 => ?_)
 refine Sx.G.p (.slice (some ⟨b1, 0, none⟩) xs.length xs.length) ?_
 refine Sx.G.nil (Sx.E.next (Sx.C.seq (Sx.C.seq (Sx.C.region ?_))))
 refine Sx.G.p (.slice A xs.length c) ?_
 refine Sx.G.p (.int .i64 ((xs.length : Nat) : Int)) ?_
 refine Sx.G.p (.int .i64 0) ?_
 refine Sx.G.nil (Sx.E.next (Sx.C.block ?_))
 refine Sx.C.loop (α := Nat × Nat × List Nat) (fun x => x.1 ≤ xs.length) (fun x => [(11, .int .i64 (x.1 : Int)), (2, .slice none 0 0), (3, .slice (some ⟨b1, 0, none⟩) xs.length xs.length), (9, .slice A xs.length c), (10, .int .i64 ((xs.length : Nat) : Int))]) (fun x => [ow (rLsw wG) w.heap.size x.2.1 (xs.take x.1 ++ List.replicate (xs.length - x.1) ({ prog := [], a := 0, pc := 0, wr := [], lv := [], t := (0, 0, false), pd := 0, x := (0, 0, false, 0), hl := false, seen := [] } : gT)) [.slice (some ⟨b1, 0, none⟩) xs.length xs.length] x.2.2]) (fun x => xs.length - x.1) (0, hi1, F1) (Nat.zero_le _) (fun a hA => (Sx.Ag.and hA (Sx.Ag.and hA (Sx.Ag.and hA (Sx.Ag.and hA (Sx.Ag.and hA (Sx.Ag.none hA) _ _ (by kernel_rfl)) _ _ (by kernel_rfl)) _ _ (by kernel_rfl)) _ _ (by kernel_rfl)) _ _ (by kernel_rfl))) (fun w' S => by have S2 := Sx.St.widen S 0 rfl (Nat.le_refl _) (S.hi 0 _ rfl); exact S2) (fun x hx => ?_)
 obtain ⟨i, hi, F⟩ := x
 dsimp only at hx
 obtain hi' := hx
 refine Sx.C.seq (Sx.C.region ?_)
 refine Sx.G.p (.bool (decide ((i : Int) < ((xs.length : Nat) : Int)))) ?_
 refine Sx.G.nil (Sx.E.next (Sx.C.seq ?_))
 cases hc2 : (decide ((i : Int) < ((xs.length : Nat) : Int)))
 ·
  have hb2 := hc2
  replace hc2 := of_decide_eq_false hc2
  refine Sx.C.no (by kernel_rfl) (by kernel_rfl) ?_
  refine Sx.C.exit (Sx.E.then_exit (Sx.E.then_exit (Sx.E.block_hit (Sx.E.next (Sx.C.seq (Sx.C.region ?_))))))
  refine Sx.G.p (.slice (some ⟨b1, 0, none⟩) xs.length xs.length) ?_
  refine Sx.G.p (.slice (some ⟨b1, 0, none⟩) xs.length xs.length) ?_
  refine Sx.G.nil (Sx.E.next (Sx.C.ret ?_))
  refine Sx.E.ret1 (.slice (some ⟨b1, 0, none⟩) xs.length xs.length) rfl (by kernel_rfl) (fun w S => ?_)
  have h2' : xs.take i = xs := List.take_of_length_le (by omega)
  rw [h2', show xs.length - i = 0 by omega, List.replicate_zero, List.append_nil] at S
  exact ⟨[_], F, rfl, S.own 0 rfl, S.nodup 0 rfl, S.below⟩
 ·
  have hb2 := hc2
  replace hc2 := of_decide_eq_true hc2
  refine Sx.C.yes (by kernel_rfl) (by kernel_rfl) ?_
  refine Sx.C.skip (Sx.E.next (Sx.C.seq ?_))
  have hlt : i < xs.length := by omega
  refine Sx.C.open (r := wG) (pre := xs.take i) (x := ({ prog := [], a := 0, pc := 0, wr := [], lv := [], t := (0, 0, false), pd := 0, x := (0, 0, false, 0), hl := false, seen := [] } : gT)) (post := List.replicate (xs.length - (i + 1)) ({ prog := [], a := 0, pc := 0, wr := [], lv := [], t := (0, 0, false), pd := 0, x := (0, 0, false, 0), hl := false, seen := [] } : gT)) (by rw [show xs.length - i = (xs.length - (i + 1)) + 1 by omega, List.replicate_succ]) (by decide) (fun b off es F1 Fi F2 eA eF hes hm hmc => ?_)
  obtain ⟨rfl, rfl⟩ : b1 = b ∧ 0 = off := by cases eA; exact ⟨rfl, rfl⟩
  subst eF
  refine Sx.C.know (p := ∃ A0 A1 A2 A3 c0 c1 c2 c3, es = [.slice A0 0 c0, .int .i64 ({ prog := [], a := 0, pc := 0, wr := [], lv := [], t := (0, 0, false), pd := 0, x := (0, 0, false, 0), hl := false, seen := [] } : gT).a, .int .i64 ({ prog := [], a := 0, pc := 0, wr := [], lv := [], t := (0, 0, false), pd := 0, x := (0, 0, false, 0), hl := false, seen := [] } : gT).pc, .slice A1 0 c1, .slice A2 0 c2, .int .i64 ({ prog := [], a := 0, pc := 0, wr := [], lv := [], t := (0, 0, false), pd := 0, x := (0, 0, false, 0), hl := false, seen := [] } : gT).t.1, .int .i64 ({ prog := [], a := 0, pc := 0, wr := [], lv := [], t := (0, 0, false), pd := 0, x := (0, 0, false, 0), hl := false, seen := [] } : gT).t.2.1, .bool ({ prog := [], a := 0, pc := 0, wr := [], lv := [], t := (0, 0, false), pd := 0, x := (0, 0, false, 0), hl := false, seen := [] } : gT).t.2.2, .int .i64 ({ prog := [], a := 0, pc := 0, wr := [], lv := [], t := (0, 0, false), pd := 0, x := (0, 0, false, 0), hl := false, seen := [] } : gT).pd, .int .i64 ({ prog := [], a := 0, pc := 0, wr := [], lv := [], t := (0, 0, false), pd := 0, x := (0, 0, false, 0), hl := false, seen := [] } : gT).x.1, .int .i64 ({ prog := [], a := 0, pc := 0, wr := [], lv := [], t := (0, 0, false), pd := 0, x := (0, 0, false, 0), hl := false, seen := [] } : gT).x.2.1, .bool ({ prog := [], a := 0, pc := 0, wr := [], lv := [], t := (0, 0, false), pd := 0, x := (0, 0, false, 0), hl := false, seen := [] } : gT).x.2.2.1, .int .i64 ({ prog := [], a := 0, pc := 0, wr := [], lv := [], t := (0, 0, false), pd := 0, x := (0, 0, false, 0), hl := false, seen := [] } : gT).x.2.2.2, .bool ({ prog := [], a := 0, pc := 0, wr := [], lv := [], t := (0, 0, false), pd := 0, x := (0, 0, false, 0), hl := false, seen := [] } : gT).hl, .slice A3 0 c3]) (fun w S => Kit.open_zero_Guest (St.at_ S 1 rfl).1) ?_
  rintro ⟨z0, z1, z2, z3, d0, d1, d2, d3, rfl⟩
  refine Sx.C.block (Sx.C.seq (Sx.C.region ?_))
  refine Sx.G.p (.int .i64 (i : Int)) ?_
  obtain ⟨b3, f3, es3, eA3, hr3, hl3, hm3⟩ := Sx.old_elem (by decide) h i (by omega)
  subst eA3
  obtain ⟨x3, hx3⟩ : ∃ z_, z_ = (xs[i]'(by omega)) := ⟨_, rfl⟩
  rw [← hx3] at hr3
  have hR3 := hr3
  obtain ⟨P3_0, P3_1, P3_2, P3_3, rfl, hf3_0, hf3_1, hf3_2, hf3_3⟩ := wG_rd hr3
  obtain ⟨A3_0, c3_0, e3_0, -⟩ := lst_val hf3_0
  subst e3_0
  obtain ⟨A3_1, c3_1, e3_1, -⟩ := lst_val hf3_1
  subst e3_1
  obtain ⟨A3_2, c3_2, e3_2, -⟩ := lst_val hf3_2
  subst e3_2
  obtain ⟨A3_3, c3_3, e3_3, -⟩ := lst_val hf3_3
  subst e3_3
  refine Sx.G.elem 27 39 (.tmp 9) (.tmp 11) 15 184 b3 f3 xs.length c i rfl (by kernel_rfl) (by kernel_rfl) (by kernel_rfl) (by kernel_rfl) (by omega) ?_
  refine Sx.G.ldr 39 (.tmp 14) b3 (f3 + i * 15) [.slice A3_0 x3.prog.length c3_0, .int .i64 x3.a, .int .i64 x3.pc, .slice A3_1 x3.wr.length c3_1, .slice A3_2 x3.lv.length c3_2, .int .i64 x3.t.1, .int .i64 x3.t.2.1, .bool x3.t.2.2, .int .i64 x3.pd, .int .i64 x3.x.1, .int .i64 x3.x.2.1, .bool x3.x.2.2.1, .int .i64 x3.x.2.2.2, .bool x3.hl, .slice A3_3 x3.seen.length c3_3] rfl (by kernel_rfl) (by kernel_rfl) (fun w S => hm3 w _ S) (by kernel_rfl) (by kernel_rfl) ?_
  refine Sx.G.ar [.slice none 0 0, .int .i64 0, .int .i64 0, .slice none 0 0, .slice none 0 0, .int .i64 0, .int .i64 0, .bool false, .int .i64 0, .int .i64 0, .int .i64 0, .bool false, .int .i64 0, .bool false, .slice none 0 0] (fun b4 => ?_)
  refine Sx.G.p (.int .i64 (i : Int)) ?_
  refine Sx.G.sw [.slice A3_0 x3.prog.length c3_0, .int .i64 x3.a, .int .i64 x3.pc, .slice A3_1 x3.wr.length c3_1, .slice A3_2 x3.lv.length c3_2, .int .i64 x3.t.1, .int .i64 x3.t.2.1, .bool x3.t.2.2, .int .i64 x3.pd, .int .i64 x3.x.1, .int .i64 x3.x.2.1, .bool x3.x.2.2.1, .int .i64 x3.x.2.2.2, .bool x3.hl, .slice A3_3 x3.seen.length c3_3] .a0 ?_
  refine Sx.G.nil (Sx.E.next (Sx.C.region ?_))
  refine Sx.G.p (.slice (some ⟨b1, 0, none⟩) xs.length xs.length) ?_
  refine Sx.G.p (.int .i64 (i : Int)) ?_
  refine Sx.G.lw .m0 ?_
  refine Sx.G.c 36 #[.agg #[.slice A3_0 x3.prog.length c3_0, .int .i64 x3.a, .int .i64 x3.pc, .slice A3_1 x3.wr.length c3_1, .slice A3_2 x3.lv.length c3_2, .int .i64 x3.t.1, .int .i64 x3.t.2.1, .bool x3.t.2.2, .int .i64 x3.pd, .int .i64 x3.x.1, .int .i64 x3.x.2.1, .bool x3.x.2.2.1, .int .i64 x3.x.2.2.2, .bool x3.hl, .slice A3_3 x3.seen.length c3_3]] (fun w5 S => (implx_another x3 _ _ (hce _ (hx3 ▸ List.getElem_mem _)) (St.old S hR3)).mono fun e w5' hp => ?_)
  obtain ⟨cs, F, rfl, ho, hF, hb⟩ := hp
  obtain ⟨P5_0, P5_1, P5_2, P5_3, G5_0, G5_1, G5_2, G5_3, rfl, -, S'⟩ := wG_open2 (St.got S hb ho hF)
  obtain ⟨A5_0, c5_0, e5_0, -⟩ := lst_val (S'.reads 0 rfl)
  subst e5_0
  obtain ⟨A5_1, c5_1, e5_1, -⟩ := lst_val (S'.reads 1 rfl)
  subst e5_1
  obtain ⟨A5_2, c5_2, e5_2, -⟩ := lst_val (S'.reads 2 rfl)
  subst e5_2
  obtain ⟨A5_3, c5_3, e5_3, -⟩ := lst_val (S'.reads 3 rfl)
  subst e5_3
  refine ⟨_, _, rfl, S', ?_⟩
  clear S S' ho hF hb
  refine Sx.G.elem 27 39 (.tmp 16) (.tmp 17) 15 184 b1 0 xs.length xs.length i rfl (by kernel_rfl) (by kernel_rfl) (by kernel_rfl) (by kernel_rfl) (by omega) ?_
  refine Sx.G.hsto (k := i) (size := 15) 39 (.tmp 20) (.tmp 19) b1 ((0 + i * 15) + 0) 0 5 [.slice A5_0 x3.prog.length c5_0, .int .i64 x3.a, .int .i64 x3.pc, .slice A5_1 x3.wr.length c5_1, .slice A5_2 x3.lv.length c5_2, .int .i64 x3.t.1, .int .i64 x3.t.2.1, .bool x3.t.2.2, .int .i64 x3.pd, .int .i64 x3.x.1, .int .i64 x3.x.2.1, .bool x3.x.2.2.1, .int .i64 x3.x.2.2.2, .bool x3.hl, .slice A5_3 x3.seen.length c5_3] [.slice A5_0 x3.prog.length c5_0, .int .i64 x3.a, .int .i64 x3.pc, .slice A5_1 x3.wr.length c5_1, .slice A5_2 x3.lv.length c5_2, .int .i64 x3.t.1, .int .i64 x3.t.2.1, .bool x3.t.2.2, .int .i64 x3.pd, .int .i64 x3.x.1, .int .i64 x3.x.2.1, .bool x3.x.2.2.1, .int .i64 x3.x.2.2.2, .bool x3.hl, .slice A5_3 x3.seen.length c5_3] [ow (rLsw (rPair rInt rInt)) w5.heap.size w5'.heap.size x3.prog [.slice A5_0 x3.prog.length c5_0] G5_0, ow (rLsw (rPair rInt rInt)) w5.heap.size w5'.heap.size x3.wr [.slice A5_1 x3.wr.length c5_1] G5_1, ow (rLsw (rPair rInt rInt)) w5.heap.size w5'.heap.size x3.lv [.slice A5_2 x3.lv.length c5_2] G5_2, ow (rLsw rInt) w5.heap.size w5'.heap.size x3.seen [.slice A5_3 x3.seen.length c5_3] G5_3, vr b4 [.slice A3_0 x3.prog.length c3_0, .int .i64 x3.a, .int .i64 x3.pc, .slice A3_1 x3.wr.length c3_1, .slice A3_2 x3.lv.length c3_2, .int .i64 x3.t.1, .int .i64 x3.t.2.1, .bool x3.t.2.2, .int .i64 x3.pd, .int .i64 x3.x.1, .int .i64 x3.x.2.1, .bool x3.x.2.2.1, .int .i64 x3.x.2.2.2, .bool x3.hl, .slice A3_3 x3.seen.length c3_3], Sx.hole wG b1 0 w.heap.size hi (xs.take i) (List.replicate (xs.length - (i + 1)) ({ prog := [], a := 0, pc := 0, wr := [], lv := [], t := (0, 0, false), pd := 0, x := (0, 0, false, 0), hl := false, seen := [] } : gT)) [.slice A5_0 x3.prog.length c5_0, .int .i64 x3.a, .int .i64 x3.pc, .slice A5_1 x3.wr.length c5_1, .slice A5_2 x3.lv.length c5_2, .int .i64 x3.t.1, .int .i64 x3.t.2.1, .bool x3.t.2.2, .int .i64 x3.pd, .int .i64 x3.x.1, .int .i64 x3.x.2.1, .bool x3.x.2.2.1, .int .i64 x3.x.2.2.2, .bool x3.hl, .slice A5_3 x3.seen.length c5_3] F1 F2, ow wG w.heap.size hi ({ prog := [], a := 0, pc := 0, wr := [], lv := [], t := (0, 0, false), pd := 0, x := (0, 0, false, 0), hl := false, seen := [] } : gT) [.slice z0 0 d0, .int .i64 ({ prog := [], a := 0, pc := 0, wr := [], lv := [], t := (0, 0, false), pd := 0, x := (0, 0, false, 0), hl := false, seen := [] } : gT).a, .int .i64 ({ prog := [], a := 0, pc := 0, wr := [], lv := [], t := (0, 0, false), pd := 0, x := (0, 0, false, 0), hl := false, seen := [] } : gT).pc, .slice z1 0 d1, .slice z2 0 d2, .int .i64 ({ prog := [], a := 0, pc := 0, wr := [], lv := [], t := (0, 0, false), pd := 0, x := (0, 0, false, 0), hl := false, seen := [] } : gT).t.1, .int .i64 ({ prog := [], a := 0, pc := 0, wr := [], lv := [], t := (0, 0, false), pd := 0, x := (0, 0, false, 0), hl := false, seen := [] } : gT).t.2.1, .bool ({ prog := [], a := 0, pc := 0, wr := [], lv := [], t := (0, 0, false), pd := 0, x := (0, 0, false, 0), hl := false, seen := [] } : gT).t.2.2, .int .i64 ({ prog := [], a := 0, pc := 0, wr := [], lv := [], t := (0, 0, false), pd := 0, x := (0, 0, false, 0), hl := false, seen := [] } : gT).pd, .int .i64 ({ prog := [], a := 0, pc := 0, wr := [], lv := [], t := (0, 0, false), pd := 0, x := (0, 0, false, 0), hl := false, seen := [] } : gT).x.1, .int .i64 ({ prog := [], a := 0, pc := 0, wr := [], lv := [], t := (0, 0, false), pd := 0, x := (0, 0, false, 0), hl := false, seen := [] } : gT).x.2.1, .bool ({ prog := [], a := 0, pc := 0, wr := [], lv := [], t := (0, 0, false), pd := 0, x := (0, 0, false, 0), hl := false, seen := [] } : gT).x.2.2.1, .int .i64 ({ prog := [], a := 0, pc := 0, wr := [], lv := [], t := (0, 0, false), pd := 0, x := (0, 0, false, 0), hl := false, seen := [] } : gT).x.2.2.2, .bool ({ prog := [], a := 0, pc := 0, wr := [], lv := [], t := (0, 0, false), pd := 0, x := (0, 0, false, 0), hl := false, seen := [] } : gT).hl, .slice z3 0 d3] Fi] rfl (by kernel_rfl) (by kernel_rfl) (by kernel_rfl) rfl (by rw [List.length_take]; omega) rfl rfl rfl rfl (by kernel_rfl) (by kernel_rfl) (by kernel_rfl) ?_
  refine Sx.G.nil (Sx.E.block_normal (Sx.E.next (Sx.C.region ?_)))
  refine Sx.G.q (.int .i64 (IntKind.i64.wrap ((i : Int) + 1))) (.int .i64 ((i + 1 : Nat) : Int)) (congrArg (Value.int .i64) (Sx.wrap_up i (by omega))) ?_
  refine Sx.G.p (.int .i64 ((i + 1 : Nat) : Int)) ?_
  refine Sx.G.nil ?_
  exact Sx.E.again (i + 1, max hi w5'.heap.size, _) (show i + 1 ≤ xs.length by omega) (show xs.length - (i + 1) < xs.length - i by omega) (fun a hA => (Sx.Ag.and hA (Sx.Ag.and hA (Sx.Ag.and hA (Sx.Ag.and hA (Sx.Ag.and hA (Sx.Ag.none hA) _ _ (by kernel_rfl)) _ _ (by kernel_rfl)) _ _ (by kernel_rfl)) _ _ (by kernel_rfl)) _ _ (by kernel_rfl))) (fun w' S => by
   replace S := wG_shut2 (g := x3) S
   replace S := St.pick S [2, 0] [_, _] rfl (by decide)
   have S3 := Sx.St.closeW S (by decide) xs.length xs.length (by simp [List.length_take]; omega) hmc
   rw [hx3] at S3
   rw [show xs.take i ++ xs[i] :: List.replicate (xs.length - (i + 1)) ({ prog := [], a := 0, pc := 0, wr := [], lv := [], t := (0, 0, false), pd := 0, x := (0, 0, false, 0), hl := false, seen := [] } : gT) = xs.take (i + 1) ++ List.replicate (xs.length - (i + 1)) ({ prog := [], a := 0, pc := 0, wr := [], lv := [], t := (0, 0, false), pd := 0, x := (0, 0, false, 0), hl := false, seen := [] } : gT) by rw [Kit.take_step hlt, List.append_assoc]; rfl] at S3
   exact S3
   )
theorem implx_copybare (x : bT) (cs : List Value) (w : World) (hc : wB.cap x) (h : wB.rd w 0 w.heap.size x cs) : Calls Tryz.prog 34 #[.agg cs.toArray] w (Gives rB w x) := by
 obtain ⟨hcap0, hcap1, hcap2, hcap3⟩ := hc
 have hlo : x.outs.length ≤ 1048576 := hcap2.1
 have hR := h
 obtain ⟨hP0, hP1, hP2, rfl, hf0, hf1, hf2⟩ := wB_rd h
 obtain ⟨hA0, hK0, he0, -⟩ := lst_val hf0
 subst he0
 obtain ⟨hA1, hK1, he1, -⟩ := lst_val hf1
 subst he1
 obtain ⟨hA2, hK2, he2, -⟩ := lst_val hf2
 subst he2
 refine Sx.enter (args := [.agg #[.slice hA0 x.mem.length hK0, .slice hA1 x.gs.length hK1, .slice hA2 x.outs.length hK2, .int .i64 x.pd]]) Tryz.func34 rfl Tryz.ntmps34 rfl ?_
 refine Sx.C.seq (Sx.C.region ?_)
 refine Sx.G.b [.slice hA0 x.mem.length hK0, .slice hA1 x.gs.length hK1, .slice hA2 x.outs.length hK2, .int .i64 x.pd] (fun b1 => ?_)
 refine Sx.G.ar [.slice none 0 0, .slice none 0 0, .slice none 0 0, .int .i64 0] (fun b2 => ?_)
 refine Sx.G.nil (Sx.E.next (Sx.C.seq ?_))
 refine Sx.C.draw (.take 0 (.take 1 (.take 3 (.take 4 (.take 6 (.take 7 (.take 9 (.take 10 (.alone 2 (.alone 5 (.alone 8 (.take 11 (.alone 12 .nil))))))))))))) [vr b1 [.slice hA0 x.mem.length hK0, .slice hA1 x.gs.length hK1, .slice hA2 x.outs.length hK2, .int .i64 x.pd]] (fun w S => St.pick S [1] _ rfl (by decide)) (by kernel_rfl) (by kernel_rfl) (by kernel_rfl) ?_
 refine Sx.GT.p (.pointer (some ⟨b1, 0, none⟩)) ?_
 refine Sx.GT.g (.slice hA0 x.mem.length hK0) .m0 .m0 ?_
 refine Sx.GT.p (.pointer (some ⟨b1, 1, none⟩)) ?_
 refine Sx.GT.g (.slice hA1 x.gs.length hK1) .m0 .m1 ?_
 refine Sx.GT.p (.pointer (some ⟨b1, 2, none⟩)) ?_
 refine Sx.GT.g (.slice hA2 x.outs.length hK2) .m0 .m2 ?_
 refine Sx.GT.p (.pointer (some ⟨b1, 3, none⟩)) ?_
 refine Sx.GT.g (.int .i64 x.pd) .m0 .m3 ?_
 refine Sx.GT.alone (Sx.Alone.c 75 #[.slice hA0 x.mem.length hK0] (fun w3 S => (implx_copymem x.mem hA0 hK0 _ hcap0 (St.old (r := (rLsw (rLsw rInt))) S hf0)).mono fun e w3' hp => ?_))
 obtain ⟨cs, F, rfl, ho, hF, hb⟩ := hp
 obtain ⟨u3, rfl⟩ := lsw_own ho
 obtain ⟨A3, c3, e3, -⟩ := lst_val ((rLsw _).reads ho)
 subst e3
 generalize F = F3 at ho hF
 refine ⟨_, _, rfl, (St.got S hb ho hF), (fun w S => St.pick S [2] _ rfl (by decide)), ?_⟩
 clear S hb ho hF
 refine Sx.GT.alone (Sx.Alone.c 76 #[.slice hA1 x.gs.length hK1] (fun w4 S => (implx_copyguests x.gs hA1 hK1 _ hcap1 (St.old (r := (rLsw wG)) S hf1)).mono fun e w4' hp => ?_))
 obtain ⟨cs, F, rfl, ho, hF, hb⟩ := hp
 obtain ⟨u4, rfl⟩ := lsw_own ho
 obtain ⟨A4, c4, e4, -⟩ := lst_val ((rLsw _).reads ho)
 subst e4
 generalize F = F4 at ho hF
 refine ⟨_, _, rfl, (St.got S hb ho hF), (fun w S => St.pick S [3] _ rfl (by decide)), ?_⟩
 clear S hb ho hF
 refine Sx.GT.alone (Sx.Alone.c 77 #[.slice hA2 x.outs.length hK2] (fun w5 S => (Guests.lib_cloneInt x.outs hA2 hK2 _ hlo (St.old (r := (rLsw rInt)) S hf2)).mono fun e w5' hp => ?_))
 obtain ⟨cs, F, rfl, ho, hF, hb⟩ := hp
 obtain ⟨u5, rfl⟩ := lst_own ho
 obtain ⟨A5, c5, e5, -⟩ := lst_val ((St.got S hb ho hF).reads 0 rfl)
 subst e5
 generalize F = F5 at ho hF
 refine ⟨_, _, rfl, (St.got S hb ho hF), (fun w S => St.pick S [4] _ rfl (by decide)), ?_⟩
 clear S hb ho hF
 refine Sx.GT.p (.agg #[.slice A3 x.mem.length c3, .slice A4 x.gs.length c4, .slice A5 x.outs.length c5, .int .i64 x.pd]) ?_
 refine Sx.GT.alone (Sx.Alone.sw [.slice A3 x.mem.length c3, .slice A4 x.gs.length c4, .slice A5 x.outs.length c5, .int .i64 x.pd] .a3 (fun w S => St.pick S [4] _ rfl (by decide)) ?_)
 refine Sx.GT.nil (Sx.E.next (Sx.C.ret ?_))
 refine Sx.E.retc b2 3 [.slice A3 x.mem.length c3, .slice A4 x.gs.length c4, .slice A5 x.outs.length c5, .int .i64 x.pd] rfl (by kernel_rfl) rfl (by kernel_rfl) (by kernel_rfl) (fun w S => ?_)
 obtain ⟨ho, hF⟩ := rB_shut (g := x) S 2 rfl 1 rfl 0 rfl (by decide) (by decide) (by decide)
 exact ⟨_, _, rfl, ho, hF, S.below⟩
theorem implx_bI (A : Option Addr) (n c : Nat) (w : World)  : Calls Tryz.prog 48 #[.slice A n c] w (fun e w' => e = .returned (.agg #[.slice A n c, .int .i64 40]) ∧ Below w.heap.size w w') := by
 refine Sx.enter (args := [.slice A n c]) Tryz.func48 rfl Tryz.ntmps48 rfl ?_
 refine Sx.C.seq (Sx.C.region ?_)
 refine Sx.G.ar [.slice none 0 0, .int .i64 0] (fun b1 => ?_)
 refine Sx.G.nil (Sx.E.next (Sx.C.seq (Sx.C.region ?_)))
 refine Sx.G.p (.slice A n c) ?_
 refine Sx.G.p (.agg #[.slice A n c, .int .i64 40]) ?_
 refine Sx.G.sw [.slice A n c, .int .i64 40] .a0 ?_
 refine Sx.G.nil (Sx.E.next (Sx.C.ret ?_))
 refine Sx.E.retc b1 0 [.slice A n c, .int .i64 40] rfl (by kernel_rfl) rfl (by kernel_rfl) (by kernel_rfl) (fun w S => ?_)
 exact ⟨rfl, S.below⟩
theorem implx_okI (A : Option Addr) (n c : Nat) (m : Int) (w : World)  : Calls Tryz.prog 56 #[.agg #[.slice A n c, .int .i64 m]] w (fun e w' => e = .returned (.bool (decide (((n : Nat) : Int) ≤ m))) ∧ Below w.heap.size w w') := by
 refine Sx.enter (args := [.agg #[.slice A n c, .int .i64 m]]) Tryz.func56 rfl Tryz.ntmps56 rfl ?_
 refine Sx.C.seq (Sx.C.region ?_)
 refine Sx.G.b [.slice A n c, .int .i64 m] (fun b1 => ?_)
 refine Sx.G.p (.bool false) ?_
 refine Sx.G.nil (Sx.E.next (Sx.C.seq (Sx.C.region ?_)))
 refine Sx.G.p (.pointer (some ⟨b1, 0, none⟩)) ?_
 refine Sx.G.g (.slice A n c) .m0 .m0 ?_
 refine Sx.G.p (.int .i64 ((n : Nat) : Int)) ?_
 refine Sx.G.p (.pointer (some ⟨b1, 1, none⟩)) ?_
 refine Sx.G.g (.int .i64 m) .m0 .m1 ?_
 refine Sx.G.p (.bool (decide (((n : Nat) : Int) ≤ m))) ?_
 refine Sx.G.p (.bool (decide (((n : Nat) : Int) ≤ m))) ?_
 refine Sx.G.nil (Sx.E.next (Sx.C.ret ?_))
 refine Sx.E.ret1 (.bool (decide (((n : Nat) : Int) ≤ m))) rfl (by kernel_rfl) (fun w S => ?_)
 exact ⟨rfl, S.below⟩
theorem implx_bG (A : Option Addr) (n c : Nat) (w : World)  : Calls Tryz.prog 64 #[.slice A n c] w (fun e w' => e = .returned (.agg #[.slice A n c, .int .i64 2]) ∧ Below w.heap.size w w') := by
 refine Sx.enter (args := [.slice A n c]) Tryz.func64 rfl Tryz.ntmps64 rfl ?_
 refine Sx.C.seq (Sx.C.region ?_)
 refine Sx.G.ar [.slice none 0 0, .int .i64 0] (fun b1 => ?_)
 refine Sx.G.nil (Sx.E.next (Sx.C.seq (Sx.C.region ?_)))
 refine Sx.G.p (.slice A n c) ?_
 refine Sx.G.p (.agg #[.slice A n c, .int .i64 2]) ?_
 refine Sx.G.sw [.slice A n c, .int .i64 2] .a0 ?_
 refine Sx.G.nil (Sx.E.next (Sx.C.ret ?_))
 refine Sx.E.retc b1 0 [.slice A n c, .int .i64 2] rfl (by kernel_rfl) rfl (by kernel_rfl) (by kernel_rfl) (fun w S => ?_)
 exact ⟨rfl, S.below⟩
theorem implx_okG (A : Option Addr) (n c : Nat) (m : Int) (w : World)  : Calls Tryz.prog 89 #[.agg #[.slice A n c, .int .i64 m]] w (fun e w' => e = .returned (.bool (decide (((n : Nat) : Int) ≤ m))) ∧ Below w.heap.size w w') := by
 refine Sx.enter (args := [.agg #[.slice A n c, .int .i64 m]]) Tryz.func89 rfl Tryz.ntmps89 rfl ?_
 refine Sx.C.seq (Sx.C.region ?_)
 refine Sx.G.b [.slice A n c, .int .i64 m] (fun b1 => ?_)
 refine Sx.G.p (.bool false) ?_
 refine Sx.G.nil (Sx.E.next (Sx.C.seq (Sx.C.region ?_)))
 refine Sx.G.p (.pointer (some ⟨b1, 0, none⟩)) ?_
 refine Sx.G.g (.slice A n c) .m0 .m0 ?_
 refine Sx.G.p (.int .i64 ((n : Nat) : Int)) ?_
 refine Sx.G.p (.pointer (some ⟨b1, 1, none⟩)) ?_
 refine Sx.G.g (.int .i64 m) .m0 .m1 ?_
 refine Sx.G.p (.bool (decide (((n : Nat) : Int) ≤ m))) ?_
 refine Sx.G.p (.bool (decide (((n : Nat) : Int) ≤ m))) ?_
 refine Sx.G.nil (Sx.E.next (Sx.C.ret ?_))
 refine Sx.E.ret1 (.bool (decide (((n : Nat) : Int) ≤ m))) rfl (by kernel_rfl) (fun w S => ?_)
 exact ⟨rfl, S.below⟩
def addB {α : Type} (xs : List α) (m : Int) (x : α) : List α := if ((xs.length : Nat) : Int) < m then xs ++ [x] else xs
theorem addB_take {α : Type} (l : List α) (x : α) : addB (l.take 2) 2 x = (l ++ [x]).take 2 := by
 unfold addB
 rw [List.take_append, List.length_take]
 split
 ·
  rw [show 2 - l.length = (1 - l.length) + 1 by omega, List.take_succ_cons]; simp
 ·
  rw [show 2 - l.length = 0 by omega]; simp
theorem implx_addI {w0 w : World} {b : Nat} {R : List Res} (xs : List Int) (x : Int) (m : Int) (A : Option Addr) (c lo hi : Nat) (F : List Nat) (hl : xs.length ≤ 1048577) (S : St w0 w (vr b [.slice A xs.length c, .int .i64 m] :: ow (rLst 3 rInt) lo hi xs [.slice A xs.length c] F :: R)) : Calls Tryz.prog 49 #[.pointer (some ⟨b, 0, none⟩), .int .i64 x] w fun e w' => e = .returned (.tuple #[]) ∧ ∃ A c lo hi F, St w0 w' (vr b [.slice A (addB xs m x).length c, .int .i64 m] :: ow (rLst 3 rInt) lo hi (addB xs m x) [.slice A (addB xs m x).length c] F :: R) := by
 have hlx : xs.length ≤ 1048577 := hl
 refine Sx.enterS (args := [.pointer (some ⟨b, 0, none⟩), .int .i64 x]) S Tryz.func49 rfl Tryz.ntmps49 rfl ?_
 refine Sx.C.seq ?_
 refine Sx.C.draw (.take 0 (.take 1 (.take 2 (.take 3 (.take 4 (.take 5 (.take 6 (.take 7 (.take 8 (.take 9 .nil)))))))))) [vr b [.slice A xs.length c, .int .i64 m]] (fun w S => St.pick S [0] _ rfl (by decide)) (by kernel_rfl) (by kernel_rfl) (by kernel_rfl) ?_
 refine Sx.GT.p (.pointer (some ⟨b, 0, none⟩)) ?_
 refine Sx.GT.p (.pointer (some ⟨b, 0, none⟩)) ?_
 refine Sx.GT.p (.pointer (some ⟨b, 0, none⟩)) ?_
 refine Sx.GT.g (.slice A xs.length c) .m0 .m0 ?_
 refine Sx.GT.p (.int .i64 ((xs.length : Nat) : Int)) ?_
 refine Sx.GT.p (.pointer (some ⟨b, 0, none⟩)) ?_
 refine Sx.GT.p (.pointer (some ⟨b, 0, none⟩)) ?_
 refine Sx.GT.p (.pointer (some ⟨b, 1, none⟩)) ?_
 refine Sx.GT.g (.int .i64 m) .m0 .m1 ?_
 refine Sx.GT.p (.bool (decide (((xs.length : Nat) : Int) < m))) ?_
 refine Sx.GT.nil (Sx.E.next ?_)
 cases hc21 : (decide (((xs.length : Nat) : Int) < m))
 ·
  have hb21 := hc21
  replace hc21 := of_decide_eq_false hc21
  refine Sx.C.no (by kernel_rfl) (by kernel_rfl) ?_
  refine Sx.C.skip (Sx.E.end_ ?_)
  refine Sx.E.ret0 rfl (fun w S => ?_)
  rw [show addB xs m x = xs from if_neg (by omega)]
  exact ⟨rfl, _, _, _, _, _, Sx.St.pickT [vr b [.slice A xs.length c, .int .i64 m], ow (rLst 3 rInt) lo hi xs [.slice A xs.length c] F] [_, _] S [0, 1] rfl (by decide)⟩
 ·
  have hb21 := hc21
  replace hc21 := of_decide_eq_true hc21
  refine Sx.C.yes (by kernel_rfl) (by kernel_rfl) ?_
  refine Sx.C.region ?_
  refine Sx.G.p (.pointer (some ⟨b, 0, none⟩)) ?_
  refine Sx.G.p (.pointer (some ⟨b, 0, none⟩)) ?_
  refine Sx.G.p (.pointer (some ⟨b, 0, none⟩)) ?_
  refine Sx.G.p (.pointer (some ⟨b, 0, none⟩)) ?_
  refine Sx.G.g (.slice A xs.length c) .m0 .m0 ?_
  refine Sx.G.p (.int .i64 x) ?_
  refine Sx.G.made 3 [.int .i64 x] 1 (by kernel_rfl) (fun w => by kernel_rfl) (fun b22 => ?_)
  refine Sx.G.apps 2 rfl (xs ++ [x]) (fun w S => S.box 0 rfl rfl 1 (Nat.le_refl _)) rfl ((xs ++ [x]).length) (by simp) flat_int (.tmp 18) (.tmp 20) 28 1 8 rfl rfl (by kernel_rfl) (by kernel_rfl) rfl (by kernel_rfl) (by kernel_rfl) (by simp only [maxLen, List.length_append, List.length_cons, List.length_nil]; omega) (by simp only [List.length_append, List.length_cons, List.length_nil]; omega) (fun A23 c23 F23 hi23 hm23 => ?_)
  refine Sx.G.p (.pointer (some ⟨b, 0, none⟩)) ?_
  refine Sx.G.p (.pointer (some ⟨b, 0, none⟩)) ?_
  refine Sx.G.s (.slice A23 ((xs ++ [x]).length) c23) .a1 .a0 ?_
  refine Sx.G.nil (Sx.E.end_ ?_)
  refine Sx.E.ret0 rfl (fun w S => ?_)
  rw [show addB xs m x = xs ++ [x] from if_pos (by omega)]
  exact ⟨rfl, _, _, _, _, _, Sx.St.pickT [vr b22 [.int .i64 x], vr b [.slice A23 ((xs ++ [x]).length) c23, .int .i64 m], ow (rLst 3 rInt) w0.heap.size hi23 (xs ++ [x]) [.slice A23 ((xs ++ [x]).length) c23] F23] [_, _] S [1, 2] rfl (by decide)⟩
theorem implx_addG {w0 w : World} {b : Nat} {R : List Res} (xs : List gT) (x : gT) (m : Int) (A : Option Addr) (c lo hi : Nat) (F : List Nat) (A0 A1 A2 A3 : Option Addr) (c0 c1 c2 c3 : Nat) (lo2 hi2 : Nat) (G : List Nat) (hl : xs.length ≤ 1048577) (S : St w0 w (vr b [.slice A xs.length c, .int .i64 m] :: ow (rLst 39 wG) lo hi xs [.slice A xs.length c] F :: ow wG lo2 hi2 x [.slice A0 x.prog.length c0, .int .i64 x.a, .int .i64 x.pc, .slice A1 x.wr.length c1, .slice A2 x.lv.length c2, .int .i64 x.t.1, .int .i64 x.t.2.1, .bool x.t.2.2, .int .i64 x.pd, .int .i64 x.x.1, .int .i64 x.x.2.1, .bool x.x.2.2.1, .int .i64 x.x.2.2.2, .bool x.hl, .slice A3 x.seen.length c3] G :: R)) : Calls Tryz.prog 65 #[.pointer (some ⟨b, 0, none⟩), .agg #[.slice A0 x.prog.length c0, .int .i64 x.a, .int .i64 x.pc, .slice A1 x.wr.length c1, .slice A2 x.lv.length c2, .int .i64 x.t.1, .int .i64 x.t.2.1, .bool x.t.2.2, .int .i64 x.pd, .int .i64 x.x.1, .int .i64 x.x.2.1, .bool x.x.2.2.1, .int .i64 x.x.2.2.2, .bool x.hl, .slice A3 x.seen.length c3]] w fun e w' => e = .returned (.tuple #[]) ∧ ∃ A c lo hi F, St w0 w' (vr b [.slice A (addB xs m x).length c, .int .i64 m] :: ow (rLst 39 wG) lo hi (addB xs m x) [.slice A (addB xs m x).length c] F :: R) := by
 have hlx : xs.length ≤ 1048577 := hl
 refine Sx.enterS (args := [.pointer (some ⟨b, 0, none⟩), .agg #[.slice A0 x.prog.length c0, .int .i64 x.a, .int .i64 x.pc, .slice A1 x.wr.length c1, .slice A2 x.lv.length c2, .int .i64 x.t.1, .int .i64 x.t.2.1, .bool x.t.2.2, .int .i64 x.pd, .int .i64 x.x.1, .int .i64 x.x.2.1, .bool x.x.2.2.1, .int .i64 x.x.2.2.2, .bool x.hl, .slice A3 x.seen.length c3]]) S Tryz.func65 rfl Tryz.ntmps65 rfl ?_
 refine Sx.C.seq (Sx.C.region ?_)
 refine Sx.G.b [.slice A0 x.prog.length c0, .int .i64 x.a, .int .i64 x.pc, .slice A1 x.wr.length c1, .slice A2 x.lv.length c2, .int .i64 x.t.1, .int .i64 x.t.2.1, .bool x.t.2.2, .int .i64 x.pd, .int .i64 x.x.1, .int .i64 x.x.2.1, .bool x.x.2.2.1, .int .i64 x.x.2.2.2, .bool x.hl, .slice A3 x.seen.length c3] (fun b21 => ?_)
 refine Sx.G.nil (Sx.E.next (Sx.C.seq ?_))
 refine Sx.C.draw (.take 0 (.take 1 (.take 2 (.take 3 (.take 4 (.take 5 (.take 6 (.take 7 (.take 8 (.take 9 .nil)))))))))) [vr b [.slice A xs.length c, .int .i64 m]] (fun w S => St.pick S [1] _ rfl (by decide)) (by kernel_rfl) (by kernel_rfl) (by kernel_rfl) ?_
 refine Sx.GT.p (.pointer (some ⟨b, 0, none⟩)) ?_
 refine Sx.GT.p (.pointer (some ⟨b, 0, none⟩)) ?_
 refine Sx.GT.p (.pointer (some ⟨b, 0, none⟩)) ?_
 refine Sx.GT.g (.slice A xs.length c) .m0 .m0 ?_
 refine Sx.GT.p (.int .i64 ((xs.length : Nat) : Int)) ?_
 refine Sx.GT.p (.pointer (some ⟨b, 0, none⟩)) ?_
 refine Sx.GT.p (.pointer (some ⟨b, 0, none⟩)) ?_
 refine Sx.GT.p (.pointer (some ⟨b, 1, none⟩)) ?_
 refine Sx.GT.g (.int .i64 m) .m0 .m1 ?_
 refine Sx.GT.p (.bool (decide (((xs.length : Nat) : Int) < m))) ?_
 refine Sx.GT.nil (Sx.E.next ?_)
 cases hc22 : (decide (((xs.length : Nat) : Int) < m))
 ·
  have hb22 := hc22
  replace hc22 := of_decide_eq_false hc22
  refine Sx.C.no (by kernel_rfl) (by kernel_rfl) ?_
  refine Sx.C.skip (Sx.E.end_ ?_)
  refine Sx.E.ret0 rfl (fun w S => ?_)
  rw [show addB xs m x = xs from if_neg (by omega)]
  exact ⟨rfl, _, _, _, _, _, Sx.St.pickT [vr b21 [.slice A0 x.prog.length c0, .int .i64 x.a, .int .i64 x.pc, .slice A1 x.wr.length c1, .slice A2 x.lv.length c2, .int .i64 x.t.1, .int .i64 x.t.2.1, .bool x.t.2.2, .int .i64 x.pd, .int .i64 x.x.1, .int .i64 x.x.2.1, .bool x.x.2.2.1, .int .i64 x.x.2.2.2, .bool x.hl, .slice A3 x.seen.length c3], vr b [.slice A xs.length c, .int .i64 m], ow (rLst 39 wG) lo hi xs [.slice A xs.length c] F, ow wG lo2 hi2 x [.slice A0 x.prog.length c0, .int .i64 x.a, .int .i64 x.pc, .slice A1 x.wr.length c1, .slice A2 x.lv.length c2, .int .i64 x.t.1, .int .i64 x.t.2.1, .bool x.t.2.2, .int .i64 x.pd, .int .i64 x.x.1, .int .i64 x.x.2.1, .bool x.x.2.2.1, .int .i64 x.x.2.2.2, .bool x.hl, .slice A3 x.seen.length c3] G] [_, _] S [1, 2] rfl (by decide)⟩
 ·
  have hb22 := hc22
  replace hc22 := of_decide_eq_true hc22
  refine Sx.C.yes (by kernel_rfl) (by kernel_rfl) ?_
  refine Sx.C.cut (fun e a w' => e = .normal ∧ ∃ (Y0 : Nat) (Y1 : Option Addr) (Y2 : Nat) (Y3 : List Nat) (Y4 : Nat), Sx.Ag 24 [] a ∧ St w0 w' (ow (rLst 39 wG) w0.heap.size Y4 ((xs ++ [x])) [.slice Y1 (xs ++ [x]).length Y2] Y3 :: vr b21 [.slice A0 x.prog.length c0, .int .i64 x.a, .int .i64 x.pc, .slice A1 x.wr.length c1, .slice A2 x.lv.length c2, .int .i64 x.t.1, .int .i64 x.t.2.1, .bool x.t.2.2, .int .i64 x.pd, .int .i64 x.x.1, .int .i64 x.x.2.1, .bool x.x.2.2.1, .int .i64 x.x.2.2.2, .bool x.hl, .slice A3 x.seen.length c3] :: vr b [.slice Y1 (xs ++ [x]).length Y2, .int .i64 m] :: R)) ?_ ?_
  ·
   refine Sx.C.draw (.take 0 (.take 1 (.take 2 (.take 3 (.take 5 (.two 4 (.alone 6 (.alone 7 (.take 8 (.take 9 (.alone 10 .nil))))) 6 (.alone 4 (.alone 7 (.take 8 (.take 9 (.alone 10 .nil))))))))))) [vr b21 [.slice A0 x.prog.length c0, .int .i64 x.a, .int .i64 x.pc, .slice A1 x.wr.length c1, .slice A2 x.lv.length c2, .int .i64 x.t.1, .int .i64 x.t.2.1, .bool x.t.2.2, .int .i64 x.pd, .int .i64 x.x.1, .int .i64 x.x.2.1, .bool x.x.2.2.1, .int .i64 x.x.2.2.2, .bool x.hl, .slice A3 x.seen.length c3]] (fun w S => St.pick S [0] _ rfl (by decide)) (by kernel_rfl) (by kernel_rfl) (by kernel_rfl) ?_
   refine Sx.GT.p (.pointer (some ⟨b, 0, none⟩)) ?_
   refine Sx.GT.p (.pointer (some ⟨b, 0, none⟩)) ?_
   refine Sx.GT.p (.pointer (some ⟨b, 0, none⟩)) ?_
   refine Sx.GT.p (.pointer (some ⟨b, 0, none⟩)) ?_
   refine Sx.GT.lw .m0 ?_
   refine Sx.GT.two ?_ ?_
   ·
    refine Sx.Alone.g (.slice A xs.length c) .m1 .m0 (fun w S => St.pick S [0] _ rfl (by decide)) ?_
    refine Sx.GT.alone (Sx.Alone.made 39 [.slice A0 x.prog.length c0, .int .i64 x.a, .int .i64 x.pc, .slice A1 x.wr.length c1, .slice A2 x.lv.length c2, .int .i64 x.t.1, .int .i64 x.t.2.1, .bool x.t.2.2, .int .i64 x.pd, .int .i64 x.x.1, .int .i64 x.x.2.1, .bool x.x.2.2.1, .int .i64 x.x.2.2.2, .bool x.hl, .slice A3 x.seen.length c3] 1 (by rfl) (by kernel_rfl) (fun w => by kernel_rfl) (fun w S => St.pick S [0] _ rfl (by decide)) (fun b23 => ?_))
    refine Sx.GT.claims (L' := (ow (rLst 39 wG) lo hi xs [.slice A xs.length c] F :: ow wG lo2 hi2 x [.slice A0 x.prog.length c0, .int .i64 x.a, .int .i64 x.pc, .slice A1 x.wr.length c1, .slice A2 x.lv.length c2, .int .i64 x.t.1, .int .i64 x.t.2.1, .bool x.t.2.2, .int .i64 x.pd, .int .i64 x.x.1, .int .i64 x.x.2.1, .bool x.x.2.2.1, .int .i64 x.x.2.2.2, .bool x.hl, .slice A3 x.seen.length c3] G :: vr b23 [.slice A0 x.prog.length c0, .int .i64 x.a, .int .i64 x.pc, .slice A1 x.wr.length c1, .slice A2 x.lv.length c2, .int .i64 x.t.1, .int .i64 x.t.2.1, .bool x.t.2.2, .int .i64 x.pd, .int .i64 x.x.1, .int .i64 x.x.2.1, .bool x.x.2.2.1, .int .i64 x.x.2.2.2, .bool x.hl, .slice A3 x.seen.length c3] :: vr b21 [.slice A0 x.prog.length c0, .int .i64 x.a, .int .i64 x.pc, .slice A1 x.wr.length c1, .slice A2 x.lv.length c2, .int .i64 x.t.1, .int .i64 x.t.2.1, .bool x.t.2.2, .int .i64 x.pd, .int .i64 x.x.1, .int .i64 x.x.2.1, .bool x.x.2.2.1, .int .i64 x.x.2.2.2, .bool x.hl, .slice A3 x.seen.length c3] :: vr b [.slice A xs.length c, .int .i64 m] :: R)) (fun w S => Sx.St.pickT [vr b23 [.slice A0 x.prog.length c0, .int .i64 x.a, .int .i64 x.pc, .slice A1 x.wr.length c1, .slice A2 x.lv.length c2, .int .i64 x.t.1, .int .i64 x.t.2.1, .bool x.t.2.2, .int .i64 x.pd, .int .i64 x.x.1, .int .i64 x.x.2.1, .bool x.x.2.2.1, .int .i64 x.x.2.2.2, .bool x.hl, .slice A3 x.seen.length c3], vr b21 [.slice A0 x.prog.length c0, .int .i64 x.a, .int .i64 x.pc, .slice A1 x.wr.length c1, .slice A2 x.lv.length c2, .int .i64 x.t.1, .int .i64 x.t.2.1, .bool x.t.2.2, .int .i64 x.pd, .int .i64 x.x.1, .int .i64 x.x.2.1, .bool x.x.2.2.1, .int .i64 x.x.2.2.2, .bool x.hl, .slice A3 x.seen.length c3], vr b [.slice A xs.length c, .int .i64 m], ow (rLst 39 wG) lo hi xs [.slice A xs.length c] F, ow wG lo2 hi2 x [.slice A0 x.prog.length c0, .int .i64 x.a, .int .i64 x.pc, .slice A1 x.wr.length c1, .slice A2 x.lv.length c2, .int .i64 x.t.1, .int .i64 x.t.2.1, .bool x.t.2.2, .int .i64 x.pd, .int .i64 x.x.1, .int .i64 x.x.2.1, .bool x.x.2.2.1, .int .i64 x.x.2.2.2, .bool x.hl, .slice A3 x.seen.length c3] G] [ow (rLst 39 wG) lo hi xs [.slice A xs.length c] F, ow wG lo2 hi2 x [.slice A0 x.prog.length c0, .int .i64 x.a, .int .i64 x.pc, .slice A1 x.wr.length c1, .slice A2 x.lv.length c2, .int .i64 x.t.1, .int .i64 x.t.2.1, .bool x.t.2.2, .int .i64 x.pd, .int .i64 x.x.1, .int .i64 x.x.2.1, .bool x.x.2.2.1, .int .i64 x.x.2.2.2, .bool x.hl, .slice A3 x.seen.length c3] G, vr b23 [.slice A0 x.prog.length c0, .int .i64 x.a, .int .i64 x.pc, .slice A1 x.wr.length c1, .slice A2 x.lv.length c2, .int .i64 x.t.1, .int .i64 x.t.2.1, .bool x.t.2.2, .int .i64 x.pd, .int .i64 x.x.1, .int .i64 x.x.2.1, .bool x.x.2.2.1, .int .i64 x.x.2.2.2, .bool x.hl, .slice A3 x.seen.length c3], vr b21 [.slice A0 x.prog.length c0, .int .i64 x.a, .int .i64 x.pc, .slice A1 x.wr.length c1, .slice A2 x.lv.length c2, .int .i64 x.t.1, .int .i64 x.t.2.1, .bool x.t.2.2, .int .i64 x.pd, .int .i64 x.x.1, .int .i64 x.x.2.1, .bool x.x.2.2.1, .int .i64 x.x.2.2.2, .bool x.hl, .slice A3 x.seen.length c3], vr b [.slice A xs.length c, .int .i64 m]] S [3, 4, 0, 1, 2] rfl (by decide)) ?_
    refine Sx.GT.alone (Sx.Alone.appr (.tmp 18) (.tmp 20) 27 15 184 1 (by rfl) (by rfl) (by kernel_rfl) (by kernel_rfl) (by rfl) (by kernel_rfl) (by kernel_rfl) (by kernel_rfl) (by simp only [maxLen]; omega) (by omega) (xs ++ [x]) (by rfl) (xs ++ [x]).length (by simp) (fun A24 c24 F24 hi24 w S => St.pick S [1] _ rfl (by decide)) (fun A24 c24 F24 hi24 hm24 => ?_))
    refine Sx.GT.p (.pointer (some ⟨b, 0, none⟩)) ?_
    refine Sx.GT.p (.pointer (some ⟨b, 0, none⟩)) ?_
    refine Sx.GT.alone (Sx.Alone.s (.slice A24 (xs ++ [x]).length c24) .a2 .a0 (fun w S => St.pick S [1] _ rfl (by decide)) ?_)
    exact Sx.GT.nil (fun a w' hA S => ⟨rfl, 0, A24, c24, F24, hi24, (Sx.Ag.none hA), Sx.St.pickT [ow (rLst 39 wG) w0.heap.size hi24 ((xs ++ [x])) [.slice A24 (xs ++ [x]).length c24] F24, vr b21 [.slice A0 x.prog.length c0, .int .i64 x.a, .int .i64 x.pc, .slice A1 x.wr.length c1, .slice A2 x.lv.length c2, .int .i64 x.t.1, .int .i64 x.t.2.1, .bool x.t.2.2, .int .i64 x.pd, .int .i64 x.x.1, .int .i64 x.x.2.1, .bool x.x.2.2.1, .int .i64 x.x.2.2.2, .bool x.hl, .slice A3 x.seen.length c3], vr b [.slice A24 (xs ++ [x]).length c24, .int .i64 m]] [_, _, _] S [0, 1, 2] rfl (by decide)⟩)
   ·
    refine Sx.Alone.made 39 [.slice A0 x.prog.length c0, .int .i64 x.a, .int .i64 x.pc, .slice A1 x.wr.length c1, .slice A2 x.lv.length c2, .int .i64 x.t.1, .int .i64 x.t.2.1, .bool x.t.2.2, .int .i64 x.pd, .int .i64 x.x.1, .int .i64 x.x.2.1, .bool x.x.2.2.1, .int .i64 x.x.2.2.2, .bool x.hl, .slice A3 x.seen.length c3] 1 (by rfl) (by kernel_rfl) (fun w => by kernel_rfl) (fun w S => St.pick S [0] _ rfl (by decide)) (fun b25 => ?_)
    refine Sx.GT.alone (Sx.Alone.g (.slice A xs.length c) .m2 .m0 (fun w S => St.pick S [1] _ rfl (by decide)) ?_)
    refine Sx.GT.claims (L' := (ow (rLst 39 wG) lo hi xs [.slice A xs.length c] F :: ow wG lo2 hi2 x [.slice A0 x.prog.length c0, .int .i64 x.a, .int .i64 x.pc, .slice A1 x.wr.length c1, .slice A2 x.lv.length c2, .int .i64 x.t.1, .int .i64 x.t.2.1, .bool x.t.2.2, .int .i64 x.pd, .int .i64 x.x.1, .int .i64 x.x.2.1, .bool x.x.2.2.1, .int .i64 x.x.2.2.2, .bool x.hl, .slice A3 x.seen.length c3] G :: vr b25 [.slice A0 x.prog.length c0, .int .i64 x.a, .int .i64 x.pc, .slice A1 x.wr.length c1, .slice A2 x.lv.length c2, .int .i64 x.t.1, .int .i64 x.t.2.1, .bool x.t.2.2, .int .i64 x.pd, .int .i64 x.x.1, .int .i64 x.x.2.1, .bool x.x.2.2.1, .int .i64 x.x.2.2.2, .bool x.hl, .slice A3 x.seen.length c3] :: vr b21 [.slice A0 x.prog.length c0, .int .i64 x.a, .int .i64 x.pc, .slice A1 x.wr.length c1, .slice A2 x.lv.length c2, .int .i64 x.t.1, .int .i64 x.t.2.1, .bool x.t.2.2, .int .i64 x.pd, .int .i64 x.x.1, .int .i64 x.x.2.1, .bool x.x.2.2.1, .int .i64 x.x.2.2.2, .bool x.hl, .slice A3 x.seen.length c3] :: vr b [.slice A xs.length c, .int .i64 m] :: R)) (fun w S => Sx.St.pickT [vr b25 [.slice A0 x.prog.length c0, .int .i64 x.a, .int .i64 x.pc, .slice A1 x.wr.length c1, .slice A2 x.lv.length c2, .int .i64 x.t.1, .int .i64 x.t.2.1, .bool x.t.2.2, .int .i64 x.pd, .int .i64 x.x.1, .int .i64 x.x.2.1, .bool x.x.2.2.1, .int .i64 x.x.2.2.2, .bool x.hl, .slice A3 x.seen.length c3], vr b21 [.slice A0 x.prog.length c0, .int .i64 x.a, .int .i64 x.pc, .slice A1 x.wr.length c1, .slice A2 x.lv.length c2, .int .i64 x.t.1, .int .i64 x.t.2.1, .bool x.t.2.2, .int .i64 x.pd, .int .i64 x.x.1, .int .i64 x.x.2.1, .bool x.x.2.2.1, .int .i64 x.x.2.2.2, .bool x.hl, .slice A3 x.seen.length c3], vr b [.slice A xs.length c, .int .i64 m], ow (rLst 39 wG) lo hi xs [.slice A xs.length c] F, ow wG lo2 hi2 x [.slice A0 x.prog.length c0, .int .i64 x.a, .int .i64 x.pc, .slice A1 x.wr.length c1, .slice A2 x.lv.length c2, .int .i64 x.t.1, .int .i64 x.t.2.1, .bool x.t.2.2, .int .i64 x.pd, .int .i64 x.x.1, .int .i64 x.x.2.1, .bool x.x.2.2.1, .int .i64 x.x.2.2.2, .bool x.hl, .slice A3 x.seen.length c3] G] [ow (rLst 39 wG) lo hi xs [.slice A xs.length c] F, ow wG lo2 hi2 x [.slice A0 x.prog.length c0, .int .i64 x.a, .int .i64 x.pc, .slice A1 x.wr.length c1, .slice A2 x.lv.length c2, .int .i64 x.t.1, .int .i64 x.t.2.1, .bool x.t.2.2, .int .i64 x.pd, .int .i64 x.x.1, .int .i64 x.x.2.1, .bool x.x.2.2.1, .int .i64 x.x.2.2.2, .bool x.hl, .slice A3 x.seen.length c3] G, vr b25 [.slice A0 x.prog.length c0, .int .i64 x.a, .int .i64 x.pc, .slice A1 x.wr.length c1, .slice A2 x.lv.length c2, .int .i64 x.t.1, .int .i64 x.t.2.1, .bool x.t.2.2, .int .i64 x.pd, .int .i64 x.x.1, .int .i64 x.x.2.1, .bool x.x.2.2.1, .int .i64 x.x.2.2.2, .bool x.hl, .slice A3 x.seen.length c3], vr b21 [.slice A0 x.prog.length c0, .int .i64 x.a, .int .i64 x.pc, .slice A1 x.wr.length c1, .slice A2 x.lv.length c2, .int .i64 x.t.1, .int .i64 x.t.2.1, .bool x.t.2.2, .int .i64 x.pd, .int .i64 x.x.1, .int .i64 x.x.2.1, .bool x.x.2.2.1, .int .i64 x.x.2.2.2, .bool x.hl, .slice A3 x.seen.length c3], vr b [.slice A xs.length c, .int .i64 m]] S [3, 4, 0, 1, 2] rfl (by decide)) ?_
    refine Sx.GT.alone (Sx.Alone.appr (.tmp 18) (.tmp 20) 27 15 184 1 (by rfl) (by rfl) (by kernel_rfl) (by kernel_rfl) (by rfl) (by kernel_rfl) (by kernel_rfl) (by kernel_rfl) (by simp only [maxLen]; omega) (by omega) (xs ++ [x]) (by rfl) (xs ++ [x]).length (by simp) (fun A26 c26 F26 hi26 w S => St.pick S [1] _ rfl (by decide)) (fun A26 c26 F26 hi26 hm26 => ?_))
    refine Sx.GT.p (.pointer (some ⟨b, 0, none⟩)) ?_
    refine Sx.GT.p (.pointer (some ⟨b, 0, none⟩)) ?_
    refine Sx.GT.alone (Sx.Alone.s (.slice A26 (xs ++ [x]).length c26) .a2 .a0 (fun w S => St.pick S [1] _ rfl (by decide)) ?_)
    exact Sx.GT.nil (fun a w' hA S => ⟨rfl, 0, A26, c26, F26, hi26, (Sx.Ag.none hA), Sx.St.pickT [ow (rLst 39 wG) w0.heap.size hi26 ((xs ++ [x])) [.slice A26 (xs ++ [x]).length c26] F26, vr b21 [.slice A0 x.prog.length c0, .int .i64 x.a, .int .i64 x.pc, .slice A1 x.wr.length c1, .slice A2 x.lv.length c2, .int .i64 x.t.1, .int .i64 x.t.2.1, .bool x.t.2.2, .int .i64 x.pd, .int .i64 x.x.1, .int .i64 x.x.2.1, .bool x.x.2.2.1, .int .i64 x.x.2.2.2, .bool x.hl, .slice A3 x.seen.length c3], vr b [.slice A26 (xs ++ [x]).length c26, .int .i64 m]] [_, _, _] S [0, 1, 2] rfl (by decide)⟩)
  rintro e a w' ⟨rfl, y27_0, y27_1, y27_2, y27_3, y27_4, hA, S⟩
  refine Sx.E.out ?_ hA S
  clear hA S a w'
  refine Sx.E.end_ ?_
  refine Sx.E.ret0 rfl (fun w S => ?_)
  rw [show addB xs m x = xs ++ [x] from if_pos (by omega)]
  exact ⟨rfl, _, _, _, _, _, Sx.St.pickT [ow (rLst 39 wG) w0.heap.size y27_4 ((xs ++ [x])) [.slice y27_1 (xs ++ [x]).length y27_2] y27_3, vr b21 [.slice A0 x.prog.length c0, .int .i64 x.a, .int .i64 x.pc, .slice A1 x.wr.length c1, .slice A2 x.lv.length c2, .int .i64 x.t.1, .int .i64 x.t.2.1, .bool x.t.2.2, .int .i64 x.pd, .int .i64 x.x.1, .int .i64 x.x.2.1, .bool x.x.2.2.1, .int .i64 x.x.2.2.2, .bool x.hl, .slice A3 x.seen.length c3], vr b [.slice y27_1 (xs ++ [x]).length y27_2, .int .i64 m]] [_, _] S [2, 0] rfl (by decide)⟩
theorem implx_newguests (xs : List (List (Int × Int))) (A : Option Addr) (c : Nat) (w : World) (hc : (rLsw (rLsw (rPair rInt rInt))).cap xs) (h : rdLst (rLsw (rPair rInt rInt)) w 0 w.heap.size xs [.slice A xs.length c]) : Calls Tryz.prog 30 #[.slice A xs.length c] w (Gives (rLsw wG) w ((xs.take 2).map newG)) := by
 obtain ⟨hl, hce⟩ := hc
 refine Sx.enter (args := [.slice A xs.length c]) Tryz.func30 rfl Tryz.ntmps30 rfl ?_
 refine Sx.C.seq (Sx.C.region ?_)
 refine Sx.G.p (.slice none 0 0) ?_
 refine Sx.G.nil (Sx.E.next (Sx.C.seq (Sx.C.region ?_)))
 refine Sx.G.cp 64 #[.slice none 0 0] (.agg #[.slice none 0 0, .int .i64 2]) (fun w S => by exact implx_bG none 0 0 _) ?_
 refine Sx.G.ar [.slice none 0 0, .int .i64 0] (fun b1 => ?_)
 refine Sx.G.sw [.slice none 0 0, .int .i64 2] .a0 ?_
 refine Sx.G.nil (Sx.E.next (Sx.C.seq (Sx.C.seq (Sx.C.region ?_))))
 refine Sx.G.p (.slice A xs.length c) ?_
 refine Sx.G.p (.int .i64 ((xs.length : Nat) : Int)) ?_
 refine Sx.G.p (.int .i64 0) ?_
 refine Sx.G.nil (Sx.E.next (Sx.C.block ?_))
 refine Sx.C.loop (α := Nat × Option Addr × Nat × Nat × Nat × List Nat) (fun x => x.1 ≤ xs.length) (fun x => [(9, .int .i64 (x.1 : Int)), (2, .slice none 0 0), (3, .pointer (some ⟨b1, 0, none⟩)), (7, .slice A xs.length c), (8, .int .i64 ((xs.length : Nat) : Int))]) (fun x => [vr b1 [.slice x.2.1 (((xs.take x.1).map newG).take 2).length x.2.2.1, .int .i64 2], ow (rLst 39 wG) x.2.2.2.1 x.2.2.2.2.1 ((((xs.take x.1).map newG).take 2)) [.slice x.2.1 (((xs.take x.1).map newG).take 2).length x.2.2.1] x.2.2.2.2.2]) (fun x => xs.length - x.1) (0, none, 0, w.heap.size, w.heap.size, []) (Nat.zero_le _) (fun a hA => (Sx.Ag.and hA (Sx.Ag.and hA (Sx.Ag.and hA (Sx.Ag.and hA (Sx.Ag.and hA (Sx.Ag.none hA) _ _ (by kernel_rfl)) _ _ (by kernel_rfl)) _ _ (by kernel_rfl)) _ _ (by kernel_rfl)) _ _ (by kernel_rfl))) (fun w' S => by have S2 := Sx.St.nil0 S 39 wG; exact St.pick S2 [1, 0] _ rfl (by decide)) (fun x hx => ?_)
 obtain ⟨i, xA, xc, xl, xh, xF⟩ := x
 dsimp only at hx
 refine Sx.C.seq (Sx.C.region ?_)
 refine Sx.G.p (.bool (decide ((i : Int) < ((xs.length : Nat) : Int)))) ?_
 refine Sx.G.nil (Sx.E.next (Sx.C.seq ?_))
 cases hc2 : (decide ((i : Int) < ((xs.length : Nat) : Int)))
 ·
  have hb2 := hc2
  replace hc2 := of_decide_eq_false hc2
  refine Sx.C.no (by kernel_rfl) (by kernel_rfl) ?_
  refine Sx.C.exit (Sx.E.then_exit (Sx.E.then_exit (Sx.E.block_hit (Sx.E.next (Sx.C.seq (Sx.C.region ?_))))))
  refine Sx.G.p (.pointer (some ⟨b1, 0, none⟩)) ?_
  refine Sx.G.g (.slice xA (((xs.take i).map newG).take 2).length xc) .m0 .m0 ?_
  refine Sx.G.p (.slice xA (((xs.take i).map newG).take 2).length xc) ?_
  refine Sx.G.nil (Sx.E.next (Sx.C.ret ?_))
  refine Sx.E.ret1 (.slice xA (((xs.take i).map newG).take 2).length xc) rfl (by kernel_rfl) (fun w S => ?_)
  have htk : xs.take i = xs := List.take_of_length_le (by omega)
  rw [htk, ← List.map_take] at S
  rw [htk, ← List.map_take]
  obtain ⟨GW, S⟩ := S.weak 1 rfl
  exact ⟨[_], _, rfl, S.own 1 rfl, S.nodup 1 rfl, S.below⟩
 ·
  have hb2 := hc2
  replace hc2 := of_decide_eq_true hc2
  refine Sx.C.yes (by kernel_rfl) (by kernel_rfl) ?_
  refine Sx.C.skip (Sx.E.next (Sx.C.seq (Sx.C.block (Sx.C.seq (Sx.C.region ?_)))))
  obtain ⟨b3, f3, es3, eA3, hr3, hl3, hm3⟩ := Sx.old_elem (by decide) h i (by omega)
  subst eA3
  obtain ⟨x3, hx3⟩ : ∃ z_, z_ = (xs[i]'(by omega)) := ⟨_, rfl⟩
  rw [← hx3] at hr3
  have hle3 : x3.length ≤ 1048576 := (hce _ (hx3 ▸ List.getElem_mem _)).1
  replace hr3 : rdLst (rPair rInt rInt) w 0 w.heap.size x3 es3 := hr3
  obtain ⟨P3, rfl⟩ := lst_rd hr3
  obtain ⟨A3, c3, e3, -⟩ := lst_val hr3
  subst e3
  refine Sx.G.elem 24 32 (.tmp 7) (.tmp 9) 1 24 b3 f3 xs.length c i rfl (by kernel_rfl) (by kernel_rfl) (by kernel_rfl) (by kernel_rfl) (by omega) ?_
  refine Sx.G.ldr1 32 (.tmp 11) b3 ((f3 + i * 1) + 0) (.slice A3 x3.length c3) rfl (by kernel_rfl) (by kernel_rfl) (fun w S => hm3 w _ S 0 _ rfl) (by kernel_rfl) ?_
  refine Sx.G.p (.slice A3 x3.length c3) ?_
  refine Sx.G.nil (Sx.E.next (Sx.C.region ?_))
  refine Sx.G.p (.slice A3 x3.length c3) ?_
  refine Sx.G.c 66 #[.slice A3 x3.length c3] (fun w4 S => (((Guests.impl_gnew_g x3 A3 c3 _ (hce _ (hx3 ▸ List.getElem_mem _)).1 (St.old (r := (rLsw (rPair rInt rInt))) S hr3)).mono weak_G)).mono fun e w4' hp => ?_)
  obtain ⟨cs, F, rfl, ho, hF, hb⟩ := hp
  obtain ⟨P4_0, P4_1, P4_2, P4_3, rfl, f4_0, f4_1, f4_2, f4_3⟩ := wG_rd (wG.reads ho)
  obtain ⟨A4_0, c4_0, e4_0, -⟩ := lst_val f4_0
  subst e4_0
  obtain ⟨A4_1, c4_1, e4_1, -⟩ := lst_val f4_1
  subst e4_1
  obtain ⟨A4_2, c4_2, e4_2, -⟩ := lst_val f4_2
  subst e4_2
  obtain ⟨A4_3, c4_3, e4_3, -⟩ := lst_val f4_3
  subst e4_3
  generalize F = F4 at ho hF
  refine ⟨_, _, rfl, (St.got S hb ho hF), ?_⟩
  clear S hb ho hF f4_0 f4_1 f4_2 f4_3
  refine Sx.G.c 65 #[.pointer (some ⟨b1, 0, none⟩), .agg #[.slice A4_0 (newG x3).prog.length c4_0, .int .i64 (newG x3).a, .int .i64 (newG x3).pc, .slice A4_1 (newG x3).wr.length c4_1, .slice A4_2 (newG x3).lv.length c4_2, .int .i64 (newG x3).t.1, .int .i64 (newG x3).t.2.1, .bool (newG x3).t.2.2, .int .i64 (newG x3).pd, .int .i64 (newG x3).x.1, .int .i64 (newG x3).x.2.1, .bool (newG x3).x.2.2.1, .int .i64 (newG x3).x.2.2.2, .bool (newG x3).hl, .slice A4_3 (newG x3).seen.length c4_3]] (fun w5 S => (implx_addG (((xs.take i).map newG).take 2) (newG x3) 2 _ _ _ _ _ _ _ _ _ _ _ _ _ _ _ _ (by rw [List.length_take]; omega) (St.pick S [1, 2, 0] (vr b1 [.slice xA (((xs.take i).map newG).take 2).length xc, .int .i64 2] :: ow (rLst 39 wG) xl xh ((((xs.take i).map newG).take 2)) [.slice xA (((xs.take i).map newG).take 2).length xc] xF :: ow wG w4.heap.size w4'.heap.size (newG x3) [.slice A4_0 (newG x3).prog.length c4_0, .int .i64 (newG x3).a, .int .i64 (newG x3).pc, .slice A4_1 (newG x3).wr.length c4_1, .slice A4_2 (newG x3).lv.length c4_2, .int .i64 (newG x3).t.1, .int .i64 (newG x3).t.2.1, .bool (newG x3).t.2.2, .int .i64 (newG x3).pd, .int .i64 (newG x3).x.1, .int .i64 (newG x3).x.2.1, .bool (newG x3).x.2.2.1, .int .i64 (newG x3).x.2.2.2, .bool (newG x3).hl, .slice A4_3 (newG x3).seen.length c4_3] F4 :: []) rfl (by decide))).mono fun e w5' hp => ?_)
  obtain ⟨rfl, A5, c5, l5, h5, F5, S'⟩ := hp
  rw [show addB (((xs.take i).map newG).take 2) 2 (newG x3) = (((xs.take (i + 1)).map newG).take 2) by rw [addB_take, Kit.take_step (show i < xs.length by omega), List.map_append, hx3]; rfl] at S'
  refine ⟨_, _, rfl, S', ?_⟩
  clear S S'
  refine Sx.G.nil (Sx.E.block_normal (Sx.E.next (Sx.C.region ?_)))
  refine Sx.G.q (.int .i64 (IntKind.i64.wrap ((i : Int) + 1))) (.int .i64 ((i + 1 : Nat) : Int)) (congrArg (Value.int .i64) (Sx.wrap_up i (by omega))) ?_
  refine Sx.G.p (.int .i64 ((i + 1 : Nat) : Int)) ?_
  refine Sx.G.nil ?_
  exact Sx.E.again (i + 1, A5, c5, l5, h5, F5) (show i + 1 ≤ xs.length by omega) (by show xs.length - (i + 1) < xs.length - i; omega) (fun a hA => (Sx.Ag.and hA (Sx.Ag.and hA (Sx.Ag.and hA (Sx.Ag.and hA (Sx.Ag.and hA (Sx.Ag.none hA) _ _ (by kernel_rfl)) _ _ (by kernel_rfl)) _ _ (by kernel_rfl)) _ _ (by kernel_rfl)) _ _ (by kernel_rfl))) (fun w' S => St.pick S [0, 1] _ rfl (by decide))
def gsOk (xs : List gT) : Bool := inB ((xs.length : Nat) : Int) 1 2 && xs.all guestOk
theorem implx_gsok (xs : List gT) (A : Option Addr) (c : Nat) (w : World) (hn : (rLsw wG).wf xs) (hc : (rLsw wG).cap xs) (h : rdLst wG w 0 w.heap.size xs [.slice A xs.length c]) : Calls Tryz.prog 55 #[.slice A xs.length c] w (fun e w' => e = .returned (.bool (gsOk xs)) ∧ Below w.heap.size w w') := by
 obtain ⟨hl, hce⟩ := hc
 have hwe := hn.2
 refine Sx.enter (args := [.slice A xs.length c]) Tryz.func55 rfl Tryz.ntmps55 rfl ?_
 refine Sx.C.seq (Sx.C.region ?_)
 refine Sx.G.p (.bool false) ?_
 refine Sx.G.nil (Sx.E.next (Sx.C.seq (Sx.C.seq (Sx.C.region ?_))))
 refine Sx.G.p (.slice A xs.length c) ?_
 refine Sx.G.p (.int .i64 ((xs.length : Nat) : Int)) ?_
 refine Sx.G.p (.bool (((xs.length : Nat) : Int) == 0)) ?_
 refine Sx.G.p (.bool (((xs.length : Nat) : Int) == 0)) ?_
 cases hc1 : (((xs.length : Nat) : Int) == 0)
 ·
  have hb1 := hc1
  have hlz := beq_eq_false_iff_ne.1 hc1
  refine Sx.G.p (.slice A xs.length c) ?_
  refine Sx.G.cp 64 #[.slice A xs.length c] (.agg #[.slice A xs.length c, .int .i64 2]) (fun w S => by exact implx_bG A xs.length c _) ?_
  refine Sx.G.cp 89 #[.agg #[.slice A xs.length c, .int .i64 2]] (.bool (decide (((xs.length : Nat) : Int) ≤ 2))) (fun w S => by exact implx_okG A xs.length c 2 _) ?_
  refine Sx.G.p (.bool (!(decide (((xs.length : Nat) : Int) ≤ 2)))) ?_
  refine Sx.G.p (.bool (!(decide (((xs.length : Nat) : Int) ≤ 2)))) ?_
  refine Sx.G.nil (Sx.E.next ?_)
  cases hc2 : (decide (((xs.length : Nat) : Int) ≤ 2))
  ·
   have hb2 := hc2
   replace hc2 := of_decide_eq_false hc2
   refine Sx.C.yes (by kernel_rfl) (by kernel_rfl) ?_
   refine Sx.C.seq (Sx.C.region ?_)
   refine Sx.G.p (.bool false) ?_
   refine Sx.G.nil (Sx.E.next (Sx.C.ret (Sx.E.then_ret ?_)))
   refine Sx.E.ret1 (.bool false) rfl (by kernel_rfl) (fun w S => ?_)
   have hb : inB ((xs.length : Nat) : Int) 1 2 = false := by rw [inB_false]; omega
   exact ⟨by unfold gsOk; rw [hb]; rfl, S.below⟩
  ·
   have hb2 := hc2
   replace hc2 := of_decide_eq_true hc2
   refine Sx.C.no (by kernel_rfl) (by kernel_rfl) ?_
   refine Sx.C.skip (Sx.E.next (Sx.C.seq (Sx.C.seq (Sx.C.region ?_))))
   refine Sx.G.p (.slice A xs.length c) ?_
   refine Sx.G.p (.int .i64 ((xs.length : Nat) : Int)) ?_
   refine Sx.G.p (.int .i64 0) ?_
   refine Sx.G.nil (Sx.E.next (Sx.C.block ?_))
   refine Sx.C.loop (α := Nat) (fun i => i ≤ xs.length ∧ (xs.take i).all guestOk = true) (fun i => [(16, .int .i64 (i : Int)), (2, .bool false), (14, .slice A xs.length c), (15, .int .i64 ((xs.length : Nat) : Int))]) (fun i => []) (fun i => xs.length - i) 0 ⟨Nat.zero_le _, rfl⟩ (fun a hA => (Sx.Ag.and hA (Sx.Ag.and hA (Sx.Ag.and hA (Sx.Ag.and hA (Sx.Ag.none hA) _ _ (by kernel_rfl)) _ _ (by kernel_rfl)) _ _ (by kernel_rfl)) _ _ (by kernel_rfl))) (fun w S => S) (fun i hx => ?_)
   have hxi := hx.1
   refine Sx.C.seq (Sx.C.region ?_)
   refine Sx.G.p (.bool (decide ((i : Int) < ((xs.length : Nat) : Int)))) ?_
   refine Sx.G.nil (Sx.E.next (Sx.C.seq ?_))
   cases hc3 : (decide ((i : Int) < ((xs.length : Nat) : Int)))
   ·
    have hb3 := hc3
    replace hc3 := of_decide_eq_false hc3
    refine Sx.C.no (by kernel_rfl) (by kernel_rfl) ?_
    refine Sx.C.exit (Sx.E.then_exit (Sx.E.then_exit (Sx.E.block_hit (Sx.E.next (Sx.C.seq (Sx.C.region ?_))))))
    refine Sx.G.p (.bool true) ?_
    refine Sx.G.nil (Sx.E.next (Sx.C.ret ?_))
    refine Sx.E.ret1 (.bool true) rfl (by kernel_rfl) (fun w S => ?_)
    have hall : xs.all guestOk = true := by have h2 := hx.2; rwa [List.take_of_length_le (by omega)] at h2
    have hb : inB ((xs.length : Nat) : Int) 1 2 = true := by rw [inB_iff]; omega
    exact ⟨by unfold gsOk; rw [hall, hb]; rfl, S.below⟩
   ·
    have hb3 := hc3
    replace hc3 := of_decide_eq_true hc3
    refine Sx.C.yes (by kernel_rfl) (by kernel_rfl) ?_
    refine Sx.C.skip (Sx.E.next (Sx.C.seq (Sx.C.block (Sx.C.seq (Sx.C.region ?_)))))
    obtain ⟨b4, f4, es4, eA4, hr4, hl4, hm4⟩ := Sx.old_elem (by decide) h i (by omega)
    subst eA4
    obtain ⟨x4, hx4⟩ : ∃ z_, z_ = (xs[i]'(by omega)) := ⟨_, rfl⟩
    rw [← hx4] at hr4
    have hR4 := hr4
    obtain ⟨P4_0, P4_1, P4_2, P4_3, rfl, hf4_0, hf4_1, hf4_2, hf4_3⟩ := wG_rd hr4
    obtain ⟨A4_0, c4_0, e4_0, -⟩ := lst_val hf4_0
    subst e4_0
    obtain ⟨A4_1, c4_1, e4_1, -⟩ := lst_val hf4_1
    subst e4_1
    obtain ⟨A4_2, c4_2, e4_2, -⟩ := lst_val hf4_2
    subst e4_2
    obtain ⟨A4_3, c4_3, e4_3, -⟩ := lst_val hf4_3
    subst e4_3
    refine Sx.G.elem 27 39 (.tmp 14) (.tmp 16) 15 184 b4 f4 xs.length c i rfl (by kernel_rfl) (by kernel_rfl) (by kernel_rfl) (by kernel_rfl) (by omega) ?_
    refine Sx.G.ldr 39 (.tmp 18) b4 (f4 + i * 15) [.slice A4_0 x4.prog.length c4_0, .int .i64 x4.a, .int .i64 x4.pc, .slice A4_1 x4.wr.length c4_1, .slice A4_2 x4.lv.length c4_2, .int .i64 x4.t.1, .int .i64 x4.t.2.1, .bool x4.t.2.2, .int .i64 x4.pd, .int .i64 x4.x.1, .int .i64 x4.x.2.1, .bool x4.x.2.2.1, .int .i64 x4.x.2.2.2, .bool x4.hl, .slice A4_3 x4.seen.length c4_3] rfl (by kernel_rfl) (by kernel_rfl) (fun w S => hm4 w _ S) (by kernel_rfl) (by kernel_rfl) ?_
    refine Sx.G.ar [.slice none 0 0, .int .i64 0, .int .i64 0, .slice none 0 0, .slice none 0 0, .int .i64 0, .int .i64 0, .bool false, .int .i64 0, .int .i64 0, .int .i64 0, .bool false, .int .i64 0, .bool false, .slice none 0 0] (fun b5 => ?_)
    refine Sx.G.sw [.slice A4_0 x4.prog.length c4_0, .int .i64 x4.a, .int .i64 x4.pc, .slice A4_1 x4.wr.length c4_1, .slice A4_2 x4.lv.length c4_2, .int .i64 x4.t.1, .int .i64 x4.t.2.1, .bool x4.t.2.2, .int .i64 x4.pd, .int .i64 x4.x.1, .int .i64 x4.x.2.1, .bool x4.x.2.2.1, .int .i64 x4.x.2.2.2, .bool x4.hl, .slice A4_3 x4.seen.length c4_3] .a0 ?_
    refine Sx.G.nil (Sx.E.next (Sx.C.seq ?_))
    refine Sx.C.slots (T' := [(2, .bool false), (4, .pointer (some ⟨b5, 0, none⟩)), (14, .slice (some ⟨b4, f4, none⟩) xs.length c), (15, .int .i64 ((xs.length : Nat) : Int)), (16, .int .i64 (i : Int))]) (fun a hA => (Sx.Ag.and hA (Sx.Ag.and hA (Sx.Ag.and hA (Sx.Ag.and hA (Sx.Ag.and hA (Sx.Ag.none hA) _ _ (by kernel_rfl)) _ _ (by kernel_rfl)) _ _ (by kernel_rfl)) _ _ (by kernel_rfl)) _ _ (by kernel_rfl))) ?_
    refine Sx.C.region ?_
    refine Sx.G.lw .m0 ?_
    refine Sx.G.cp 90 #[.agg #[.slice A4_0 x4.prog.length c4_0, .int .i64 x4.a, .int .i64 x4.pc, .slice A4_1 x4.wr.length c4_1, .slice A4_2 x4.lv.length c4_2, .int .i64 x4.t.1, .int .i64 x4.t.2.1, .bool x4.t.2.2, .int .i64 x4.pd, .int .i64 x4.x.1, .int .i64 x4.x.2.1, .bool x4.x.2.2.1, .int .i64 x4.x.2.2.2, .bool x4.hl, .slice A4_3 x4.seen.length c4_3]] (.bool (guestOk x4)) (fun w S => by exact Guests.impl_gok x4 _ _ (hwe _ (hx4 ▸ List.getElem_mem _)) (cap_G (hce _ (hx4 ▸ List.getElem_mem _))) (rd_G (St.old S hR4))) ?_
    refine Sx.G.p (.bool (!(guestOk x4))) ?_
    refine Sx.G.nil (Sx.E.next ?_)
    cases hc6 : (guestOk x4)
    ·
     have hb6 := hc6
     refine Sx.C.yes (by kernel_rfl) (by kernel_rfl) ?_
     refine Sx.C.seq (Sx.C.region ?_)
     refine Sx.G.p (.bool false) ?_
     refine Sx.G.nil (Sx.E.next (Sx.C.ret (Sx.E.block_ret (Sx.E.then_ret (Sx.E.then_ret (Sx.E.block_ret (Sx.E.then_ret ?_)))))))
     refine Sx.E.ret1 (.bool false) rfl (by kernel_rfl) (fun w S => ?_)
     have hall : xs.all guestOk = false := by rw [Bool.eq_false_iff]; intro h2; have h3 := List.all_eq_true.1 h2 _ (List.getElem_mem (show i < xs.length by omega)); rw [← hx4, hc6] at h3; cases h3
     exact ⟨by unfold gsOk; rw [hall, Bool.and_false], S.below⟩
    ·
     have hb6 := hc6
     refine Sx.C.no (by kernel_rfl) (by kernel_rfl) ?_
     refine Sx.C.skip (Sx.E.block_normal (Sx.E.next (Sx.C.region ?_)))
     refine Sx.G.q (.int .i64 (IntKind.i64.wrap ((i : Int) + 1))) (.int .i64 ((i + 1 : Nat) : Int)) (congrArg (Value.int .i64) (Sx.wrap_up i (by omega))) ?_
     refine Sx.G.p (.int .i64 ((i + 1 : Nat) : Int)) ?_
     refine Sx.G.nil ?_
     have hup : (xs.take (i + 1)).all guestOk = true := by rw [Kit.take_step (by omega), List.all_append, hx.2, ← hx4]; simp [hc6]
     exact Sx.E.again (i + 1) ⟨by omega, hup⟩ (by omega) (fun a hA => (Sx.Ag.and hA (Sx.Ag.and hA (Sx.Ag.and hA (Sx.Ag.and hA (Sx.Ag.none hA) _ _ (by kernel_rfl)) _ _ (by kernel_rfl)) _ _ (by kernel_rfl)) _ _ (by kernel_rfl))) (fun w S => St.pick S [] _ rfl (by decide))
 ·
  have hb1 := hc1
  have hlz := beq_iff_eq.1 hc1
  refine Sx.G.k ?_
  refine Sx.G.k ?_
  refine Sx.G.k ?_
  refine Sx.G.k ?_
  refine Sx.G.p (.bool true) ?_
  refine Sx.G.nil (Sx.E.next ?_)
  refine Sx.C.yes (by kernel_rfl) (by kernel_rfl) ?_
  refine Sx.C.seq (Sx.C.region ?_)
  refine Sx.G.p (.bool false) ?_
  refine Sx.G.nil (Sx.E.next (Sx.C.ret (Sx.E.then_ret ?_)))
  refine Sx.E.ret1 (.bool false) rfl (by kernel_rfl) (fun w S => ?_)
  have hb : inB ((xs.length : Nat) : Int) 1 2 = false := by rw [inB_false]; omega
  exact ⟨by unfold gsOk; rw [hb]; rfl, S.below⟩
theorem inB_dec (g n : Int) : inB g 0 (n - 1) = (decide (g ≥ 0) && decide (g < n)) := by
 rw [Bool.eq_iff_iff, inB_iff]; simp; omega
theorem implx_has (A : Option Addr) (n c : Nat) (g : Int) (w : World)  : Calls Tryz.prog 35 #[.slice A n c, .int .i64 g] w (fun e w' => e = .returned (.bool (inB g 0 (((n : Nat) : Int) - 1))) ∧ Below w.heap.size w w') := by
 refine Sx.enter (args := [.slice A n c, .int .i64 g]) Tryz.func35 rfl Tryz.ntmps35 rfl ?_
 refine Sx.C.seq (Sx.C.region ?_)
 refine Sx.G.p (.bool false) ?_
 refine Sx.G.nil (Sx.E.next (Sx.C.seq (Sx.C.region ?_)))
 refine Sx.G.p (.int .i64 g) ?_
 refine Sx.G.p (.bool (decide (g ≥ 0))) ?_
 refine Sx.G.p (.bool (decide (g ≥ 0))) ?_
 cases hc1 : (decide (g ≥ 0))
 ·
  have hb1 := hc1
  replace hc1 := of_decide_eq_false hc1
  refine Sx.G.k ?_
  refine Sx.G.k ?_
  refine Sx.G.k ?_
  refine Sx.G.k ?_
  refine Sx.G.p (.bool false) ?_
  refine Sx.G.p (.bool false) ?_
  refine Sx.G.nil (Sx.E.next (Sx.C.ret ?_))
  refine Sx.E.ret1 (.bool false) rfl (by kernel_rfl) (fun w S => ?_)
  exact ⟨congrArg Ending.returned (congrArg Value.bool (by rw [inB_dec]; simp only [hb1, Bool.true_and, Bool.false_and])), S.below⟩
 ·
  have hb1 := hc1
  replace hc1 := of_decide_eq_true hc1
  refine Sx.G.p (.int .i64 g) ?_
  refine Sx.G.p (.slice A n c) ?_
  refine Sx.G.p (.int .i64 ((n : Nat) : Int)) ?_
  refine Sx.G.p (.bool (decide (g < ((n : Nat) : Int)))) ?_
  refine Sx.G.p (.bool (decide (g < ((n : Nat) : Int)))) ?_
  refine Sx.G.p (.bool (decide (g < ((n : Nat) : Int)))) ?_
  refine Sx.G.nil (Sx.E.next (Sx.C.ret ?_))
  refine Sx.E.ret1 (.bool (decide (g < ((n : Nat) : Int)))) rfl (by kernel_rfl) (fun w S => ?_)
  exact ⟨congrArg Ending.returned (congrArg Value.bool (by rw [inB_dec]; simp only [hb1, Bool.true_and, Bool.false_and])), S.below⟩
theorem implx_memnew (p : Int) (w : World)  : Calls Tryz.prog 29 #[.int .i64 p] w (Gives (rLsw (rLsw rInt)) w (List.replicate (Grid.newN p) ([0, 0, 0, 0] : List Int))) := by
 obtain ⟨m, hm, hm24⟩ : ∃ m : Nat, BroughtW.brought p 0 24 = (m : Int) ∧ m ≤ 24 := ⟨Grid.newN p, Grid.newN_eq p, Grid.newN_le p⟩
 have hmm : Grid.newN p = m := by have := Grid.newN_eq p; omega
 refine Sx.enter (args := [.int .i64 p]) Tryz.func29 rfl Tryz.ntmps29 rfl ?_
 refine Sx.C.seq (Sx.C.region ?_)
 refine Sx.G.p (.slice none 0 0) ?_
 refine Sx.G.nil (Sx.E.next (Sx.C.seq (Sx.C.region ?_)))
 refine Sx.G.p (.int .i64 p) ?_
 refine Sx.G.cp 63 #[.int .i64 p, .int .i64 0, .int .i64 24] (.int .i64 ((m : Nat) : Int)) (fun w S => by exact ((BroughtW.impl_any p 0 24 _).mono fun e w' h => And.intro (h.1.trans (by rw [hm])) (Guests.below_same h.2))) ?_
 refine Sx.G.mks (r := (rLsw rInt)) ([] : List Int) [.slice none 0 0] 26 28 (.tmp 6) (.tmp 6) 1 24 m rfl (by kernel_rfl) (by kernel_rfl) (by kernel_rfl) rfl rfl (fun w lo hi => Kit.own_nil _ _ _) (by kernel_rfl) (by kernel_rfl) (by simp only [maxLen]; omega) (by omega) (fun b1 hi1 F1 => ?_)
 refine Sx.G.p (.slice (some ⟨b1, 0, none⟩) m m) ?_
 refine Sx.G.nil (Sx.E.next (Sx.C.seq (Sx.C.seq (Sx.C.region ?_))))
 refine Sx.G.p (.slice (some ⟨b1, 0, none⟩) m m) ?_
 refine Sx.G.p (.int .i64 ((m : Nat) : Int)) ?_
 refine Sx.G.p (.int .i64 0) ?_
 refine Sx.G.nil (Sx.E.next (Sx.C.block ?_))
 refine Sx.C.loop (α := Nat × Nat × List Nat) (fun x => x.1 ≤ m) (fun x => [(10, .int .i64 (x.1 : Int)), (2, .slice none 0 0), (3, .slice (some ⟨b1, 0, none⟩) m m), (9, .int .i64 ((m : Nat) : Int))]) (fun x => [ow (rLsw (rLsw rInt)) w.heap.size x.2.1 (List.replicate x.1 ([0, 0, 0, 0] : List Int) ++ List.replicate (m - x.1) ([] : List Int)) [.slice (some ⟨b1, 0, none⟩) m m] x.2.2]) (fun x => m - x.1) (0, hi1, F1) (Nat.zero_le _) (fun a hA => (Sx.Ag.and hA (Sx.Ag.and hA (Sx.Ag.and hA (Sx.Ag.and hA (Sx.Ag.none hA) _ _ (by kernel_rfl)) _ _ (by kernel_rfl)) _ _ (by kernel_rfl)) _ _ (by kernel_rfl))) (fun w' S => by have S2 := Sx.St.widen S 0 rfl (Nat.le_refl _) (S.hi 0 _ rfl); exact S2) (fun x hx => ?_)
 obtain ⟨i, hi, F⟩ := x
 dsimp only at hx
 obtain hi' := hx
 refine Sx.C.seq (Sx.C.region ?_)
 refine Sx.G.p (.bool (decide ((i : Int) < ((m : Nat) : Int)))) ?_
 refine Sx.G.nil (Sx.E.next (Sx.C.seq ?_))
 cases hc2 : (decide ((i : Int) < ((m : Nat) : Int)))
 ·
  have hb2 := hc2
  replace hc2 := of_decide_eq_false hc2
  refine Sx.C.no (by kernel_rfl) (by kernel_rfl) ?_
  refine Sx.C.exit (Sx.E.then_exit (Sx.E.then_exit (Sx.E.block_hit (Sx.E.next (Sx.C.seq (Sx.C.region ?_))))))
  refine Sx.G.p (.slice (some ⟨b1, 0, none⟩) m m) ?_
  refine Sx.G.p (.slice (some ⟨b1, 0, none⟩) m m) ?_
  refine Sx.G.nil (Sx.E.next (Sx.C.ret ?_))
  refine Sx.E.ret1 (.slice (some ⟨b1, 0, none⟩) m m) rfl (by kernel_rfl) (fun w S => ?_)
  obtain rfl : i = m := by omega
  rw [show i - i = 0 by omega, List.replicate_zero, List.append_nil] at S
  rw [hmm]
  have hll : (List.replicate i ([0, 0, 0, 0] : List Int)).length = i := List.length_replicate ..
  exact ⟨[_], F, rfl, S.own 0 rfl, S.nodup 0 rfl, S.below⟩
 ·
  have hb2 := hc2
  replace hc2 := of_decide_eq_true hc2
  refine Sx.C.yes (by kernel_rfl) (by kernel_rfl) ?_
  refine Sx.C.skip (Sx.E.next (Sx.C.seq ?_))
  have hlt : i < m := by omega
  refine Sx.C.open (r := (rLsw rInt)) (pre := List.replicate i ([0, 0, 0, 0] : List Int)) (x := ([] : List Int)) (post := List.replicate (m - (i + 1)) ([] : List Int)) (by rw [show m - i = (m - (i + 1)) + 1 by omega, List.replicate_succ]) (by decide) (fun b off es F1 Fi F2 eA eF hes hm2 hmc => ?_)
  obtain ⟨rfl, rfl⟩ : b1 = b ∧ 0 = off := by cases eA; exact ⟨rfl, rfl⟩
  subst eF
  refine Sx.C.know (p := ∃ A0 c0, es = [.slice A0 0 c0]) (fun w S => Kit.open_nil (St.at_ S 1 rfl).1) ?_
  rintro ⟨z0, d0, rfl⟩
  refine Sx.C.block (Sx.C.seq (Sx.C.region ?_))
  refine Sx.G.p (.int .i64 (i : Int)) ?_
  refine Sx.G.p (.int .i64 (i : Int)) ?_
  refine Sx.G.nil (Sx.E.next (Sx.C.region ?_))
  refine Sx.G.p (.slice (some ⟨b1, 0, none⟩) m m) ?_
  refine Sx.G.p (.int .i64 (i : Int)) ?_
  refine Sx.G.mks (r := rInt) (0 : Int) [.int .i64 0] 28 3 (.const (.int .i64 4)) (.const (.int .i64 4)) 1 8 4 rfl (by kernel_rfl) (by kernel_rfl) (by kernel_rfl) rfl rfl (fun w lo hi => Kit.own_mk_Int w lo hi 0) (by kernel_rfl) (by kernel_rfl) (by decide) (by decide) (fun b3 hi3 F3 => ?_)
  refine Sx.G.elem 26 28 (.tmp 13) (.tmp 14) 1 24 b1 0 m m i rfl (by kernel_rfl) (by kernel_rfl) (by kernel_rfl) (by kernel_rfl) (by omega) ?_
  refine Sx.G.hsto (k := i) (size := 1) 28 (.tmp 16) (.tmp 15) b1 ((0 + i * 1) + 0) 0 1 [.slice (some ⟨b3, 0, none⟩) 4 4] [.slice (some ⟨b3, 0, none⟩) 4 4] [ow (rLsw rInt) b3 hi3 ([0, 0, 0, 0] : List Int) [.slice (some ⟨b3, 0, none⟩) 4 4] F3, Sx.hole (rLsw rInt) b1 0 w.heap.size hi (List.replicate i ([0, 0, 0, 0] : List Int)) (List.replicate (m - (i + 1)) ([] : List Int)) [.slice (some ⟨b3, 0, none⟩) 4 4] F1 F2, ow (rLsw rInt) w.heap.size hi ([] : List Int) [.slice z0 0 d0] Fi] rfl (by kernel_rfl) (by kernel_rfl) (by kernel_rfl) rfl (by rw [List.length_replicate]) rfl rfl rfl rfl (by kernel_rfl) (by kernel_rfl) (by kernel_rfl) ?_
  refine Sx.G.nil (Sx.E.block_normal (Sx.E.next (Sx.C.region ?_)))
  refine Sx.G.q (.int .i64 (IntKind.i64.wrap ((i : Int) + 1))) (.int .i64 ((i + 1 : Nat) : Int)) (congrArg (Value.int .i64) (Sx.wrap_up i (by omega))) ?_
  refine Sx.G.p (.int .i64 ((i + 1 : Nat) : Int)) ?_
  refine Sx.G.nil ?_
  exact Sx.E.again (i + 1, max hi hi3, _) (show i + 1 ≤ m by omega) (show m - (i + 1) < m - i by omega) (fun a hA => (Sx.Ag.and hA (Sx.Ag.and hA (Sx.Ag.and hA (Sx.Ag.and hA (Sx.Ag.none hA) _ _ (by kernel_rfl)) _ _ (by kernel_rfl)) _ _ (by kernel_rfl)) _ _ (by kernel_rfl))) (fun w' S => by
   replace S := St.pick S [1, 0] [_, _] rfl (by decide)
   have S3 := Sx.St.closeW S (by decide) m m (by simp; omega) hmc
   rw [show List.replicate i ([0, 0, 0, 0] : List Int) ++ ([0, 0, 0, 0] : List Int) :: List.replicate (m - (i + 1)) ([] : List Int) = List.replicate (i + 1) ([0, 0, 0, 0] : List Int) ++ List.replicate (m - (i + 1)) ([] : List Int) by rw [List.replicate_succ', List.append_assoc]; rfl] at S3
   exact S3
   )
theorem implx_memok (xs : List (List Int)) (A : Option Addr) (c : Nat) (p : Int) (w : World) (hc : (rLsw (rLsw rInt)).cap xs) (h : rdLst (rLsw rInt) w 0 w.heap.size xs [.slice A xs.length c]) : Calls Tryz.prog 54 #[.slice A xs.length c, .int .i64 p] w (fun e w' => e = .returned (.bool (Grid.memB xs p)) ∧ Below w.heap.size w w') := by
 obtain ⟨hl, hce⟩ := hc
 refine Sx.enter (args := [.slice A xs.length c, .int .i64 p]) Tryz.func54 rfl Tryz.ntmps54 rfl ?_
 refine Sx.C.seq (Sx.C.region ?_)
 refine Sx.G.p (.bool false) ?_
 refine Sx.G.nil (Sx.E.next (Sx.C.seq (Sx.C.seq (Sx.C.region ?_))))
 refine Sx.G.p (.slice A xs.length c) ?_
 refine Sx.G.p (.int .i64 ((xs.length : Nat) : Int)) ?_
 refine Sx.G.p (.int .i64 p) ?_
 refine Sx.G.p (.bool (((xs.length : Nat) : Int) != p)) ?_
 refine Sx.G.nil (Sx.E.next ?_)
 cases hc1 : (((xs.length : Nat) : Int) != p)
 ·
  have hb1 := hc1
  refine Sx.C.no (by kernel_rfl) (by kernel_rfl) ?_
  refine Sx.C.skip (Sx.E.next (Sx.C.seq (Sx.C.seq (Sx.C.region ?_))))
  refine Sx.G.p (.slice A xs.length c) ?_
  refine Sx.G.p (.int .i64 ((xs.length : Nat) : Int)) ?_
  refine Sx.G.p (.int .i64 0) ?_
  refine Sx.G.nil (Sx.E.next (Sx.C.block ?_))
  refine Sx.C.loop (α := Nat) (fun i => i ≤ xs.length ∧ (xs.take i).all Grid.pageB = true) (fun i => [(13, .int .i64 (i : Int)), (4, .bool false), (11, .slice A xs.length c), (12, .int .i64 ((xs.length : Nat) : Int))]) (fun i => []) (fun i => xs.length - i) 0 ⟨Nat.zero_le _, rfl⟩ (fun a hA => (Sx.Ag.and hA (Sx.Ag.and hA (Sx.Ag.and hA (Sx.Ag.and hA (Sx.Ag.none hA) _ _ (by kernel_rfl)) _ _ (by kernel_rfl)) _ _ (by kernel_rfl)) _ _ (by kernel_rfl))) (fun w S => S) (fun i hx => ?_)
  have hxi := hx.1
  refine Sx.C.seq (Sx.C.region ?_)
  refine Sx.G.p (.bool (decide ((i : Int) < ((xs.length : Nat) : Int)))) ?_
  refine Sx.G.nil (Sx.E.next (Sx.C.seq ?_))
  cases hc2 : (decide ((i : Int) < ((xs.length : Nat) : Int)))
  ·
   have hb2 := hc2
   replace hc2 := of_decide_eq_false hc2
   refine Sx.C.no (by kernel_rfl) (by kernel_rfl) ?_
   refine Sx.C.exit (Sx.E.then_exit (Sx.E.then_exit (Sx.E.block_hit (Sx.E.next (Sx.C.seq (Sx.C.region ?_))))))
   refine Sx.G.p (.bool true) ?_
   refine Sx.G.nil (Sx.E.next (Sx.C.ret ?_))
   refine Sx.E.ret1 (.bool true) rfl (by kernel_rfl) (fun w S => ?_)
   have hlp : (((xs.length : Nat) : Int) == p) = true := beq_iff_eq.2 (bne_eq_false_iff_eq.1 hc1)
   have hall : xs.all Grid.pageB = true := by have h2 := hx.2; rwa [List.take_of_length_le (by omega)] at h2
   exact ⟨by unfold Grid.memB Grid.pagesB; rw [← beq_dec, hlp, hall]; rfl, S.below⟩
  ·
   have hb2 := hc2
   replace hc2 := of_decide_eq_true hc2
   refine Sx.C.yes (by kernel_rfl) (by kernel_rfl) ?_
   refine Sx.C.skip (Sx.E.next (Sx.C.seq (Sx.C.block (Sx.C.seq (Sx.C.region ?_)))))
   obtain ⟨b3, f3, es3, eA3, hr3, hl3, hm3⟩ := Sx.old_elem (by decide) h i (by omega)
   subst eA3
   obtain ⟨x3, hx3⟩ : ∃ z_, z_ = (xs[i]'(by omega)) := ⟨_, rfl⟩
   rw [← hx3] at hr3
   have hle3 : x3.length ≤ 1048576 := (hce _ (hx3 ▸ List.getElem_mem _)).1
   replace hr3 : rdLst rInt w 0 w.heap.size x3 es3 := hr3
   obtain ⟨P3, rfl⟩ := lst_rd hr3
   obtain ⟨A3, c3, e3, -⟩ := lst_val hr3
   subst e3
   refine Sx.G.elem 26 28 (.tmp 11) (.tmp 13) 1 24 b3 f3 xs.length c i rfl (by kernel_rfl) (by kernel_rfl) (by kernel_rfl) (by kernel_rfl) (by omega) ?_
   refine Sx.G.ldr1 28 (.tmp 15) b3 ((f3 + i * 1) + 0) (.slice A3 x3.length c3) rfl (by kernel_rfl) (by kernel_rfl) (fun w S => hm3 w _ S 0 _ rfl) (by kernel_rfl) ?_
   refine Sx.G.p (.slice A3 x3.length c3) ?_
   refine Sx.G.nil (Sx.E.next (Sx.C.seq (Sx.C.region ?_)))
   refine Sx.G.p (.slice A3 x3.length c3) ?_
   refine Sx.G.cp 88 #[.slice A3 x3.length c3] (.bool (Grid.pageB x3)) (fun w S => by exact ((Grid.impl_pageOk A3 x3.length c3 0 _ x3 _ hle3 rfl (i1_lies (St.old (r := (rLsw rInt)) S hr3))).mono fun e w' h => And.intro h.1 (Guests.below_same h.2))) ?_
   refine Sx.G.p (.bool (!(Grid.pageB x3))) ?_
   refine Sx.G.nil (Sx.E.next ?_)
   cases hc4 : (Grid.pageB x3)
   ·
    have hb4 := hc4
    refine Sx.C.yes (by kernel_rfl) (by kernel_rfl) ?_
    refine Sx.C.seq (Sx.C.region ?_)
    refine Sx.G.p (.bool false) ?_
    refine Sx.G.nil (Sx.E.next (Sx.C.ret (Sx.E.block_ret (Sx.E.then_ret (Sx.E.then_ret (Sx.E.block_ret (Sx.E.then_ret ?_)))))))
    refine Sx.E.ret1 (.bool false) rfl (by kernel_rfl) (fun w S => ?_)
    have hlp : (((xs.length : Nat) : Int) == p) = true := beq_iff_eq.2 (bne_eq_false_iff_eq.1 hc1)
    have hall : xs.all Grid.pageB = false := by rw [Bool.eq_false_iff]; intro h2; have h3 := List.all_eq_true.1 h2 _ (List.getElem_mem (show i < xs.length by omega)); rw [← hx3, hc4] at h3; cases h3
    exact ⟨by unfold Grid.memB Grid.pagesB; rw [hall]; rfl, S.below⟩
   ·
    have hb4 := hc4
    refine Sx.C.no (by kernel_rfl) (by kernel_rfl) ?_
    refine Sx.C.skip (Sx.E.block_normal (Sx.E.next (Sx.C.region ?_)))
    refine Sx.G.q (.int .i64 (IntKind.i64.wrap ((i : Int) + 1))) (.int .i64 ((i + 1 : Nat) : Int)) (congrArg (Value.int .i64) (Sx.wrap_up i (by omega))) ?_
    refine Sx.G.p (.int .i64 ((i + 1 : Nat) : Int)) ?_
    refine Sx.G.nil ?_
    have hup : (xs.take (i + 1)).all Grid.pageB = true := by rw [Kit.take_step (by omega), List.all_append, hx.2, ← hx3]; simp [hc4]
    exact Sx.E.again (i + 1) ⟨by omega, hup⟩ (by omega) (fun a hA => (Sx.Ag.and hA (Sx.Ag.and hA (Sx.Ag.and hA (Sx.Ag.and hA (Sx.Ag.none hA) _ _ (by kernel_rfl)) _ _ (by kernel_rfl)) _ _ (by kernel_rfl)) _ _ (by kernel_rfl))) (fun w S => S)
 ·
  have hb1 := hc1
  refine Sx.C.yes (by kernel_rfl) (by kernel_rfl) ?_
  refine Sx.C.seq (Sx.C.region ?_)
  refine Sx.G.p (.bool false) ?_
  refine Sx.G.nil (Sx.E.next (Sx.C.ret (Sx.E.then_ret ?_)))
  refine Sx.E.ret1 (.bool false) rfl (by kernel_rfl) (fun w S => ?_)
  have hlp : (((xs.length : Nat) : Int) == p) = false := by rw [beq_eq_false_iff_ne]; exact bne_iff_ne.1 hc1
  exact ⟨by unfold Grid.memB Grid.pagesB; rw [← beq_dec, hlp, Bool.and_false], S.below⟩
theorem implx_samemem (xs ys : (List (List Int))) (A : Option Addr) (c : Nat) (B : Option Addr) (d : Nat) (w : World) (hc : (rLsw (rLsw rInt)).cap xs) (hd : (rLsw (rLsw rInt)).cap ys) (h : rdLst (rLsw rInt) w 0 w.heap.size xs [.slice A xs.length c]) (j : rdLst (rLsw rInt) w 0 w.heap.size ys [.slice B ys.length d]) : Calls Tryz.prog 50 #[.slice A xs.length c, .slice B ys.length d] w (fun e w' => e = .returned (.bool (eqv xs ys)) ∧ Below w.heap.size w w') := by
 obtain ⟨hl, hcx⟩ := hc
 obtain ⟨hm, hcy⟩ := hd
 refine Sx.enter (args := [.slice A xs.length c, .slice B ys.length d]) Tryz.func50 rfl Tryz.ntmps50 rfl ?_
 refine Sx.C.seq (Sx.C.region ?_)
 refine Sx.G.p (.bool false) ?_
 refine Sx.G.nil (Sx.E.next (Sx.C.seq (Sx.C.seq (Sx.C.region ?_))))
 refine Sx.G.p (.slice A xs.length c) ?_
 refine Sx.G.p (.int .i64 ((xs.length : Nat) : Int)) ?_
 refine Sx.G.p (.slice B ys.length d) ?_
 refine Sx.G.p (.int .i64 ((ys.length : Nat) : Int)) ?_
 refine Sx.G.p (.bool (((xs.length : Nat) : Int) != ((ys.length : Nat) : Int))) ?_
 refine Sx.G.nil (Sx.E.next ?_)
 cases hc1 : (((xs.length : Nat) : Int) != ((ys.length : Nat) : Int))
 ·
  have hb1 := hc1
  have hlen : xs.length = ys.length := by have := bne_eq_false_iff_eq.1 hc1; omega
  refine Sx.C.no (by kernel_rfl) (by kernel_rfl) ?_
  refine Sx.C.skip (Sx.E.next (Sx.C.seq (Sx.C.seq (Sx.C.region ?_))))
  refine Sx.G.p (.slice A xs.length c) ?_
  refine Sx.G.p (.int .i64 ((xs.length : Nat) : Int)) ?_
  refine Sx.G.p (.int .i64 0) ?_
  refine Sx.G.nil (Sx.E.next (Sx.C.block ?_))
  refine Sx.C.loop (α := Nat) (fun i => i ≤ xs.length ∧ xs.take i = ys.take i) (fun i => [(13, .int .i64 (i : Int)), (0, .slice A xs.length c), (1, .slice B ys.length d), (4, .bool false), (12, .int .i64 ((xs.length : Nat) : Int))]) (fun i => []) (fun i => xs.length - i) 0 ⟨Nat.zero_le _, rfl⟩ (fun a hA => (Sx.Ag.and hA (Sx.Ag.and hA (Sx.Ag.and hA (Sx.Ag.and hA (Sx.Ag.and hA (Sx.Ag.none hA) _ _ (by kernel_rfl)) _ _ (by kernel_rfl)) _ _ (by kernel_rfl)) _ _ (by kernel_rfl)) _ _ (by kernel_rfl))) (fun w S => S) (fun i hx => ?_)
  have hxi := hx.1
  refine Sx.C.seq (Sx.C.region ?_)
  refine Sx.G.p (.bool (decide ((i : Int) < ((xs.length : Nat) : Int)))) ?_
  refine Sx.G.nil (Sx.E.next (Sx.C.seq ?_))
  cases hc2 : (decide ((i : Int) < ((xs.length : Nat) : Int)))
  ·
   have hb2 := hc2
   replace hc2 := of_decide_eq_false hc2
   refine Sx.C.no (by kernel_rfl) (by kernel_rfl) ?_
   refine Sx.C.exit (Sx.E.then_exit (Sx.E.then_exit (Sx.E.block_hit (Sx.E.next (Sx.C.seq (Sx.C.region ?_))))))
   refine Sx.G.p (.bool true) ?_
   refine Sx.G.nil (Sx.E.next (Sx.C.ret ?_))
   refine Sx.E.ret1 (.bool true) rfl (by kernel_rfl) (fun w S => ?_)
   have he : xs = ys := by have h2 := hx.2; rwa [List.take_of_length_le (by omega), List.take_of_length_le (by omega)] at h2
   exact ⟨by rw [eqv_true he], S.below⟩
  ·
   have hb2 := hc2
   replace hc2 := of_decide_eq_true hc2
   refine Sx.C.yes (by kernel_rfl) (by kernel_rfl) ?_
   refine Sx.C.skip (Sx.E.next (Sx.C.seq (Sx.C.block (Sx.C.seq (Sx.C.region ?_)))))
   refine Sx.G.p (.int .i64 (i : Int)) ?_
   refine Sx.G.p (.int .i64 (i : Int)) ?_
   refine Sx.G.nil (Sx.E.next (Sx.C.seq ?_))
   refine Sx.C.draw (.take 0 (.take 1 (.take 2 (.take 3 (.take 4 (.take 5 (.take 6 (.take 7 (.alone 8 (.take 9 .nil)))))))))) [] (fun w S => St.pick S [] _ rfl (by decide)) (by kernel_rfl) (by kernel_rfl) (by kernel_rfl) ?_
   refine Sx.GT.p (.slice A xs.length c) ?_
   refine Sx.GT.p (.int .i64 (i : Int)) ?_
   obtain ⟨b3, f3, es3, eA3, hr3, hl3, hm3⟩ := Sx.old_elem (by decide) h i (by omega)
   subst eA3
   obtain ⟨x3, hx3⟩ : ∃ z_, z_ = (xs[i]'(by omega)) := ⟨_, rfl⟩
   rw [← hx3] at hr3
   replace hr3 : rdLst rInt w 0 w.heap.size x3 es3 := hr3
   obtain ⟨P3, rfl⟩ := lst_rd hr3
   obtain ⟨A3, c3, e3, -⟩ := lst_val hr3
   subst e3
   refine Sx.GT.elem 26 28 (.tmp 16) (.tmp 17) 1 24 b3 f3 xs.length c i 2 (by rfl) (by rfl) (by kernel_rfl) (by kernel_rfl) (by kernel_rfl) (by kernel_rfl) (by omega) ?_
   refine Sx.GT.ldr1 28 (.tmp 18) b3 ((f3 + i * 1) + 0) (.slice A3 x3.length c3) 3 (by rfl) (by rfl) (by kernel_rfl) (by kernel_rfl) (fun w S => hm3 w _ S 0 _ rfl) (by kernel_rfl) ?_
   refine Sx.GT.p (.slice B ys.length d) ?_
   refine Sx.GT.p (.int .i64 (i : Int)) ?_
   obtain ⟨b4, f4, es4, eA4, hr4, hl4, hm4⟩ := Sx.old_elem (by decide) j i (by omega)
   subst eA4
   obtain ⟨x4, hx4⟩ : ∃ z_, z_ = (ys[i]'(by omega)) := ⟨_, rfl⟩
   rw [← hx4] at hr4
   replace hr4 : rdLst rInt w 0 w.heap.size x4 es4 := hr4
   obtain ⟨P4, rfl⟩ := lst_rd hr4
   obtain ⟨A4, c4, e4, -⟩ := lst_val hr4
   subst e4
   refine Sx.GT.elem 26 28 (.tmp 20) (.tmp 21) 1 24 b4 f4 ys.length d i 6 (by rfl) (by rfl) (by kernel_rfl) (by kernel_rfl) (by kernel_rfl) (by kernel_rfl) (by omega) ?_
   refine Sx.GT.ldr1 28 (.tmp 22) b4 ((f4 + i * 1) + 0) (.slice A4 x4.length c4) 7 (by rfl) (by rfl) (by kernel_rfl) (by kernel_rfl) (fun w S => hm4 w _ S 0 _ rfl) (by kernel_rfl) ?_
   refine Sx.GT.alone (Sx.Alone.cp 53 #[.slice A3 x3.length c3, .slice A4 x4.length c4] (.bool (eqv x3 x4)) (fun w S => by exact ((Grid.lib_equal A3 A4 x3.length x4.length c3 c4 0 0 _ _ x3 x4 _ (hcx _ (hx3 ▸ List.getElem_mem _)).1 (hcy _ (hx4 ▸ List.getElem_mem _)).1 rfl rfl (i1_lies (St.old (r := (rLsw rInt)) S hr3)) (i1_lies (St.old (r := (rLsw rInt)) S hr4))).mono fun e w' h => And.intro (h.1.trans (by rw [decide_eqv])) (Guests.drew_below h.2))) (fun w S => St.pick S [] _ rfl (by decide)) ?_)
   refine Sx.GT.p (.bool (!(eqv x3 x4))) ?_
   refine Sx.GT.nil (Sx.E.next ?_)
   cases hc5 : (eqv x3 x4)
   ·
    have hb5 := hc5
    refine Sx.C.yes (by kernel_rfl) (by kernel_rfl) ?_
    refine Sx.C.seq (Sx.C.region ?_)
    refine Sx.G.p (.bool false) ?_
    refine Sx.G.nil (Sx.E.next (Sx.C.ret (Sx.E.block_ret (Sx.E.then_ret (Sx.E.then_ret (Sx.E.block_ret (Sx.E.then_ret ?_)))))))
    refine Sx.E.ret1 (.bool false) rfl (by kernel_rfl) (fun w S => ?_)
    have hne : xs ≠ ys := take_ne (xs := xs) (ys := ys) (i := i) (by omega) (by omega) (by rw [← hx3, ← hx4]; exact ne_of_eqv hc5)
    exact ⟨by rw [eqv_false hne], S.below⟩
   ·
    have hb5 := hc5
    refine Sx.C.no (by kernel_rfl) (by kernel_rfl) ?_
    refine Sx.C.skip (Sx.E.block_normal (Sx.E.next (Sx.C.region ?_)))
    refine Sx.G.q (.int .i64 (IntKind.i64.wrap ((i : Int) + 1))) (.int .i64 ((i + 1 : Nat) : Int)) (congrArg (Value.int .i64) (Sx.wrap_up i (by omega))) ?_
    refine Sx.G.p (.int .i64 ((i + 1 : Nat) : Int)) ?_
    refine Sx.G.nil ?_
    have hup : xs.take (i + 1) = ys.take (i + 1) := take_up (by omega) (by omega) hx.2 (by rw [← hx3, ← hx4]; exact eqv_iff.1 hc5)
    exact Sx.E.again (i + 1) ⟨by omega, hup⟩ (by omega) (fun a hA => (Sx.Ag.and hA (Sx.Ag.and hA (Sx.Ag.and hA (Sx.Ag.and hA (Sx.Ag.and hA (Sx.Ag.none hA) _ _ (by kernel_rfl)) _ _ (by kernel_rfl)) _ _ (by kernel_rfl)) _ _ (by kernel_rfl)) _ _ (by kernel_rfl))) (fun w S => S)
 ·
  have hb1 := hc1
  refine Sx.C.yes (by kernel_rfl) (by kernel_rfl) ?_
  refine Sx.C.seq (Sx.C.region ?_)
  refine Sx.G.p (.bool false) ?_
  refine Sx.G.nil (Sx.E.next (Sx.C.ret (Sx.E.then_ret ?_)))
  refine Sx.E.ret1 (.bool false) rfl (by kernel_rfl) (fun w S => ?_)
  have hne : xs ≠ ys := fun e => by subst e; simp at *
  exact ⟨by rw [eqv_false hne], S.below⟩
theorem implx_eqgs (xs ys : (List gT)) (A : Option Addr) (c : Nat) (B : Option Addr) (d : Nat) (w : World) (hwx : ∀ x ∈ xs, wG.wf x) (hwy : ∀ y ∈ ys, wG.wf y) (hc : (rLsw wG).cap xs) (hd : (rLsw wG).cap ys) (h : rdLst wG w 0 w.heap.size xs [.slice A xs.length c]) (j : rdLst wG w 0 w.heap.size ys [.slice B ys.length d]) : Calls Tryz.prog 51 #[.slice A xs.length c, .slice B ys.length d, .func (.func 52) #[] #[]] w (fun e w' => e = .returned (.bool (eqv xs ys)) ∧ Below w.heap.size w w') := by
 obtain ⟨hl, hcx⟩ := hc
 obtain ⟨hm, hcy⟩ := hd
 refine Sx.enter (args := [.slice A xs.length c, .slice B ys.length d, .func (.func 52) #[] #[]]) Tryz.func51 rfl Tryz.ntmps51 rfl ?_
 refine Sx.C.seq (Sx.C.region ?_)
 refine Sx.G.p (.bool false) ?_
 refine Sx.G.nil (Sx.E.next (Sx.C.seq (Sx.C.seq (Sx.C.region ?_))))
 refine Sx.G.p (.slice A xs.length c) ?_
 refine Sx.G.p (.int .i64 ((xs.length : Nat) : Int)) ?_
 refine Sx.G.p (.slice B ys.length d) ?_
 refine Sx.G.p (.int .i64 ((ys.length : Nat) : Int)) ?_
 refine Sx.G.p (.bool (((xs.length : Nat) : Int) != ((ys.length : Nat) : Int))) ?_
 refine Sx.G.nil (Sx.E.next ?_)
 cases hc1 : (((xs.length : Nat) : Int) != ((ys.length : Nat) : Int))
 ·
  have hb1 := hc1
  have hlen : xs.length = ys.length := by have := bne_eq_false_iff_eq.1 hc1; omega
  refine Sx.C.no (by kernel_rfl) (by kernel_rfl) ?_
  refine Sx.C.skip (Sx.E.next (Sx.C.seq (Sx.C.seq (Sx.C.region ?_))))
  refine Sx.G.p (.slice A xs.length c) ?_
  refine Sx.G.p (.int .i64 ((xs.length : Nat) : Int)) ?_
  refine Sx.G.p (.int .i64 0) ?_
  refine Sx.G.nil (Sx.E.next (Sx.C.block ?_))
  refine Sx.C.loop (α := Nat) (fun i => i ≤ xs.length ∧ xs.take i = ys.take i) (fun i => [(17, .int .i64 (i : Int)), (1, .slice B ys.length d), (2, .func (.func 52) #[] #[]), (6, .bool false), (15, .slice A xs.length c), (16, .int .i64 ((xs.length : Nat) : Int))]) (fun i => []) (fun i => xs.length - i) 0 ⟨Nat.zero_le _, rfl⟩ (fun a hA => (Sx.Ag.and hA (Sx.Ag.and hA (Sx.Ag.and hA (Sx.Ag.and hA (Sx.Ag.and hA (Sx.Ag.and hA (Sx.Ag.none hA) _ _ (by kernel_rfl)) _ _ (by kernel_rfl)) _ _ (by kernel_rfl)) _ _ (by kernel_rfl)) _ _ (by kernel_rfl)) _ _ (by kernel_rfl))) (fun w S => S) (fun i hx => ?_)
  have hxi := hx.1
  refine Sx.C.seq (Sx.C.region ?_)
  refine Sx.G.p (.bool (decide ((i : Int) < ((xs.length : Nat) : Int)))) ?_
  refine Sx.G.nil (Sx.E.next (Sx.C.seq ?_))
  cases hc2 : (decide ((i : Int) < ((xs.length : Nat) : Int)))
  ·
   have hb2 := hc2
   replace hc2 := of_decide_eq_false hc2
   refine Sx.C.no (by kernel_rfl) (by kernel_rfl) ?_
   refine Sx.C.exit (Sx.E.then_exit (Sx.E.then_exit (Sx.E.block_hit (Sx.E.next (Sx.C.seq (Sx.C.region ?_))))))
   refine Sx.G.p (.bool true) ?_
   refine Sx.G.nil (Sx.E.next (Sx.C.ret ?_))
   refine Sx.E.ret1 (.bool true) rfl (by kernel_rfl) (fun w S => ?_)
   have he : xs = ys := by have h2 := hx.2; rwa [List.take_of_length_le (by omega), List.take_of_length_le (by omega)] at h2
   exact ⟨by rw [eqv_true he], S.below⟩
  ·
   have hb2 := hc2
   replace hc2 := of_decide_eq_true hc2
   refine Sx.C.yes (by kernel_rfl) (by kernel_rfl) ?_
   refine Sx.C.skip (Sx.E.next (Sx.C.seq (Sx.C.block (Sx.C.seq (Sx.C.region ?_)))))
   refine Sx.G.p (.int .i64 (i : Int)) ?_
   obtain ⟨b3, f3, es3, eA3, hr3, hl3, hm3⟩ := Sx.old_elem (by decide) h i (by omega)
   subst eA3
   obtain ⟨x3, hx3⟩ : ∃ z_, z_ = (xs[i]'(by omega)) := ⟨_, rfl⟩
   rw [← hx3] at hr3
   have hR3 := hr3
   obtain ⟨P3_0, P3_1, P3_2, P3_3, rfl, hf3_0, hf3_1, hf3_2, hf3_3⟩ := wG_rd hr3
   obtain ⟨A3_0, c3_0, e3_0, -⟩ := lst_val hf3_0
   subst e3_0
   obtain ⟨A3_1, c3_1, e3_1, -⟩ := lst_val hf3_1
   subst e3_1
   obtain ⟨A3_2, c3_2, e3_2, -⟩ := lst_val hf3_2
   subst e3_2
   obtain ⟨A3_3, c3_3, e3_3, -⟩ := lst_val hf3_3
   subst e3_3
   refine Sx.G.elem 27 39 (.tmp 15) (.tmp 17) 15 184 b3 f3 xs.length c i rfl (by kernel_rfl) (by kernel_rfl) (by kernel_rfl) (by kernel_rfl) (by omega) ?_
   refine Sx.G.ldr 39 (.tmp 20) b3 (f3 + i * 15) [.slice A3_0 x3.prog.length c3_0, .int .i64 x3.a, .int .i64 x3.pc, .slice A3_1 x3.wr.length c3_1, .slice A3_2 x3.lv.length c3_2, .int .i64 x3.t.1, .int .i64 x3.t.2.1, .bool x3.t.2.2, .int .i64 x3.pd, .int .i64 x3.x.1, .int .i64 x3.x.2.1, .bool x3.x.2.2.1, .int .i64 x3.x.2.2.2, .bool x3.hl, .slice A3_3 x3.seen.length c3_3] rfl (by kernel_rfl) (by kernel_rfl) (fun w S => hm3 w _ S) (by kernel_rfl) (by kernel_rfl) ?_
   refine Sx.G.ar [.slice none 0 0, .int .i64 0, .int .i64 0, .slice none 0 0, .slice none 0 0, .int .i64 0, .int .i64 0, .bool false, .int .i64 0, .int .i64 0, .int .i64 0, .bool false, .int .i64 0, .bool false, .slice none 0 0] (fun b4 => ?_)
   refine Sx.G.p (.int .i64 (i : Int)) ?_
   refine Sx.G.sw [.slice A3_0 x3.prog.length c3_0, .int .i64 x3.a, .int .i64 x3.pc, .slice A3_1 x3.wr.length c3_1, .slice A3_2 x3.lv.length c3_2, .int .i64 x3.t.1, .int .i64 x3.t.2.1, .bool x3.t.2.2, .int .i64 x3.pd, .int .i64 x3.x.1, .int .i64 x3.x.2.1, .bool x3.x.2.2.1, .int .i64 x3.x.2.2.2, .bool x3.hl, .slice A3_3 x3.seen.length c3_3] .a0 ?_
   refine Sx.G.nil (Sx.E.next (Sx.C.seq (Sx.C.region ?_)))
   refine Sx.G.p (.slice B ys.length d) ?_
   refine Sx.G.p (.int .i64 (i : Int)) ?_
   obtain ⟨b5, f5, es5, eA5, hr5, hl5, hm5⟩ := Sx.old_elem (by decide) j i (by omega)
   subst eA5
   obtain ⟨x5, hx5⟩ : ∃ z_, z_ = (ys[i]'(by omega)) := ⟨_, rfl⟩
   rw [← hx5] at hr5
   have hR5 := hr5
   obtain ⟨P5_0, P5_1, P5_2, P5_3, rfl, hf5_0, hf5_1, hf5_2, hf5_3⟩ := wG_rd hr5
   obtain ⟨A5_0, c5_0, e5_0, -⟩ := lst_val hf5_0
   subst e5_0
   obtain ⟨A5_1, c5_1, e5_1, -⟩ := lst_val hf5_1
   subst e5_1
   obtain ⟨A5_2, c5_2, e5_2, -⟩ := lst_val hf5_2
   subst e5_2
   obtain ⟨A5_3, c5_3, e5_3, -⟩ := lst_val hf5_3
   subst e5_3
   refine Sx.G.elem 27 39 (.tmp 22) (.tmp 23) 15 184 b5 f5 ys.length d i rfl (by kernel_rfl) (by kernel_rfl) (by kernel_rfl) (by kernel_rfl) (by omega) ?_
   refine Sx.G.ldr 39 (.tmp 24) b5 (f5 + i * 15) [.slice A5_0 x5.prog.length c5_0, .int .i64 x5.a, .int .i64 x5.pc, .slice A5_1 x5.wr.length c5_1, .slice A5_2 x5.lv.length c5_2, .int .i64 x5.t.1, .int .i64 x5.t.2.1, .bool x5.t.2.2, .int .i64 x5.pd, .int .i64 x5.x.1, .int .i64 x5.x.2.1, .bool x5.x.2.2.1, .int .i64 x5.x.2.2.2, .bool x5.hl, .slice A5_3 x5.seen.length c5_3] rfl (by kernel_rfl) (by kernel_rfl) (fun w S => hm5 w _ S) (by kernel_rfl) (by kernel_rfl) ?_
   refine Sx.G.ar [.slice none 0 0, .int .i64 0, .int .i64 0, .slice none 0 0, .slice none 0 0, .int .i64 0, .int .i64 0, .bool false, .int .i64 0, .int .i64 0, .int .i64 0, .bool false, .int .i64 0, .bool false, .slice none 0 0] (fun b6 => ?_)
   refine Sx.G.sw [.slice A5_0 x5.prog.length c5_0, .int .i64 x5.a, .int .i64 x5.pc, .slice A5_1 x5.wr.length c5_1, .slice A5_2 x5.lv.length c5_2, .int .i64 x5.t.1, .int .i64 x5.t.2.1, .bool x5.t.2.2, .int .i64 x5.pd, .int .i64 x5.x.1, .int .i64 x5.x.2.1, .bool x5.x.2.2.1, .int .i64 x5.x.2.2.2, .bool x5.hl, .slice A5_3 x5.seen.length c5_3] .a0 ?_
   refine Sx.G.nil (Sx.E.next (Sx.C.seq (Sx.C.region ?_)))
   refine Sx.G.p (.func (.func 52) #[] #[]) ?_
   refine Sx.G.lw .m1 ?_
   refine Sx.G.lw .m0 ?_
   refine Sx.G.cp 52 #[.agg #[.slice A3_0 x3.prog.length c3_0, .int .i64 x3.a, .int .i64 x3.pc, .slice A3_1 x3.wr.length c3_1, .slice A3_2 x3.lv.length c3_2, .int .i64 x3.t.1, .int .i64 x3.t.2.1, .bool x3.t.2.2, .int .i64 x3.pd, .int .i64 x3.x.1, .int .i64 x3.x.2.1, .bool x3.x.2.2.1, .int .i64 x3.x.2.2.2, .bool x3.hl, .slice A3_3 x3.seen.length c3_3], .agg #[.slice A5_0 x5.prog.length c5_0, .int .i64 x5.a, .int .i64 x5.pc, .slice A5_1 x5.wr.length c5_1, .slice A5_2 x5.lv.length c5_2, .int .i64 x5.t.1, .int .i64 x5.t.2.1, .bool x5.t.2.2, .int .i64 x5.pd, .int .i64 x5.x.1, .int .i64 x5.x.2.1, .bool x5.x.2.2.1, .int .i64 x5.x.2.2.2, .bool x5.hl, .slice A5_3 x5.seen.length c5_3]] (.bool (eqv x3 x5)) (fun w S => by exact ((Guests.impl_gsame x3 x5 _ _ _ (hwx _ (hx3 ▸ List.getElem_mem _)) (hwy _ (hx5 ▸ List.getElem_mem _)) (cap_G (hcx _ (hx3 ▸ List.getElem_mem _))) (cap_G (hcy _ (hx5 ▸ List.getElem_mem _))) (rd_G (St.old S hR3)) (rd_G (St.old S hR5))).mono fun e w' h => And.intro (h.1.trans (by rw [sameG_eqv])) h.2)) ?_
   refine Sx.G.p (.bool (!(eqv x3 x5))) ?_
   refine Sx.G.nil (Sx.E.next ?_)
   cases hc7 : (eqv x3 x5)
   ·
    have hb7 := hc7
    refine Sx.C.yes (by kernel_rfl) (by kernel_rfl) ?_
    refine Sx.C.seq (Sx.C.region ?_)
    refine Sx.G.p (.bool false) ?_
    refine Sx.G.nil (Sx.E.next (Sx.C.ret (Sx.E.block_ret (Sx.E.then_ret (Sx.E.then_ret (Sx.E.block_ret (Sx.E.then_ret ?_)))))))
    refine Sx.E.ret1 (.bool false) rfl (by kernel_rfl) (fun w S => ?_)
    have hne : xs ≠ ys := take_ne (xs := xs) (ys := ys) (i := i) (by omega) (by omega) (by rw [← hx3, ← hx5]; exact ne_of_eqv hc7)
    exact ⟨by rw [eqv_false hne], S.below⟩
   ·
    have hb7 := hc7
    refine Sx.C.no (by kernel_rfl) (by kernel_rfl) ?_
    refine Sx.C.skip (Sx.E.block_normal (Sx.E.next (Sx.C.region ?_)))
    refine Sx.G.q (.int .i64 (IntKind.i64.wrap ((i : Int) + 1))) (.int .i64 ((i + 1 : Nat) : Int)) (congrArg (Value.int .i64) (Sx.wrap_up i (by omega))) ?_
    refine Sx.G.p (.int .i64 ((i + 1 : Nat) : Int)) ?_
    refine Sx.G.nil ?_
    have hup : xs.take (i + 1) = ys.take (i + 1) := take_up (by omega) (by omega) hx.2 (by rw [← hx3, ← hx5]; exact eqv_iff.1 hc7)
    exact Sx.E.again (i + 1) ⟨by omega, hup⟩ (by omega) (fun a hA => (Sx.Ag.and hA (Sx.Ag.and hA (Sx.Ag.and hA (Sx.Ag.and hA (Sx.Ag.and hA (Sx.Ag.and hA (Sx.Ag.none hA) _ _ (by kernel_rfl)) _ _ (by kernel_rfl)) _ _ (by kernel_rfl)) _ _ (by kernel_rfl)) _ _ (by kernel_rfl)) _ _ (by kernel_rfl))) (fun w S => St.pick S [] _ rfl (by decide))
 ·
  have hb1 := hc1
  refine Sx.C.yes (by kernel_rfl) (by kernel_rfl) ?_
  refine Sx.C.seq (Sx.C.region ?_)
  refine Sx.G.p (.bool false) ?_
  refine Sx.G.nil (Sx.E.next (Sx.C.ret (Sx.E.then_ret ?_)))
  refine Sx.E.ret1 (.bool false) rfl (by kernel_rfl) (fun w S => ?_)
  have hne : xs ≠ ys := fun e => by subst e; simp at *
  exact ⟨by rw [eqv_false hne], S.below⟩
theorem impl_bnew (x : List (List (Int × Int))) (A : Option Addr) (c : Nat) (w : World) (hn : (rLsw (rLsw (rPair rInt rInt))).wf x) (hc : (rLsw (rLsw (rPair rInt rInt))).cap x) (h : rdLst (rLsw (rPair rInt rInt)) w 0 w.heap.size x [.slice A x.length c]) : Calls Tryz.prog 6 #[.slice A x.length c] w (Gives wB w (newB x)) := by
 refine Sx.enter (args := [.slice A x.length c]) Tryz.func6 rfl Tryz.ntmps6 rfl ?_
 refine Sx.C.seq (Sx.C.region ?_)
 refine Sx.G.ar [.slice none 0 0, .slice none 0 0, .slice none 0 0, .int .i64 0] (fun b1 => ?_)
 refine Sx.G.nil (Sx.E.next (Sx.C.seq (Sx.C.region ?_)))
 refine Sx.G.c 29 #[.int .i64 8] (fun w2 S => (implx_memnew 8 _).mono fun e w2' hp => ?_)
 rw [show Grid.newN 8 = 8 by decide] at hp
 obtain ⟨cs, F, rfl, ho, hF, hb⟩ := hp
 obtain ⟨u2, rfl⟩ := lsw_own ho
 obtain ⟨A2, c2, e2, -⟩ := lst_val ((rLsw _).reads ho)
 subst e2
 generalize F = F2 at ho hF
 refine ⟨_, _, rfl, (St.got S hb ho hF), ?_⟩
 clear S hb ho hF
 refine Sx.G.p (.slice A x.length c) ?_
 refine Sx.G.c 30 #[.slice A x.length c] (fun w3 S => (implx_newguests x A c _ hc (St.old (r := (rLsw (rLsw (rPair rInt rInt)))) S h)).mono fun e w3' hp => ?_)
 obtain ⟨cs, F, rfl, ho, hF, hb⟩ := hp
 obtain ⟨u3, rfl⟩ := lsw_own ho
 obtain ⟨A3, c3, e3, -⟩ := lst_val ((rLsw _).reads ho)
 subst e3
 generalize F = F3 at ho hF
 refine ⟨_, _, rfl, (St.got S hb ho hF), ?_⟩
 clear S hb ho hF
 refine Sx.G.p (.agg #[.slice A2 (List.replicate 8 ([0, 0, 0, 0] : List Int)).length c2, .slice A3 ((x.take 2).map newG).length c3, .slice none 0 0, .int .i64 0]) ?_
 refine Sx.G.sw [.slice A2 (List.replicate 8 ([0, 0, 0, 0] : List Int)).length c2, .slice A3 ((x.take 2).map newG).length c3, .slice none 0 0, .int .i64 0] .a2 ?_
 refine Sx.G.nil (Sx.E.next (Sx.C.ret ?_))
 refine Sx.E.retc b1 2 [.slice A2 (List.replicate 8 ([0, 0, 0, 0] : List Int)).length c2, .slice A3 ((x.take 2).map newG).length c3, .slice none 0 0, .int .i64 0] rfl (by kernel_rfl) rfl (by kernel_rfl) (by kernel_rfl) (fun w S => ?_)
 replace S := St.nil S 3 rInt
 obtain ⟨ho, hF⟩ := rB_shut (g := newB x) S 2 rfl 1 rfl 0 rfl (by decide) (by decide) (by decide)
 exact weak_B _ _ ⟨_, _, rfl, ho, hF, S.below⟩
theorem impl_bok (x : bT) (cs : List Value) (w : World) (hn : wB.wf x) (hc : wB.cap x) (h : wB.rd w 0 w.heap.size x cs) : Calls Tryz.prog 22 #[.agg cs.toArray] w (fun e w' => e = .returned (.bool (bareOk x)) ∧ Below w.heap.size w w') := by
 obtain ⟨hcap0, hcap1, hcap2, hcap3⟩ := hc
 have hR := h
 obtain ⟨hP0, hP1, hP2, rfl, hf0, hf1, hf2⟩ := wB_rd h
 obtain ⟨hA0, hK0, he0, -⟩ := lst_val hf0
 subst he0
 obtain ⟨hA1, hK1, he1, -⟩ := lst_val hf1
 subst he1
 obtain ⟨hA2, hK2, he2, -⟩ := lst_val hf2
 subst he2
 refine Sx.enter (args := [.agg #[.slice hA0 x.mem.length hK0, .slice hA1 x.gs.length hK1, .slice hA2 x.outs.length hK2, .int .i64 x.pd]]) Tryz.func22 rfl Tryz.ntmps22 rfl ?_
 refine Sx.C.seq (Sx.C.region ?_)
 refine Sx.G.b [.slice hA0 x.mem.length hK0, .slice hA1 x.gs.length hK1, .slice hA2 x.outs.length hK2, .int .i64 x.pd] (fun b1 => ?_)
 refine Sx.G.p (.bool false) ?_
 refine Sx.G.nil (Sx.E.next (Sx.C.seq (Sx.C.region ?_)))
 refine Sx.G.p (.pointer (some ⟨b1, 0, none⟩)) ?_
 refine Sx.G.g (.slice hA0 x.mem.length hK0) .m0 .m0 ?_
 refine Sx.G.cp 54 #[.slice hA0 x.mem.length hK0, .int .i64 8] (.bool (Grid.memB x.mem 8)) (fun w S => by exact implx_memok x.mem hA0 hK0 8 _ hcap0 (St.old (r := (rLsw (rLsw rInt))) S hf0)) ?_
 refine Sx.G.p (.bool (Grid.memB x.mem 8)) ?_
 cases hc2 : (Grid.memB x.mem 8)
 ·
  have hb2 := hc2
  refine Sx.G.k ?_
  refine Sx.G.k ?_
  refine Sx.G.k ?_
  refine Sx.G.p (.bool false) ?_
  refine Sx.G.p (.bool false) ?_
  refine Sx.G.k ?_
  refine Sx.G.k ?_
  refine Sx.G.k ?_
  refine Sx.G.k ?_
  refine Sx.G.p (.bool false) ?_
  refine Sx.G.p (.bool false) ?_
  refine Sx.G.k ?_
  refine Sx.G.k ?_
  refine Sx.G.k ?_
  refine Sx.G.p (.bool false) ?_
  refine Sx.G.p (.bool false) ?_
  refine Sx.G.nil (Sx.E.next (Sx.C.ret ?_))
  refine Sx.E.ret1 (.bool false) rfl (by kernel_rfl) (fun w S => ?_)
  have HBO : bareOk x = (Grid.memB x.mem 8 && gsOk x.gs && decide (((x.outs.length : Nat) : Int) ≤ 40) && Irqs.pend x.pd) := by unfold bareOk gsOk; generalize x.gs.all guestOk = a1; generalize Grid.memB x.mem 8 = a2; generalize inB ((x.gs.length : Nat) : Int) 1 2 = a3; revert a1 a2 a3; generalize decide (((x.outs.length : Nat) : Int) ≤ 40) = a4; generalize Irqs.pend x.pd = a5; revert a4 a5; decide
  exact ⟨congrArg Ending.returned (congrArg Value.bool (by simp only [HBO, hb2, Bool.and_true, Bool.and_false, Bool.false_and, Bool.true_and])), S.below⟩
 ·
  have hb2 := hc2
  refine Sx.G.p (.pointer (some ⟨b1, 1, none⟩)) ?_
  refine Sx.G.g (.slice hA1 x.gs.length hK1) .m0 .m1 ?_
  refine Sx.G.cp 55 #[.slice hA1 x.gs.length hK1] (.bool (gsOk x.gs)) (fun w S => by exact implx_gsok x.gs hA1 hK1 _ hn.2.1 hcap1 (St.old (r := (rLsw wG)) S hf1)) ?_
  refine Sx.G.p (.bool (gsOk x.gs)) ?_
  refine Sx.G.p (.bool (gsOk x.gs)) ?_
  cases hc3 : (gsOk x.gs)
  ·
   have hb3 := hc3
   refine Sx.G.k ?_
   refine Sx.G.k ?_
   refine Sx.G.k ?_
   refine Sx.G.k ?_
   refine Sx.G.p (.bool false) ?_
   refine Sx.G.p (.bool false) ?_
   refine Sx.G.k ?_
   refine Sx.G.k ?_
   refine Sx.G.k ?_
   refine Sx.G.p (.bool false) ?_
   refine Sx.G.p (.bool false) ?_
   refine Sx.G.nil (Sx.E.next (Sx.C.ret ?_))
   refine Sx.E.ret1 (.bool false) rfl (by kernel_rfl) (fun w S => ?_)
   have HBO : bareOk x = (Grid.memB x.mem 8 && gsOk x.gs && decide (((x.outs.length : Nat) : Int) ≤ 40) && Irqs.pend x.pd) := by unfold bareOk gsOk; generalize x.gs.all guestOk = a1; generalize Grid.memB x.mem 8 = a2; generalize inB ((x.gs.length : Nat) : Int) 1 2 = a3; revert a1 a2 a3; generalize decide (((x.outs.length : Nat) : Int) ≤ 40) = a4; generalize Irqs.pend x.pd = a5; revert a4 a5; decide
   exact ⟨congrArg Ending.returned (congrArg Value.bool (by simp only [HBO, hb2, hb3, Bool.and_true, Bool.and_false, Bool.false_and, Bool.true_and])), S.below⟩
  ·
   have hb3 := hc3
   refine Sx.G.p (.pointer (some ⟨b1, 2, none⟩)) ?_
   refine Sx.G.g (.slice hA2 x.outs.length hK2) .m0 .m2 ?_
   refine Sx.G.cp 48 #[.slice hA2 x.outs.length hK2] (.agg #[.slice hA2 x.outs.length hK2, .int .i64 40]) (fun w S => by exact implx_bI hA2 x.outs.length hK2 _) ?_
   refine Sx.G.cp 56 #[.agg #[.slice hA2 x.outs.length hK2, .int .i64 40]] (.bool (decide (((x.outs.length : Nat) : Int) ≤ 40))) (fun w S => by exact implx_okI hA2 x.outs.length hK2 40 _) ?_
   refine Sx.G.p (.bool (decide (((x.outs.length : Nat) : Int) ≤ 40))) ?_
   refine Sx.G.p (.bool (decide (((x.outs.length : Nat) : Int) ≤ 40))) ?_
   cases hc4 : (decide (((x.outs.length : Nat) : Int) ≤ 40))
   ·
    have hb4 := hc4
    replace hc4 := of_decide_eq_false hc4
    refine Sx.G.k ?_
    refine Sx.G.k ?_
    refine Sx.G.k ?_
    refine Sx.G.p (.bool false) ?_
    refine Sx.G.p (.bool false) ?_
    refine Sx.G.nil (Sx.E.next (Sx.C.ret ?_))
    refine Sx.E.ret1 (.bool false) rfl (by kernel_rfl) (fun w S => ?_)
    have HBO : bareOk x = (Grid.memB x.mem 8 && gsOk x.gs && decide (((x.outs.length : Nat) : Int) ≤ 40) && Irqs.pend x.pd) := by unfold bareOk gsOk; generalize x.gs.all guestOk = a1; generalize Grid.memB x.mem 8 = a2; generalize inB ((x.gs.length : Nat) : Int) 1 2 = a3; revert a1 a2 a3; generalize decide (((x.outs.length : Nat) : Int) ≤ 40) = a4; generalize Irqs.pend x.pd = a5; revert a4 a5; decide
    exact ⟨congrArg Ending.returned (congrArg Value.bool (by simp only [HBO, hb2, hb3, hb4, Bool.and_true, Bool.and_false, Bool.false_and, Bool.true_and])), S.below⟩
   ·
    have hb4 := hc4
    replace hc4 := of_decide_eq_true hc4
    refine Sx.G.p (.pointer (some ⟨b1, 3, none⟩)) ?_
    refine Sx.G.g (.int .i64 x.pd) .m0 .m3 ?_
    refine Sx.G.cp 57 #[.int .i64 x.pd] (.bool (Irqs.pend x.pd)) (fun w S => by exact Irqs.impl_pend x.pd _ hn.2.2.2) ?_
    refine Sx.G.p (.bool (Irqs.pend x.pd)) ?_
    refine Sx.G.p (.bool (Irqs.pend x.pd)) ?_
    refine Sx.G.nil (Sx.E.next (Sx.C.ret ?_))
    refine Sx.E.ret1 (.bool (Irqs.pend x.pd)) rfl (by kernel_rfl) (fun w S => ?_)
    have HBO : bareOk x = (Grid.memB x.mem 8 && gsOk x.gs && decide (((x.outs.length : Nat) : Int) ≤ 40) && Irqs.pend x.pd) := by unfold bareOk gsOk; generalize x.gs.all guestOk = a1; generalize Grid.memB x.mem 8 = a2; generalize inB ((x.gs.length : Nat) : Int) 1 2 = a3; revert a1 a2 a3; generalize decide (((x.outs.length : Nat) : Int) ≤ 40) = a4; generalize Irqs.pend x.pd = a5; revert a4 a5; decide
    exact ⟨congrArg Ending.returned (congrArg Value.bool (by simp only [HBO, hb2, hb3, hb4, Bool.and_true, Bool.and_false, Bool.false_and, Bool.true_and])), S.below⟩
theorem impl_gat (x : bT) (cs : List Value) (g : Int) (w : World) (hn : wB.wf x) (hc : wB.cap x) (h : wB.rd w 0 w.heap.size x cs) (hg : (Lit.int .i64 g).wf = true) : Calls Tryz.prog 10 #[.agg cs.toArray, .int .i64 g] w (Gives2 wG w (guestAt x g)) := by
 obtain ⟨hcap0, hcap1, hcap2, hcap3⟩ := hc
 have hgl : x.gs.length ≤ 1048576 := hcap1.1
 have hR := h
 obtain ⟨hP0, hP1, hP2, rfl, hf0, hf1, hf2⟩ := wB_rd h
 obtain ⟨hA0, hK0, he0, -⟩ := lst_val hf0
 subst he0
 obtain ⟨hA1, hK1, he1, -⟩ := lst_val hf1
 subst he1
 obtain ⟨hA2, hK2, he2, -⟩ := lst_val hf2
 subst he2
 refine Sx.enter (args := [.agg #[.slice hA0 x.mem.length hK0, .slice hA1 x.gs.length hK1, .slice hA2 x.outs.length hK2, .int .i64 x.pd], .int .i64 g]) Tryz.func10 rfl Tryz.ntmps10 rfl ?_
 refine Sx.C.seq (Sx.C.region ?_)
 refine Sx.G.b [.slice hA0 x.mem.length hK0, .slice hA1 x.gs.length hK1, .slice hA2 x.outs.length hK2, .int .i64 x.pd] (fun b1 => ?_)
 refine Sx.G.ar [.slice none 0 0, .int .i64 0, .int .i64 0, .slice none 0 0, .slice none 0 0, .int .i64 0, .int .i64 0, .bool false, .int .i64 0, .int .i64 0, .int .i64 0, .bool false, .int .i64 0, .bool false, .slice none 0 0] (fun b2 => ?_)
 refine Sx.G.p (.bool false) ?_
 refine Sx.G.nil (Sx.E.next (Sx.C.seq (Sx.C.seq (Sx.C.region ?_))))
 refine Sx.G.p (.pointer (some ⟨b1, 1, none⟩)) ?_
 refine Sx.G.g (.slice hA1 x.gs.length hK1) .m1 .m1 ?_
 refine Sx.G.p (.int .i64 g) ?_
 refine Sx.G.cp 35 #[.slice hA1 x.gs.length hK1, .int .i64 g] (.bool (inB g 0 (((x.gs.length : Nat) : Int) - 1))) (fun w S => by exact implx_has hA1 x.gs.length hK1 g _) ?_
 refine Sx.G.p (.bool (!(inB g 0 (((x.gs.length : Nat) : Int) - 1)))) ?_
 refine Sx.G.nil (Sx.E.next ?_)
 cases hc3 : (inB g 0 (((x.gs.length : Nat) : Int) - 1))
 ·
  have hb3 := hc3
  refine Sx.C.yes (by kernel_rfl) (by kernel_rfl) ?_
  refine Sx.C.seq (Sx.C.region ?_)
  refine Sx.G.p (.agg #[.slice none 0 0, .int .i64 0, .int .i64 0, .slice none 0 0, .slice none 0 0, .int .i64 0, .int .i64 0, .bool false, .int .i64 0, .int .i64 0, .int .i64 0, .bool false, .int .i64 0, .bool false, .slice none 0 0]) ?_
  refine Sx.G.sw [.slice none 0 0, .int .i64 0, .int .i64 0, .slice none 0 0, .slice none 0 0, .int .i64 0, .int .i64 0, .bool false, .int .i64 0, .int .i64 0, .int .i64 0, .bool false, .int .i64 0, .bool false, .slice none 0 0] .a0 ?_
  refine Sx.G.p (.bool false) ?_
  refine Sx.G.nil (Sx.E.next (Sx.C.ret (Sx.E.then_ret ?_)))
  refine Sx.E.retg2 (.agg #[.slice none 0 0, .int .i64 0, .int .i64 0, .slice none 0 0, .slice none 0 0, .int .i64 0, .int .i64 0, .bool false, .int .i64 0, .int .i64 0, .int .i64 0, .bool false, .int .i64 0, .bool false, .slice none 0 0]) (.bool false) rfl (Sx.IsRes.row b2 0 [.slice none 0 0, .int .i64 0, .int .i64 0, .slice none 0 0, .slice none 0 0, .int .i64 0, .int .i64 0, .bool false, .int .i64 0, .int .i64 0, .int .i64 0, .bool false, .int .i64 0, .bool false, .slice none 0 0] (by kernel_rfl) rfl (by kernel_rfl) (by kernel_rfl)) (Sx.IsRes.slot (by kernel_rfl)) (fun w S => ?_)
  rw [show guestAt x g = (zeroG, false) from if_neg (by rw [hc3]; decide)]
  exact ⟨_, [], rfl, own_zero_Guest _ _ _, List.nodup_nil, S.below⟩
 ·
  have hb3 := hc3
  have hin := inB_iff.1 hc3
  obtain ⟨j, hj⟩ : ∃ j : Nat, g = (j : Int) := ⟨g.toNat, by omega⟩
  subst hj
  have hjl : j < x.gs.length := by omega
  refine Sx.C.no (by kernel_rfl) (by kernel_rfl) ?_
  refine Sx.C.skip (Sx.E.next (Sx.C.seq (Sx.C.region ?_)))
  refine Sx.G.p (.pointer (some ⟨b1, 1, none⟩)) ?_
  refine Sx.G.g (.slice hA1 x.gs.length hK1) .m1 .m1 ?_
  refine Sx.G.p (.int .i64 (j : Int)) ?_
  obtain ⟨b4, f4, es4, eA4, hr4, hl4, hm4⟩ := Sx.old_elem (by decide) hf1 j (by omega)
  subst eA4
  obtain ⟨x4, hx4⟩ : ∃ z_, z_ = (x.gs[j]'(by omega)) := ⟨_, rfl⟩
  rw [← hx4] at hr4
  have hR4 := hr4
  obtain ⟨P4_0, P4_1, P4_2, P4_3, rfl, hf4_0, hf4_1, hf4_2, hf4_3⟩ := wG_rd hr4
  obtain ⟨A4_0, c4_0, e4_0, -⟩ := lst_val hf4_0
  subst e4_0
  obtain ⟨A4_1, c4_1, e4_1, -⟩ := lst_val hf4_1
  subst e4_1
  obtain ⟨A4_2, c4_2, e4_2, -⟩ := lst_val hf4_2
  subst e4_2
  obtain ⟨A4_3, c4_3, e4_3, -⟩ := lst_val hf4_3
  subst e4_3
  refine Sx.G.elem 27 39 (.tmp 13) (.tmp 14) 15 184 b4 f4 x.gs.length hK1 j rfl (by kernel_rfl) (by kernel_rfl) (by kernel_rfl) (by kernel_rfl) (by omega) ?_
  refine Sx.G.ldr 39 (.tmp 15) b4 (f4 + j * 15) [.slice A4_0 x4.prog.length c4_0, .int .i64 x4.a, .int .i64 x4.pc, .slice A4_1 x4.wr.length c4_1, .slice A4_2 x4.lv.length c4_2, .int .i64 x4.t.1, .int .i64 x4.t.2.1, .bool x4.t.2.2, .int .i64 x4.pd, .int .i64 x4.x.1, .int .i64 x4.x.2.1, .bool x4.x.2.2.1, .int .i64 x4.x.2.2.2, .bool x4.hl, .slice A4_3 x4.seen.length c4_3] rfl (by kernel_rfl) (by kernel_rfl) (fun w S => hm4 w _ S) (by kernel_rfl) (by kernel_rfl) ?_
  refine Sx.G.c 36 #[.agg #[.slice A4_0 x4.prog.length c4_0, .int .i64 x4.a, .int .i64 x4.pc, .slice A4_1 x4.wr.length c4_1, .slice A4_2 x4.lv.length c4_2, .int .i64 x4.t.1, .int .i64 x4.t.2.1, .bool x4.t.2.2, .int .i64 x4.pd, .int .i64 x4.x.1, .int .i64 x4.x.2.1, .bool x4.x.2.2.1, .int .i64 x4.x.2.2.2, .bool x4.hl, .slice A4_3 x4.seen.length c4_3]] (fun w5 S => (implx_another x4 _ _ (hcap1.2 _ (hx4 ▸ List.getElem_mem _)) (St.old S hR4)).mono fun e w5' hp => ?_)
  obtain ⟨cs, F, rfl, ho, hF, hb⟩ := hp
  obtain ⟨P5_0, P5_1, P5_2, P5_3, rfl, f5_0, f5_1, f5_2, f5_3⟩ := wG_rd (wG.reads ho)
  obtain ⟨A5_0, c5_0, e5_0, -⟩ := lst_val f5_0
  subst e5_0
  obtain ⟨A5_1, c5_1, e5_1, -⟩ := lst_val f5_1
  subst e5_1
  obtain ⟨A5_2, c5_2, e5_2, -⟩ := lst_val f5_2
  subst e5_2
  obtain ⟨A5_3, c5_3, e5_3, -⟩ := lst_val f5_3
  subst e5_3
  generalize F = F5 at ho hF
  refine ⟨_, _, rfl, (St.got S hb ho hF), ?_⟩
  clear S hb ho hF f5_0 f5_1 f5_2 f5_3
  refine Sx.G.sw [.slice A5_0 x4.prog.length c5_0, .int .i64 x4.a, .int .i64 x4.pc, .slice A5_1 x4.wr.length c5_1, .slice A5_2 x4.lv.length c5_2, .int .i64 x4.t.1, .int .i64 x4.t.2.1, .bool x4.t.2.2, .int .i64 x4.pd, .int .i64 x4.x.1, .int .i64 x4.x.2.1, .bool x4.x.2.2.1, .int .i64 x4.x.2.2.2, .bool x4.hl, .slice A5_3 x4.seen.length c5_3] .a1 ?_
  refine Sx.G.p (.bool true) ?_
  refine Sx.G.nil (Sx.E.next (Sx.C.ret ?_))
  refine Sx.E.retg2 (.agg #[.slice A5_0 x4.prog.length c5_0, .int .i64 x4.a, .int .i64 x4.pc, .slice A5_1 x4.wr.length c5_1, .slice A5_2 x4.lv.length c5_2, .int .i64 x4.t.1, .int .i64 x4.t.2.1, .bool x4.t.2.2, .int .i64 x4.pd, .int .i64 x4.x.1, .int .i64 x4.x.2.1, .bool x4.x.2.2.1, .int .i64 x4.x.2.2.2, .bool x4.hl, .slice A5_3 x4.seen.length c5_3]) (.bool true) rfl (Sx.IsRes.row b2 1 [.slice A5_0 x4.prog.length c5_0, .int .i64 x4.a, .int .i64 x4.pc, .slice A5_1 x4.wr.length c5_1, .slice A5_2 x4.lv.length c5_2, .int .i64 x4.t.1, .int .i64 x4.t.2.1, .bool x4.t.2.2, .int .i64 x4.pd, .int .i64 x4.x.1, .int .i64 x4.x.2.1, .bool x4.x.2.2.1, .int .i64 x4.x.2.2.2, .bool x4.hl, .slice A5_3 x4.seen.length c5_3] (by kernel_rfl) rfl (by kernel_rfl) (by kernel_rfl)) (Sx.IsRes.slot (by kernel_rfl)) (fun w S => ?_)
  rw [show guestAt x (j : Int) = (x4, true) from by rw [hx4]; unfold guestAt; rw [hc3, if_pos rfl]; simp [List.getD_eq_getElem?_getD, hjl]]
  exact ⟨_, _, rfl, S.own 0 rfl, S.nodup 0 rfl, S.below⟩
theorem impl_withg (x : bT) (cs : List Value) (g : Int) (y : gT) (ds : List Value) (w : World) (hn : wB.wf x) (hc : wB.cap x) (h : wB.rd w 0 w.heap.size x cs) (hg : (Lit.int .i64 g).wf = true) (hy : wG.wf y) (hd : wG.cap y) (k : wG.rd w 0 w.heap.size y ds) : Calls Tryz.prog 8 #[.agg cs.toArray, .int .i64 g, .agg ds.toArray] w (Gives wB w (withG x g y)) := by
 have hgl : x.gs.length ≤ 1048576 := hc.2.1.1
 have hR := h
 obtain ⟨hP0, hP1, hP2, rfl, hf0, hf1, hf2⟩ := wB_rd h
 obtain ⟨hA0, hK0, he0, -⟩ := lst_val hf0
 subst he0
 obtain ⟨hA1, hK1, he1, -⟩ := lst_val hf1
 subst he1
 obtain ⟨hA2, hK2, he2, -⟩ := lst_val hf2
 subst he2
 have kR := k
 obtain ⟨kP0, kP1, kP2, kP3, rfl, kf0, kf1, kf2, kf3⟩ := wG_rd k
 obtain ⟨kA0, kK0, ke0, -⟩ := lst_val kf0
 subst ke0
 obtain ⟨kA1, kK1, ke1, -⟩ := lst_val kf1
 subst ke1
 obtain ⟨kA2, kK2, ke2, -⟩ := lst_val kf2
 subst ke2
 obtain ⟨kA3, kK3, ke3, -⟩ := lst_val kf3
 subst ke3
 refine Sx.enter (args := [.agg #[.slice hA0 x.mem.length hK0, .slice hA1 x.gs.length hK1, .slice hA2 x.outs.length hK2, .int .i64 x.pd], .int .i64 g, .agg #[.slice kA0 y.prog.length kK0, .int .i64 y.a, .int .i64 y.pc, .slice kA1 y.wr.length kK1, .slice kA2 y.lv.length kK2, .int .i64 y.t.1, .int .i64 y.t.2.1, .bool y.t.2.2, .int .i64 y.pd, .int .i64 y.x.1, .int .i64 y.x.2.1, .bool y.x.2.2.1, .int .i64 y.x.2.2.2, .bool y.hl, .slice kA3 y.seen.length kK3]]) Tryz.func8 rfl Tryz.ntmps8 rfl ?_
 refine Sx.C.seq (Sx.C.region ?_)
 refine Sx.G.b [.slice hA0 x.mem.length hK0, .slice hA1 x.gs.length hK1, .slice hA2 x.outs.length hK2, .int .i64 x.pd] (fun b1 => ?_)
 refine Sx.G.b [.slice kA0 y.prog.length kK0, .int .i64 y.a, .int .i64 y.pc, .slice kA1 y.wr.length kK1, .slice kA2 y.lv.length kK2, .int .i64 y.t.1, .int .i64 y.t.2.1, .bool y.t.2.2, .int .i64 y.pd, .int .i64 y.x.1, .int .i64 y.x.2.1, .bool y.x.2.2.1, .int .i64 y.x.2.2.2, .bool y.hl, .slice kA3 y.seen.length kK3] (fun b2 => ?_)
 refine Sx.G.ar [.slice none 0 0, .slice none 0 0, .slice none 0 0, .int .i64 0] (fun b3 => ?_)
 refine Sx.G.nil (Sx.E.next (Sx.C.seq (Sx.C.region ?_)))
 refine Sx.G.lw .m2 ?_
 refine Sx.G.c 34 #[.agg #[.slice hA0 x.mem.length hK0, .slice hA1 x.gs.length hK1, .slice hA2 x.outs.length hK2, .int .i64 x.pd]] (fun w4 S => (implx_copybare x _ _ hc (St.old S hR)).mono fun e w4' hp => ?_)
 obtain ⟨cs, F, rfl, ho, hF, hb⟩ := hp
 obtain ⟨P4_0, P4_1, P4_2, G4_0, G4_1, G4_2, rfl, S'⟩ := rB_open (St.got S hb ho hF)
 obtain ⟨A4_0, c4_0, e4_0, -⟩ := lst_val (S'.reads 0 rfl)
 subst e4_0
 obtain ⟨A4_1, c4_1, e4_1, -⟩ := lst_val (S'.reads 1 rfl)
 subst e4_1
 obtain ⟨A4_2, c4_2, e4_2, -⟩ := lst_val (S'.reads 2 rfl)
 subst e4_2
 refine ⟨_, _, rfl, S', ?_⟩
 clear S S' ho hF hb
 refine Sx.G.ar [.slice none 0 0, .slice none 0 0, .slice none 0 0, .int .i64 0] (fun b5 => ?_)
 refine Sx.G.sw [.slice A4_0 x.mem.length c4_0, .slice A4_1 x.gs.length c4_1, .slice A4_2 x.outs.length c4_2, .int .i64 x.pd] .a0 ?_
 refine Sx.G.nil (Sx.E.next (Sx.C.seq (Sx.C.seq (Sx.C.region ?_))))
 refine Sx.G.p (.pointer (some ⟨b5, 1, none⟩)) ?_
 refine Sx.G.g (.slice A4_1 x.gs.length c4_1) .m0 .m1 ?_
 refine Sx.G.p (.int .i64 g) ?_
 refine Sx.G.cp 35 #[.slice A4_1 x.gs.length c4_1, .int .i64 g] (.bool (inB g 0 (((x.gs.length : Nat) : Int) - 1))) (fun w S => by exact implx_has A4_1 x.gs.length c4_1 g _) ?_
 refine Sx.G.nil (Sx.E.next ?_)
 cases hc6 : (inB g 0 (((x.gs.length : Nat) : Int) - 1))
 ·
  have hb6 := hc6
  refine Sx.C.no (by kernel_rfl) (by kernel_rfl) ?_
  refine Sx.C.skip (Sx.E.next (Sx.C.seq (Sx.C.region ?_)))
  refine Sx.G.lw .m0 ?_
  refine Sx.G.sw [.slice A4_0 x.mem.length c4_0, .slice A4_1 x.gs.length c4_1, .slice A4_2 x.outs.length c4_2, .int .i64 x.pd] .a4 ?_
  refine Sx.G.nil (Sx.E.next (Sx.C.ret ?_))
  refine Sx.E.retc b3 4 [.slice A4_0 x.mem.length c4_0, .slice A4_1 x.gs.length c4_1, .slice A4_2 x.outs.length c4_2, .int .i64 x.pd] rfl (by kernel_rfl) rfl (by kernel_rfl) (by kernel_rfl) (fun w S => ?_)
  rw [show withG x g y = x from if_neg (by rw [hc6]; decide)]
  obtain ⟨ho, hF⟩ := rB_shut (g := x) S 1 rfl 2 rfl 3 rfl (by decide) (by decide) (by decide)
  exact weak_B _ _ ⟨_, _, rfl, ho, hF, S.below⟩
 ·
  have hb6 := hc6
  have hin := inB_iff.1 hc6
  obtain ⟨j, hj⟩ : ∃ j : Nat, g = (j : Int) := ⟨g.toNat, by omega⟩
  subst hj
  have hjl : j < x.gs.length := by omega
  refine Sx.C.yes (by kernel_rfl) (by kernel_rfl) ?_
  refine Sx.C.pk (.c .m2 (.c .m0 (.c .m1 (.c .m3 (.c .m4 (.c .m5 (.c .m6 .n))))))) ?_
  have hjk7 : j < x.gs.length := hjl
  refine Sx.C.open (r := wG) (pre := x.gs.take j) (x := x.gs[j]'(hjl)) (post := x.gs.drop (j + 1)) (by rw [← Kit.drop_step (hjl), List.take_append_drop]) (by decide) (fun b7 o7 es G17 Gi7 G27 eA eF hes hm hmc7 => ?_)
  subst eA eF
  refine Sx.C.know (p := ∃ P7_0 P7_1 P7_2 P7_3, es = [P7_0, .int .i64 (x.gs[j]'(hjl)).a, .int .i64 (x.gs[j]'(hjl)).pc, P7_1, P7_2, .int .i64 (x.gs[j]'(hjl)).t.1, .int .i64 (x.gs[j]'(hjl)).t.2.1, .bool (x.gs[j]'(hjl)).t.2.2, .int .i64 (x.gs[j]'(hjl)).pd, .int .i64 (x.gs[j]'(hjl)).x.1, .int .i64 (x.gs[j]'(hjl)).x.2.1, .bool (x.gs[j]'(hjl)).x.2.2.1, .int .i64 (x.gs[j]'(hjl)).x.2.2.2, .bool (x.gs[j]'(hjl)).hl, P7_3]) (fun w S => by obtain ⟨P7_0, P7_1, P7_2, P7_3, e, -⟩ := wG_rd ((wG).reads (St.at_ S 1 rfl).1); exact ⟨P7_0, P7_1, P7_2, P7_3, e⟩) ?_
  rintro ⟨P7_0, P7_1, P7_2, P7_3, rfl⟩
  refine Sx.C.draw (.take 0 (.take 1 (.take 2 (.take 3 (.alone 4 (.take 5 (.alone 6 .nil))))))) [vr b5 [.slice A4_0 x.mem.length c4_0, .slice (some ⟨b7, o7, none⟩) x.gs.length c4_1, .slice A4_2 x.outs.length c4_2, .int .i64 x.pd], vr b2 [.slice kA0 y.prog.length kK0, .int .i64 y.a, .int .i64 y.pc, .slice kA1 y.wr.length kK1, .slice kA2 y.lv.length kK2, .int .i64 y.t.1, .int .i64 y.t.2.1, .bool y.t.2.2, .int .i64 y.pd, .int .i64 y.x.1, .int .i64 y.x.2.1, .bool y.x.2.2.1, .int .i64 y.x.2.2.2, .bool y.hl, .slice kA3 y.seen.length kK3]] (fun w S => St.pick S [2, 6] _ rfl (by decide)) (by kernel_rfl) (by kernel_rfl) (by kernel_rfl) ?_
  refine Sx.GT.p (.pointer (some ⟨b5, 1, none⟩)) ?_
  refine Sx.GT.g (.slice (some ⟨b7, o7, none⟩) x.gs.length c4_1) .m0 .m1 ?_
  refine Sx.GT.p (.int .i64 (j : Int)) ?_
  refine Sx.GT.lw .m1 ?_
  refine Sx.GT.alone (Sx.Alone.c 36 #[.agg #[.slice kA0 y.prog.length kK0, .int .i64 y.a, .int .i64 y.pc, .slice kA1 y.wr.length kK1, .slice kA2 y.lv.length kK2, .int .i64 y.t.1, .int .i64 y.t.2.1, .bool y.t.2.2, .int .i64 y.pd, .int .i64 y.x.1, .int .i64 y.x.2.1, .bool y.x.2.2.1, .int .i64 y.x.2.2.2, .bool y.hl, .slice kA3 y.seen.length kK3]] (fun w8 S => (implx_another y _ _ hd (St.old S kR)).mono fun e w8' hp => ?_))
  obtain ⟨cs, F, rfl, ho, hF, hb⟩ := hp
  obtain ⟨P8_0, P8_1, P8_2, P8_3, rfl, f8_0, f8_1, f8_2, f8_3⟩ := wG_rd (wG.reads ho)
  obtain ⟨A8_0, c8_0, e8_0, -⟩ := lst_val f8_0
  subst e8_0
  obtain ⟨A8_1, c8_1, e8_1, -⟩ := lst_val f8_1
  subst e8_1
  obtain ⟨A8_2, c8_2, e8_2, -⟩ := lst_val f8_2
  subst e8_2
  obtain ⟨A8_3, c8_3, e8_3, -⟩ := lst_val f8_3
  subst e8_3
  generalize F = F8 at ho hF
  refine ⟨_, _, rfl, (St.got S hb ho hF), (fun w S => St.pick S [3, 7] _ rfl (by decide)), ?_⟩
  clear S hb ho hF f8_0 f8_1 f8_2 f8_3
  refine Sx.GT.elem 27 39 (.tmp 15) (.tmp 16) 15 184 b7 o7 x.gs.length c4_1 j 5 (by rfl) (by rfl) (by kernel_rfl) (by kernel_rfl) (by kernel_rfl) (by kernel_rfl) (by omega) ?_
  refine Sx.GT.alone (Sx.Alone.hsto (k := j) (size := 15) 39 (.tmp 19) (.tmp 18) b7 ((o7 + j * 15) + 0) 0 1 [.slice A8_0 y.prog.length c8_0, .int .i64 y.a, .int .i64 y.pc, .slice A8_1 y.wr.length c8_1, .slice A8_2 y.lv.length c8_2, .int .i64 y.t.1, .int .i64 y.t.2.1, .bool y.t.2.2, .int .i64 y.pd, .int .i64 y.x.1, .int .i64 y.x.2.1, .bool y.x.2.2.1, .int .i64 y.x.2.2.2, .bool y.hl, .slice A8_3 y.seen.length c8_3] [.slice A8_0 y.prog.length c8_0, .int .i64 y.a, .int .i64 y.pc, .slice A8_1 y.wr.length c8_1, .slice A8_2 y.lv.length c8_2, .int .i64 y.t.1, .int .i64 y.t.2.1, .bool y.t.2.2, .int .i64 y.pd, .int .i64 y.x.1, .int .i64 y.x.2.1, .bool y.x.2.2.1, .int .i64 y.x.2.2.2, .bool y.hl, .slice A8_3 y.seen.length c8_3] [ow wG w8.heap.size w8'.heap.size y [.slice A8_0 y.prog.length c8_0, .int .i64 y.a, .int .i64 y.pc, .slice A8_1 y.wr.length c8_1, .slice A8_2 y.lv.length c8_2, .int .i64 y.t.1, .int .i64 y.t.2.1, .bool y.t.2.2, .int .i64 y.pd, .int .i64 y.x.1, .int .i64 y.x.2.1, .bool y.x.2.2.1, .int .i64 y.x.2.2.2, .bool y.hl, .slice A8_3 y.seen.length c8_3] F8, Sx.hole wG b7 o7 w4.heap.size w4'.heap.size (x.gs.take j) (x.gs.drop (j + 1)) [.slice A8_0 y.prog.length c8_0, .int .i64 y.a, .int .i64 y.pc, .slice A8_1 y.wr.length c8_1, .slice A8_2 y.lv.length c8_2, .int .i64 y.t.1, .int .i64 y.t.2.1, .bool y.t.2.2, .int .i64 y.pd, .int .i64 y.x.1, .int .i64 y.x.2.1, .bool y.x.2.2.1, .int .i64 y.x.2.2.2, .bool y.hl, .slice A8_3 y.seen.length c8_3] G17 G27, ow wG w4.heap.size w4'.heap.size (x.gs[j]'(hjl)) [P7_0, .int .i64 (x.gs[j]'(hjl)).a, .int .i64 (x.gs[j]'(hjl)).pc, P7_1, P7_2, .int .i64 (x.gs[j]'(hjl)).t.1, .int .i64 (x.gs[j]'(hjl)).t.2.1, .bool (x.gs[j]'(hjl)).t.2.2, .int .i64 (x.gs[j]'(hjl)).pd, .int .i64 (x.gs[j]'(hjl)).x.1, .int .i64 (x.gs[j]'(hjl)).x.2.1, .bool (x.gs[j]'(hjl)).x.2.2.1, .int .i64 (x.gs[j]'(hjl)).x.2.2.2, .bool (x.gs[j]'(hjl)).hl, P7_3] Gi7, vr b5 [.slice A4_0 x.mem.length c4_0, .slice (some ⟨b7, o7, none⟩) x.gs.length c4_1, .slice A4_2 x.outs.length c4_2, .int .i64 x.pd], ow (rLsw (rLsw rInt)) w4.heap.size w4'.heap.size x.mem [.slice A4_0 x.mem.length c4_0] G4_0, ow (rLst 3 rInt) w4.heap.size (w4'.heap.size) x.outs [.slice A4_2 x.outs.length c4_2] G4_2, vr b3 [.slice none 0 0, .slice none 0 0, .slice none 0 0, .int .i64 0], vr b2 [.slice kA0 y.prog.length kK0, .int .i64 y.a, .int .i64 y.pc, .slice kA1 y.wr.length kK1, .slice kA2 y.lv.length kK2, .int .i64 y.t.1, .int .i64 y.t.2.1, .bool y.t.2.2, .int .i64 y.pd, .int .i64 y.x.1, .int .i64 y.x.2.1, .bool y.x.2.2.1, .int .i64 y.x.2.2.2, .bool y.hl, .slice kA3 y.seen.length kK3], vr b1 [.slice hA0 x.mem.length hK0, .slice hA1 x.gs.length hK1, .slice hA2 x.outs.length hK2, .int .i64 x.pd]] (by rfl) (by rfl) (by kernel_rfl) (by kernel_rfl) (by kernel_rfl) (by rfl) (by rw [List.length_take]; have : j < x.gs.length := hjl; omega) (by rfl) (by rfl) (by rfl) (by rfl) (by kernel_rfl) (by kernel_rfl) (by kernel_rfl) (fun w S => St.pick S [3, 7] _ rfl (by decide)) ?_)
  refine Sx.GT.nil (Sx.E.next ?_)
  refine Sx.C.claims (L' := [ow (rLsw wG) w.heap.size (max w4'.heap.size w8'.heap.size) (x.gs.set j y) [.slice (some ⟨b7, o7, none⟩) x.gs.length c4_1] (b7 :: (G17 ++ (F8 ++ G27))), vr b5 [.slice A4_0 x.mem.length c4_0, .slice (some ⟨b7, o7, none⟩) x.gs.length c4_1, .slice A4_2 x.outs.length c4_2, .int .i64 x.pd], ow (rLsw (rLsw rInt)) w4.heap.size w4'.heap.size x.mem [.slice A4_0 x.mem.length c4_0] G4_0, ow (rLst 3 rInt) w4.heap.size (w4'.heap.size) x.outs [.slice A4_2 x.outs.length c4_2] G4_2, vr b3 [.slice none 0 0, .slice none 0 0, .slice none 0 0, .int .i64 0], vr b2 [.slice kA0 y.prog.length kK0, .int .i64 y.a, .int .i64 y.pc, .slice kA1 y.wr.length kK1, .slice kA2 y.lv.length kK2, .int .i64 y.t.1, .int .i64 y.t.2.1, .bool y.t.2.2, .int .i64 y.pd, .int .i64 y.x.1, .int .i64 y.x.2.1, .bool y.x.2.2.1, .int .i64 y.x.2.2.2, .bool y.hl, .slice kA3 y.seen.length kK3], vr b1 [.slice hA0 x.mem.length hK0, .slice hA1 x.gs.length hK1, .slice hA2 x.outs.length hK2, .int .i64 x.pd]]) (fun w' S => by
   have S2 := St.pick S [1, 0, 3, 4, 5, 6, 7, 8] (_ :: _ :: [vr b5 [.slice A4_0 x.mem.length c4_0, .slice (some ⟨b7, o7, none⟩) x.gs.length c4_1, .slice A4_2 x.outs.length c4_2, .int .i64 x.pd], ow (rLsw (rLsw rInt)) w4.heap.size w4'.heap.size x.mem [.slice A4_0 x.mem.length c4_0] G4_0, ow (rLst 3 rInt) w4.heap.size (w4'.heap.size) x.outs [.slice A4_2 x.outs.length c4_2] G4_2, vr b3 [.slice none 0 0, .slice none 0 0, .slice none 0 0, .int .i64 0], vr b2 [.slice kA0 y.prog.length kK0, .int .i64 y.a, .int .i64 y.pc, .slice kA1 y.wr.length kK1, .slice kA2 y.lv.length kK2, .int .i64 y.t.1, .int .i64 y.t.2.1, .bool y.t.2.2, .int .i64 y.pd, .int .i64 y.x.1, .int .i64 y.x.2.1, .bool y.x.2.2.1, .int .i64 y.x.2.2.2, .bool y.hl, .slice kA3 y.seen.length kK3], vr b1 [.slice hA0 x.mem.length hK0, .slice hA1 x.gs.length hK1, .slice hA2 x.outs.length hK2, .int .i64 x.pd]]) rfl (by decide)
   have S3 := Sx.St.closeW S2 (by decide) x.gs.length _ (by rw [List.length_append, List.length_cons, List.length_take, List.length_drop]; have : j < x.gs.length := hjl; omega) hmc7
   rw [← set_at (hjl)] at S3
   exact S3) ?_
  refine Sx.C.seq ?_
  refine Sx.C.slots (T' := [(6, .pointer (some ⟨b3, 0, none⟩)), (7, .pointer (some ⟨b5, 0, none⟩))]) (fun a hA => (Sx.Ag.and hA (Sx.Ag.and hA (Sx.Ag.none hA) _ _ (by kernel_rfl)) _ _ (by kernel_rfl))) ?_
  refine Sx.C.region ?_
  refine Sx.G.lw .m1 ?_
  refine Sx.G.sw [.slice A4_0 x.mem.length c4_0, .slice (some ⟨b7, o7, none⟩) x.gs.length c4_1, .slice A4_2 x.outs.length c4_2, .int .i64 x.pd] .a4 ?_
  refine Sx.G.nil (Sx.E.next (Sx.C.ret ?_))
  refine Sx.E.retc b3 4 [.slice A4_0 x.mem.length c4_0, .slice (some ⟨b7, o7, none⟩) x.gs.length c4_1, .slice A4_2 x.outs.length c4_2, .int .i64 x.pd] rfl (by kernel_rfl) rfl (by kernel_rfl) (by kernel_rfl) (fun w S => ?_)
  rw [show withG x (j : Int) y = ({ x with gs := x.gs.set j y } : bT) from by unfold withG; rw [hc6, if_pos rfl]; rfl]
  obtain ⟨ho, hF⟩ := rB_shut (g := ({ x with gs := x.gs.set j y } : bT)) S 2 rfl 0 rfl 3 rfl (by decide) (by decide) (by decide)
  exact weak_B _ _ ⟨_, _, rfl, ho, hF, S.below⟩
theorem impl_putout (x : bT) (cs : List Value) (n : Int) (w : World) (hn : wB.wf x) (hc : wB.cap x) (h : wB.rd w 0 w.heap.size x cs) (hg : (Lit.int .i64 n).wf = true) : Calls Tryz.prog 19 #[.agg cs.toArray, .int .i64 n] w (Gives wB w (putB x n)) := by
 have hlo : x.outs.length ≤ 1048576 := hc.2.2.1.1
 have hR := h
 obtain ⟨hP0, hP1, hP2, rfl, hf0, hf1, hf2⟩ := wB_rd h
 obtain ⟨hA0, hK0, he0, -⟩ := lst_val hf0
 subst he0
 obtain ⟨hA1, hK1, he1, -⟩ := lst_val hf1
 subst he1
 obtain ⟨hA2, hK2, he2, -⟩ := lst_val hf2
 subst he2
 refine Sx.enter (args := [.agg #[.slice hA0 x.mem.length hK0, .slice hA1 x.gs.length hK1, .slice hA2 x.outs.length hK2, .int .i64 x.pd], .int .i64 n]) Tryz.func19 rfl Tryz.ntmps19 rfl ?_
 refine Sx.C.seq (Sx.C.region ?_)
 refine Sx.G.b [.slice hA0 x.mem.length hK0, .slice hA1 x.gs.length hK1, .slice hA2 x.outs.length hK2, .int .i64 x.pd] (fun b1 => ?_)
 refine Sx.G.ar [.slice none 0 0, .slice none 0 0, .slice none 0 0, .int .i64 0] (fun b2 => ?_)
 refine Sx.G.nil (Sx.E.next (Sx.C.seq (Sx.C.region ?_)))
 refine Sx.G.lw .m1 ?_
 refine Sx.G.c 34 #[.agg #[.slice hA0 x.mem.length hK0, .slice hA1 x.gs.length hK1, .slice hA2 x.outs.length hK2, .int .i64 x.pd]] (fun w3 S => (implx_copybare x _ _ hc (St.old S hR)).mono fun e w3' hp => ?_)
 obtain ⟨cs, F, rfl, ho, hF, hb⟩ := hp
 obtain ⟨P3_0, P3_1, P3_2, G3_0, G3_1, G3_2, rfl, S'⟩ := rB_open (St.got S hb ho hF)
 obtain ⟨A3_0, c3_0, e3_0, -⟩ := lst_val (S'.reads 0 rfl)
 subst e3_0
 obtain ⟨A3_1, c3_1, e3_1, -⟩ := lst_val (S'.reads 1 rfl)
 subst e3_1
 obtain ⟨A3_2, c3_2, e3_2, -⟩ := lst_val (S'.reads 2 rfl)
 subst e3_2
 refine ⟨_, _, rfl, S', ?_⟩
 clear S S' ho hF hb
 refine Sx.G.ar [.slice none 0 0, .slice none 0 0, .slice none 0 0, .int .i64 0] (fun b4 => ?_)
 refine Sx.G.sw [.slice A3_0 x.mem.length c3_0, .slice A3_1 x.gs.length c3_1, .slice A3_2 x.outs.length c3_2, .int .i64 x.pd] .a0 ?_
 refine Sx.G.nil (Sx.E.next (Sx.C.seq (Sx.C.region ?_)))
 refine Sx.G.p (.pointer (some ⟨b4, 2, none⟩)) ?_
 refine Sx.G.g (.slice A3_2 x.outs.length c3_2) .m0 .m2 ?_
 refine Sx.G.cp 48 #[.slice A3_2 x.outs.length c3_2] (.agg #[.slice A3_2 x.outs.length c3_2, .int .i64 40]) (fun w S => by exact implx_bI A3_2 x.outs.length c3_2 _) ?_
 refine Sx.G.ar [.slice none 0 0, .int .i64 0] (fun b5 => ?_)
 refine Sx.G.sw [.slice A3_2 x.outs.length c3_2, .int .i64 40] .a0 ?_
 refine Sx.G.nil (Sx.E.next (Sx.C.seq (Sx.C.region ?_)))
 refine Sx.G.p (.int .i64 n) ?_
 refine Sx.G.c 49 #[.pointer (some ⟨b5, 0, none⟩), .int .i64 n] (fun w6 S => (implx_addI x.outs n 40 _ _ _ _ _ (by omega) (St.pick S [0, 4, 1, 2, 3, 5, 6] (vr b5 [.slice A3_2 x.outs.length c3_2, .int .i64 40] :: ow (rLst 3 rInt) w3.heap.size (w3'.heap.size) x.outs [.slice A3_2 x.outs.length c3_2] G3_2 :: [vr b4 [.slice A3_0 x.mem.length c3_0, .slice A3_1 x.gs.length c3_1, .slice A3_2 x.outs.length c3_2, .int .i64 x.pd], ow (rLsw (rLsw rInt)) w3.heap.size w3'.heap.size x.mem [.slice A3_0 x.mem.length c3_0] G3_0, ow (rLsw wG) w3.heap.size w3'.heap.size x.gs [.slice A3_1 x.gs.length c3_1] G3_1, vr b2 [.slice none 0 0, .slice none 0 0, .slice none 0 0, .int .i64 0], vr b1 [.slice hA0 x.mem.length hK0, .slice hA1 x.gs.length hK1, .slice hA2 x.outs.length hK2, .int .i64 x.pd]]) rfl (by decide))).mono fun e w6' hp => ?_)
 obtain ⟨rfl, A6, c6, l6, h6, F6, S'⟩ := hp
 refine ⟨_, _, rfl, S', ?_⟩
 clear S S'
 refine Sx.G.nil (Sx.E.next (Sx.C.seq (Sx.C.region ?_)))
 refine Sx.G.p (.pointer (some ⟨b5, 0, none⟩)) ?_
 refine Sx.G.g (.slice A6 (addB x.outs 40 n).length c6) .m0 .m0 ?_
 refine Sx.G.p (.pointer (some ⟨b4, 2, none⟩)) ?_
 refine Sx.G.s (.slice A6 (addB x.outs 40 n).length c6) .a2 .a2 ?_
 refine Sx.G.nil (Sx.E.next (Sx.C.seq ?_))
 refine Sx.C.slots (T' := [(4, .pointer (some ⟨b2, 0, none⟩)), (5, .pointer (some ⟨b4, 0, none⟩))]) (fun a hA => (Sx.Ag.and hA (Sx.Ag.and hA (Sx.Ag.none hA) _ _ (by kernel_rfl)) _ _ (by kernel_rfl))) ?_
 refine Sx.C.region ?_
 refine Sx.G.lw .m2 ?_
 refine Sx.G.sw [.slice A3_0 x.mem.length c3_0, .slice A3_1 x.gs.length c3_1, .slice A6 (addB x.outs 40 n).length c6, .int .i64 x.pd] .a5 ?_
 refine Sx.G.nil (Sx.E.next (Sx.C.ret ?_))
 refine Sx.E.retc b2 5 [.slice A3_0 x.mem.length c3_0, .slice A3_1 x.gs.length c3_1, .slice A6 (addB x.outs 40 n).length c6, .int .i64 x.pd] rfl (by kernel_rfl) rfl (by kernel_rfl) (by kernel_rfl) (fun w S => ?_)
 rw [show putB x n = ({ x with outs := addB x.outs 40 n } : bT) by unfold putB addB; by_cases hh : x.outs.length < 40; rw [if_pos hh, if_pos (by omega)]; rw [if_neg hh, if_neg (by omega)]]
 obtain ⟨ho, hF⟩ := rB_shut (g := ({ x with outs := addB x.outs 40 n } : bT)) S 3 rfl 4 rfl 1 rfl (by decide) (by decide) (by decide)
 exact weak_B _ _ ⟨_, _, rfl, ho, hF, S.below⟩
theorem impl_bsame (x y : bT) (cs ds : List Value) (w : World) (hn : wB.wf x) (hm : wB.wf y) (hc : wB.cap x) (hd : wB.cap y) (h : wB.rd w 0 w.heap.size x cs) (k : wB.rd w 0 w.heap.size y ds) : Calls Tryz.prog 21 #[.agg cs.toArray, .agg ds.toArray] w (fun e w' => e = .returned (.bool (eqv x y)) ∧ Below w.heap.size w w') := by
 obtain ⟨hcap0, hcap1, hcap2, hcap3⟩ := hc
 obtain ⟨hdap0, hdap1, hdap2, hdap3⟩ := hd
 have hR := h
 obtain ⟨hP0, hP1, hP2, rfl, hf0, hf1, hf2⟩ := wB_rd h
 obtain ⟨hA0, hK0, he0, -⟩ := lst_val hf0
 subst he0
 obtain ⟨hA1, hK1, he1, -⟩ := lst_val hf1
 subst he1
 obtain ⟨hA2, hK2, he2, -⟩ := lst_val hf2
 subst he2
 have kR := k
 obtain ⟨kP0, kP1, kP2, rfl, kf0, kf1, kf2⟩ := wB_rd k
 obtain ⟨kA0, kK0, ke0, -⟩ := lst_val kf0
 subst ke0
 obtain ⟨kA1, kK1, ke1, -⟩ := lst_val kf1
 subst ke1
 obtain ⟨kA2, kK2, ke2, -⟩ := lst_val kf2
 subst ke2
 refine Sx.enter (args := [.agg #[.slice hA0 x.mem.length hK0, .slice hA1 x.gs.length hK1, .slice hA2 x.outs.length hK2, .int .i64 x.pd], .agg #[.slice kA0 y.mem.length kK0, .slice kA1 y.gs.length kK1, .slice kA2 y.outs.length kK2, .int .i64 y.pd]]) Tryz.func21 rfl Tryz.ntmps21 rfl ?_
 refine Sx.C.seq (Sx.C.region ?_)
 refine Sx.G.b [.slice hA0 x.mem.length hK0, .slice hA1 x.gs.length hK1, .slice hA2 x.outs.length hK2, .int .i64 x.pd] (fun b1 => ?_)
 refine Sx.G.b [.slice kA0 y.mem.length kK0, .slice kA1 y.gs.length kK1, .slice kA2 y.outs.length kK2, .int .i64 y.pd] (fun b2 => ?_)
 refine Sx.G.p (.bool false) ?_
 refine Sx.G.nil (Sx.E.next (Sx.C.seq (Sx.C.region ?_)))
 refine Sx.G.p (.pointer (some ⟨b1, 0, none⟩)) ?_
 refine Sx.G.g (.slice hA0 x.mem.length hK0) .m1 .m0 ?_
 refine Sx.G.p (.pointer (some ⟨b2, 0, none⟩)) ?_
 refine Sx.G.g (.slice kA0 y.mem.length kK0) .m0 .m0 ?_
 refine Sx.G.cp 50 #[.slice hA0 x.mem.length hK0, .slice kA0 y.mem.length kK0] (.bool (eqv x.mem y.mem)) (fun w S => by exact implx_samemem x.mem y.mem hA0 hK0 kA0 kK0 _ hcap0 hdap0 (St.old (r := (rLsw (rLsw rInt))) S hf0) (St.old (r := (rLsw (rLsw rInt))) S kf0)) ?_
 refine Sx.G.p (.bool (eqv x.mem y.mem)) ?_
 cases hc3 : (eqv x.mem y.mem)
 ·
  have hb3 := hc3
  refine Sx.G.k ?_
  refine Sx.G.k ?_
  refine Sx.G.k ?_
  refine Sx.G.k ?_
  refine Sx.G.k ?_
  refine Sx.G.p (.bool false) ?_
  refine Sx.G.p (.bool false) ?_
  refine Sx.G.k ?_
  refine Sx.G.k ?_
  refine Sx.G.k ?_
  refine Sx.G.k ?_
  refine Sx.G.k ?_
  refine Sx.G.p (.bool false) ?_
  refine Sx.G.p (.bool false) ?_
  refine Sx.G.k ?_
  refine Sx.G.k ?_
  refine Sx.G.k ?_
  refine Sx.G.k ?_
  refine Sx.G.k ?_
  refine Sx.G.p (.bool false) ?_
  refine Sx.G.p (.bool false) ?_
  refine Sx.G.nil (Sx.E.next (Sx.C.ret ?_))
  refine Sx.E.ret1 (.bool false) rfl (by kernel_rfl) (fun w S => ?_)
  exact ⟨congrArg Ending.returned (congrArg Value.bool (by simp only [eqv_B, hb3, Bool.and_true, Bool.and_false, Bool.false_and, Bool.true_and])), S.below⟩
 ·
  have hb3 := hc3
  refine Sx.G.p (.pointer (some ⟨b1, 1, none⟩)) ?_
  refine Sx.G.g (.slice hA1 x.gs.length hK1) .m1 .m1 ?_
  refine Sx.G.p (.pointer (some ⟨b2, 1, none⟩)) ?_
  refine Sx.G.g (.slice kA1 y.gs.length kK1) .m0 .m1 ?_
  refine Sx.G.cp 51 #[.slice hA1 x.gs.length hK1, .slice kA1 y.gs.length kK1, .func (.func 52) #[] #[]] (.bool (eqv x.gs y.gs)) (fun w S => by exact implx_eqgs x.gs y.gs hA1 hK1 kA1 kK1 _ hn.2.1.2 hm.2.1.2 hcap1 hdap1 (St.old (r := (rLsw wG)) S hf1) (St.old (r := (rLsw wG)) S kf1)) ?_
  refine Sx.G.p (.bool (eqv x.gs y.gs)) ?_
  refine Sx.G.p (.bool (eqv x.gs y.gs)) ?_
  cases hc4 : (eqv x.gs y.gs)
  ·
   have hb4 := hc4
   refine Sx.G.k ?_
   refine Sx.G.k ?_
   refine Sx.G.k ?_
   refine Sx.G.k ?_
   refine Sx.G.k ?_
   refine Sx.G.p (.bool false) ?_
   refine Sx.G.p (.bool false) ?_
   refine Sx.G.k ?_
   refine Sx.G.k ?_
   refine Sx.G.k ?_
   refine Sx.G.k ?_
   refine Sx.G.k ?_
   refine Sx.G.p (.bool false) ?_
   refine Sx.G.p (.bool false) ?_
   refine Sx.G.nil (Sx.E.next (Sx.C.ret ?_))
   refine Sx.E.ret1 (.bool false) rfl (by kernel_rfl) (fun w S => ?_)
   exact ⟨congrArg Ending.returned (congrArg Value.bool (by simp only [eqv_B, hb3, hb4, Bool.and_true, Bool.and_false, Bool.false_and, Bool.true_and])), S.below⟩
  ·
   have hb4 := hc4
   refine Sx.G.p (.pointer (some ⟨b1, 2, none⟩)) ?_
   refine Sx.G.g (.slice hA2 x.outs.length hK2) .m1 .m2 ?_
   refine Sx.G.p (.pointer (some ⟨b2, 2, none⟩)) ?_
   refine Sx.G.g (.slice kA2 y.outs.length kK2) .m0 .m2 ?_
   refine Sx.G.cp 53 #[.slice hA2 x.outs.length hK2, .slice kA2 y.outs.length kK2] (.bool (eqv x.outs y.outs)) (fun w S => by exact ((Grid.lib_equal hA2 kA2 x.outs.length y.outs.length hK2 kK2 0 0 _ _ x.outs y.outs _ hcap2.1 hdap2.1 rfl rfl (i1_lies (St.old (r := (rLsw rInt)) S hf2)) (i1_lies (St.old (r := (rLsw rInt)) S kf2))).mono fun e w' h => And.intro (h.1.trans (by rw [decide_eqv])) (Guests.drew_below h.2))) ?_
   refine Sx.G.p (.bool (eqv x.outs y.outs)) ?_
   refine Sx.G.p (.bool (eqv x.outs y.outs)) ?_
   cases hc5 : (eqv x.outs y.outs)
   ·
    have hb5 := hc5
    refine Sx.G.k ?_
    refine Sx.G.k ?_
    refine Sx.G.k ?_
    refine Sx.G.k ?_
    refine Sx.G.k ?_
    refine Sx.G.p (.bool false) ?_
    refine Sx.G.p (.bool false) ?_
    refine Sx.G.nil (Sx.E.next (Sx.C.ret ?_))
    refine Sx.E.ret1 (.bool false) rfl (by kernel_rfl) (fun w S => ?_)
    exact ⟨congrArg Ending.returned (congrArg Value.bool (by simp only [eqv_B, hb3, hb4, hb5, Bool.and_true, Bool.and_false, Bool.false_and, Bool.true_and])), S.below⟩
   ·
    have hb5 := hc5
    refine Sx.G.p (.pointer (some ⟨b1, 3, none⟩)) ?_
    refine Sx.G.g (.int .i64 x.pd) .m1 .m3 ?_
    refine Sx.G.p (.pointer (some ⟨b2, 3, none⟩)) ?_
    refine Sx.G.g (.int .i64 y.pd) .m0 .m3 ?_
    refine Sx.G.p (.bool (x.pd == y.pd)) ?_
    refine Sx.G.p (.bool (x.pd == y.pd)) ?_
    refine Sx.G.p (.bool (x.pd == y.pd)) ?_
    refine Sx.G.nil (Sx.E.next (Sx.C.ret ?_))
    refine Sx.E.ret1 (.bool (x.pd == y.pd)) rfl (by kernel_rfl) (fun w S => ?_)
    exact ⟨congrArg Ending.returned (congrArg Value.bool (by simp only [eqv_B, hb3, hb4, hb5, Bool.and_true, Bool.and_false, Bool.false_and, Bool.true_and])), S.below⟩
end Go.Proofs.YtldgadmpclgfhaaGreat.Kit
namespace Go.Proofs.YtldgadmpclgfhaaGreat.Draw
set_option maxHeartbeats 8000000
set_option maxRecDepth 100000
set_option maxRecDepth 100000
open Go.ChangeShapes Go.WideShapes Go.ChangeAt Go.RowKit
open Go.Proofs.YtldgadmpclgfhaaGreat.Base
theorem big_yes (A : Option Addr) (n c : Nat) (w : World) (hn : n ≤ 9223372036854775807) (h : 1048576 < n) :
  Calls Tryz.prog 4 #[.slice A n c] w fun e w' => e = .returned (.bool true) ∧ w = w' := by
 go_enter Tryz.func4, Tryz.ntmps4
 go_wp2
 go_ret
 exact ⟨by simp; omega, rfl⟩
theorem big_no (A : Option Addr) (n c : Nat) (w : World) (h : n ≤ 1048576) :
  Calls Tryz.prog 4 #[.slice A n c] w fun e w' => e = .returned (.bool false) ∧ w = w' := by
 go_enter Tryz.func4, Tryz.ntmps4
 go_wp2
 go_ret
 exact ⟨by simp; omega, rfl⟩
end Go.Proofs.YtldgadmpclgfhaaGreat.Draw
