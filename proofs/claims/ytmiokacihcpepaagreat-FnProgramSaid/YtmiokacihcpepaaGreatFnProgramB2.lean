/-
  The texts that FnProgram wants, part 2: CtlImpl InsImpl GuestImpl BareImpl. No condition.
-/
import Derived.Test.YtmiokacihcpepaaGreatFnProgramB1
import Derived.Laws.StructEq
import Derived.BigQuiet
namespace Go.Proofs.YtmiokacihcpepaaGreat.Ctls
set_option maxHeartbeats 8000000
set_option maxRecDepth 100000
set_option maxRecDepth 100000
open Go.ChangeShapes Go.WideShapes Go.ChangeAt Go.RowKit
open Go.Proofs.YtmiokacihcpepaaGreat.Base Go.Proofs.YtmiokacihcpepaaGreat.Mem Go.Proofs.YtmiokacihcpepaaGreat.Data Go.Proofs.YtmiokacihcpepaaGreat.Ints Go.Proofs.YtmiokacihcpepaaGreat.Slots
set_option linter.unusedVariables false
set_option linter.unusedSimpArgs false
theorem impl_trapsOk (n : Int) (w : World) :
  Calls Tryz.prog 240 #[.int .i64 n] w fun e w' => e = .returned (.bool (inB n 0 3)) ∧ w = w' := by
 have hv : inB n 0 3 = (decide (n ≥ 0) && decide (n ≤ 3)) := rfl
 cases h1 : decide (n ≥ 0)
 all_goals
  cases h2 : decide (n ≤ 3)
  all_goals
   rw [h1, h2] at hv
   simp only [Bool.and_false, Bool.and_true] at hv
   rw [hv]; clear hv
   go_enter Tryz.func240, Tryz.ntmps240
   go_wp2
   go_ret
   exact ⟨rfl, rfl⟩
theorem impl_postOk (n : Int) (w : World) :
  Calls Tryz.prog 200 #[.int .i64 n] w fun e w' => e = .returned (.bool (inB n 0 255)) ∧ w = w' := by
 have hv : inB n 0 255 = (decide (n ≥ 0) && decide (n ≤ 255)) := rfl
 cases h1 : decide (n ≥ 0)
 all_goals
  cases h2 : decide (n ≤ 255)
  all_goals
   rw [h1, h2] at hv
   simp only [Bool.and_false, Bool.and_true] at hv
   rw [hv]; clear hv
   go_enter Tryz.func200, Tryz.ntmps200
   go_wp2
   go_ret
   exact ⟨rfl, rfl⟩
def faultsL (p q r s : Bool) : List Int :=
 (if p = true then [1] else []) ++ ((if q = true then [2] else []) ++ ((if r = true then [3] else []) ++ (if s = true then [4] else [])))
def nextF (p q r s : Bool) (f : Int) : Int :=
 if f = 1 then (if p = true then 1 else if q = true then 2 else if r = true then 3 else if s = true then 4 else 0)
 else if f = 2 then (if q = true then 2 else if r = true then 3 else if s = true then 4 else 0)
 else if f = 3 then (if r = true then 3 else if s = true then 4 else 0)
 else if f = 4 then (if s = true then 4 else 0) else 0
def p1 (s : CT) : Bool := !inB s.1 0 3
def p2 (s : CT) : Bool := !inB s.2.1 0 255
def p3 (s : CT) : Bool := (s.2.1 != 0) && !s.2.2
def p4 (s : CT) : Bool := (s.2.1 != 0) && (s.1 == 2)
def nx (s : CT) (f : Int) : Int := nextF (p1 s) (p2 s) (p3 s) (p4 s) f
theorem ctlF_is (s : CT) : ctlF s = faultsL (p1 s) (p2 s) (p3 s) (p4 s) := by
 unfold ctlF faultsL p1 p2 p3 p4
 congr 1
 ·
  cases inB s.1 0 3 <;> simp
 ·
  congr 1
  ·
   cases inB s.2.1 0 255 <;> simp
  ·
   congr 1
   ·
    by_cases h : s.2.1 = 0 <;> cases s.2.2 <;> simp [h]
   ·
    by_cases h : s.2.1 = 0 <;> by_cases h2 : s.1 = 2 <;> simp [h, h2]
theorem ok_next : ∀ p q r s : Bool, ((faultsL p q r s).length == 0) = (nextF p q r s 1 == 0) := by decide +kernel
theorem ctlOk_is (s : CT) : ctlOk s = (nx s 1 == 0) := by unfold ctlOk nx; rw [ctlF_is]; exact ok_next _ _ _ _
theorem impl_faultFrom (a b f : Int) (o : Bool) (w : World) (hf : f = 1 ∨ f = 2 ∨ f = 3 ∨ f = 4 ∨ f = 5) :
  Calls Tryz.prog 235 #[.agg #[.int .i64 a, .int .i64 b, .bool o], .int .i64 f] w fun e w' => e = .returned (.int .i64 (nx (a, b, o) f)) ∧ Below w.heap.size w w' := by
 have hb0 : Below w.heap.size w (w.alloc (.cells #[.int .i64 a, .int .i64 b, .bool o] 54)) := (Below.refl _ _).alloc (Nat.le_refl _) _
 have t0 := Var.new w [.int .i64 a, .int .i64 b, .bool o] 54
 change Var (w.alloc (.cells #[.int .i64 a, .int .i64 b, .bool o] 54)) w.heap.size [.int .i64 a, .int .i64 b, .bool o] at t0
 have K1 := fun V : World => impl_trapsOk a V
 have K2 := fun V : World => impl_postOk b V
 have hv : nx (a, b, o) f = nextF (!inB a 0 3) (!inB b 0 255) ((b != 0) && !o) ((b != 0) && (a == 2)) f := rfl
 generalize inB a 0 3 = x at K1 hv
 generalize inB b 0 255 = y at K2 hv
 rcases hf with rfl | rfl | rfl | rfl | rfl
 ·
  skip
  cases x
  ·
   skip
   have HV := Lib.hid (show nx (a, b, o) 1 = 1 from by rw [hv]; simp [nextF])
   clear hv
   go_enter Tryz.func235, Tryz.ntmps235
   go_wp2_with fail
   generalize w.alloc (.cells #[.int .i64 a, .int .i64 b, .bool o] 54) = W0 at t0 hb0 ⊢
   have v0 := t0.cell 0 (v := .int .i64 a) rfl
   have v1 := t0.cell 1 (v := .int .i64 b) rfl
   have v2 := t0.cell 2 (v := .bool o) rfl
   refine (K1 _).mono ?_
   rintro e w' ⟨rfl, rfl⟩
   go_wp2_with fail
   go_ret
   exact ⟨by rw [HV.out]; rfl, hb0⟩
  ·
   skip
   cases y
   ·
    skip
    have HV := Lib.hid (show nx (a, b, o) 1 = 2 from by rw [hv]; simp [nextF])
    clear hv
    go_enter Tryz.func235, Tryz.ntmps235
    go_wp2_with fail
    generalize w.alloc (.cells #[.int .i64 a, .int .i64 b, .bool o] 54) = W0 at t0 hb0 ⊢
    have v0 := t0.cell 0 (v := .int .i64 a) rfl
    have v1 := t0.cell 1 (v := .int .i64 b) rfl
    have v2 := t0.cell 2 (v := .bool o) rfl
    refine (K1 _).mono ?_
    rintro e w' ⟨rfl, rfl⟩
    go_wp2_with fail
    refine (K2 _).mono ?_
    rintro e w' ⟨rfl, rfl⟩
    go_wp2_with fail
    go_ret
    exact ⟨by rw [HV.out]; rfl, hb0⟩
   ·
    skip
    by_cases hb2 : b = 0
    ·
     subst hb2
     have HV := Lib.hid (show nx (a, 0, o) 1 = 0 from by rw [hv]; simp [nextF])
     clear hv
     go_enter Tryz.func235, Tryz.ntmps235
     go_wp2_with fail
     generalize w.alloc (.cells #[.int .i64 a, .int .i64 0, .bool o] 54) = W0 at t0 hb0 ⊢
     have v0 := t0.cell 0 (v := .int .i64 a) rfl
     have v1 := t0.cell 1 (v := .int .i64 0) rfl
     have v2 := t0.cell 2 (v := .bool o) rfl
     refine (K1 _).mono ?_
     rintro e w' ⟨rfl, rfl⟩
     go_wp2_with fail
     refine (K2 _).mono ?_
     rintro e w' ⟨rfl, rfl⟩
     go_wp2_with fail
     go_ret
     exact ⟨by rw [HV.out]; rfl, hb0⟩
    ·
     have hbn : (b != 0) = true := by simpa using hb2
     cases o
     ·
      skip
      have HV := Lib.hid (show nx (a, b, false) 1 = 3 from by rw [hv]; simp [nextF, hbn])
      clear hv
      go_enter Tryz.func235, Tryz.ntmps235
      go_wp2_with fail
      generalize w.alloc (.cells #[.int .i64 a, .int .i64 b, .bool false] 54) = W0 at t0 hb0 ⊢
      have v0 := t0.cell 0 (v := .int .i64 a) rfl
      have v1 := t0.cell 1 (v := .int .i64 b) rfl
      have v2 := t0.cell 2 (v := .bool false) rfl
      refine (K1 _).mono ?_
      rintro e w' ⟨rfl, rfl⟩
      go_wp2_with fail
      refine (K2 _).mono ?_
      rintro e w' ⟨rfl, rfl⟩
      go_wp2_with fail
      go_ret
      exact ⟨by rw [HV.out]; rfl, hb0⟩
     ·
      skip
      by_cases ha2 : a = 2
      ·
       subst ha2
       have HV := Lib.hid (show nx (2, b, true) 1 = 4 from by rw [hv]; simp [nextF, hbn])
       clear hv
       go_enter Tryz.func235, Tryz.ntmps235
       go_wp2_with fail
       generalize w.alloc (.cells #[.int .i64 2, .int .i64 b, .bool true] 54) = W0 at t0 hb0 ⊢
       have v0 := t0.cell 0 (v := .int .i64 2) rfl
       have v1 := t0.cell 1 (v := .int .i64 b) rfl
       have v2 := t0.cell 2 (v := .bool true) rfl
       refine (K1 _).mono ?_
       rintro e w' ⟨rfl, rfl⟩
       go_wp2_with fail
       refine (K2 _).mono ?_
       rintro e w' ⟨rfl, rfl⟩
       go_wp2_with fail
       go_ret
       exact ⟨by rw [HV.out]; rfl, hb0⟩
      ·
       have han : (a == 2) = false := by simpa using ha2
       have HV := Lib.hid (show nx (a, b, true) 1 = 0 from by rw [hv]; simp [nextF, hbn, han])
       clear hv
       go_enter Tryz.func235, Tryz.ntmps235
       go_wp2_with fail
       generalize w.alloc (.cells #[.int .i64 a, .int .i64 b, .bool true] 54) = W0 at t0 hb0 ⊢
       have v0 := t0.cell 0 (v := .int .i64 a) rfl
       have v1 := t0.cell 1 (v := .int .i64 b) rfl
       have v2 := t0.cell 2 (v := .bool true) rfl
       refine (K1 _).mono ?_
       rintro e w' ⟨rfl, rfl⟩
       go_wp2_with fail
       refine (K2 _).mono ?_
       rintro e w' ⟨rfl, rfl⟩
       go_wp2_with fail
       go_ret
       exact ⟨by rw [HV.out]; rfl, hb0⟩
 ·
  skip
  cases y
  ·
   skip
   have HV := Lib.hid (show nx (a, b, o) 2 = 2 from by rw [hv]; simp [nextF])
   clear hv
   go_enter Tryz.func235, Tryz.ntmps235
   go_wp2_with fail
   generalize w.alloc (.cells #[.int .i64 a, .int .i64 b, .bool o] 54) = W0 at t0 hb0 ⊢
   have v0 := t0.cell 0 (v := .int .i64 a) rfl
   have v1 := t0.cell 1 (v := .int .i64 b) rfl
   have v2 := t0.cell 2 (v := .bool o) rfl
   refine (K2 _).mono ?_
   rintro e w' ⟨rfl, rfl⟩
   go_wp2_with fail
   go_ret
   exact ⟨by rw [HV.out]; rfl, hb0⟩
  ·
   skip
   by_cases hb2 : b = 0
   ·
    subst hb2
    have HV := Lib.hid (show nx (a, 0, o) 2 = 0 from by rw [hv]; simp [nextF])
    clear hv
    go_enter Tryz.func235, Tryz.ntmps235
    go_wp2_with fail
    generalize w.alloc (.cells #[.int .i64 a, .int .i64 0, .bool o] 54) = W0 at t0 hb0 ⊢
    have v0 := t0.cell 0 (v := .int .i64 a) rfl
    have v1 := t0.cell 1 (v := .int .i64 0) rfl
    have v2 := t0.cell 2 (v := .bool o) rfl
    refine (K2 _).mono ?_
    rintro e w' ⟨rfl, rfl⟩
    go_wp2_with fail
    go_ret
    exact ⟨by rw [HV.out]; rfl, hb0⟩
   ·
    have hbn : (b != 0) = true := by simpa using hb2
    cases o
    ·
     skip
     have HV := Lib.hid (show nx (a, b, false) 2 = 3 from by rw [hv]; simp [nextF, hbn])
     clear hv
     go_enter Tryz.func235, Tryz.ntmps235
     go_wp2_with fail
     generalize w.alloc (.cells #[.int .i64 a, .int .i64 b, .bool false] 54) = W0 at t0 hb0 ⊢
     have v0 := t0.cell 0 (v := .int .i64 a) rfl
     have v1 := t0.cell 1 (v := .int .i64 b) rfl
     have v2 := t0.cell 2 (v := .bool false) rfl
     refine (K2 _).mono ?_
     rintro e w' ⟨rfl, rfl⟩
     go_wp2_with fail
     go_ret
     exact ⟨by rw [HV.out]; rfl, hb0⟩
    ·
     skip
     by_cases ha2 : a = 2
     ·
      subst ha2
      have HV := Lib.hid (show nx (2, b, true) 2 = 4 from by rw [hv]; simp [nextF, hbn])
      clear hv
      go_enter Tryz.func235, Tryz.ntmps235
      go_wp2_with fail
      generalize w.alloc (.cells #[.int .i64 2, .int .i64 b, .bool true] 54) = W0 at t0 hb0 ⊢
      have v0 := t0.cell 0 (v := .int .i64 2) rfl
      have v1 := t0.cell 1 (v := .int .i64 b) rfl
      have v2 := t0.cell 2 (v := .bool true) rfl
      refine (K2 _).mono ?_
      rintro e w' ⟨rfl, rfl⟩
      go_wp2_with fail
      go_ret
      exact ⟨by rw [HV.out]; rfl, hb0⟩
     ·
      have han : (a == 2) = false := by simpa using ha2
      have HV := Lib.hid (show nx (a, b, true) 2 = 0 from by rw [hv]; simp [nextF, hbn, han])
      clear hv
      go_enter Tryz.func235, Tryz.ntmps235
      go_wp2_with fail
      generalize w.alloc (.cells #[.int .i64 a, .int .i64 b, .bool true] 54) = W0 at t0 hb0 ⊢
      have v0 := t0.cell 0 (v := .int .i64 a) rfl
      have v1 := t0.cell 1 (v := .int .i64 b) rfl
      have v2 := t0.cell 2 (v := .bool true) rfl
      refine (K2 _).mono ?_
      rintro e w' ⟨rfl, rfl⟩
      go_wp2_with fail
      go_ret
      exact ⟨by rw [HV.out]; rfl, hb0⟩
 ·
  skip
  by_cases hb2 : b = 0
  ·
   subst hb2
   have HV := Lib.hid (show nx (a, 0, o) 3 = 0 from by rw [hv]; simp [nextF])
   clear hv
   go_enter Tryz.func235, Tryz.ntmps235
   go_wp2_with fail
   generalize w.alloc (.cells #[.int .i64 a, .int .i64 0, .bool o] 54) = W0 at t0 hb0 ⊢
   have v0 := t0.cell 0 (v := .int .i64 a) rfl
   have v1 := t0.cell 1 (v := .int .i64 0) rfl
   have v2 := t0.cell 2 (v := .bool o) rfl
   go_ret
   exact ⟨by rw [HV.out]; rfl, hb0⟩
  ·
   have hbn : (b != 0) = true := by simpa using hb2
   cases o
   ·
    skip
    have HV := Lib.hid (show nx (a, b, false) 3 = 3 from by rw [hv]; simp [nextF, hbn])
    clear hv
    go_enter Tryz.func235, Tryz.ntmps235
    go_wp2_with fail
    generalize w.alloc (.cells #[.int .i64 a, .int .i64 b, .bool false] 54) = W0 at t0 hb0 ⊢
    have v0 := t0.cell 0 (v := .int .i64 a) rfl
    have v1 := t0.cell 1 (v := .int .i64 b) rfl
    have v2 := t0.cell 2 (v := .bool false) rfl
    go_ret
    exact ⟨by rw [HV.out]; rfl, hb0⟩
   ·
    skip
    by_cases ha2 : a = 2
    ·
     subst ha2
     have HV := Lib.hid (show nx (2, b, true) 3 = 4 from by rw [hv]; simp [nextF, hbn])
     clear hv
     go_enter Tryz.func235, Tryz.ntmps235
     go_wp2_with fail
     generalize w.alloc (.cells #[.int .i64 2, .int .i64 b, .bool true] 54) = W0 at t0 hb0 ⊢
     have v0 := t0.cell 0 (v := .int .i64 2) rfl
     have v1 := t0.cell 1 (v := .int .i64 b) rfl
     have v2 := t0.cell 2 (v := .bool true) rfl
     go_ret
     exact ⟨by rw [HV.out]; rfl, hb0⟩
    ·
     have han : (a == 2) = false := by simpa using ha2
     have HV := Lib.hid (show nx (a, b, true) 3 = 0 from by rw [hv]; simp [nextF, hbn, han])
     clear hv
     go_enter Tryz.func235, Tryz.ntmps235
     go_wp2_with fail
     generalize w.alloc (.cells #[.int .i64 a, .int .i64 b, .bool true] 54) = W0 at t0 hb0 ⊢
     have v0 := t0.cell 0 (v := .int .i64 a) rfl
     have v1 := t0.cell 1 (v := .int .i64 b) rfl
     have v2 := t0.cell 2 (v := .bool true) rfl
     go_ret
     exact ⟨by rw [HV.out]; rfl, hb0⟩
 ·
  skip
  by_cases hb2 : b = 0
  ·
   subst hb2
   have HV := Lib.hid (show nx (a, 0, o) 4 = 0 from by rw [hv]; simp [nextF])
   clear hv
   go_enter Tryz.func235, Tryz.ntmps235
   go_wp2_with fail
   generalize w.alloc (.cells #[.int .i64 a, .int .i64 0, .bool o] 54) = W0 at t0 hb0 ⊢
   have v0 := t0.cell 0 (v := .int .i64 a) rfl
   have v1 := t0.cell 1 (v := .int .i64 0) rfl
   have v2 := t0.cell 2 (v := .bool o) rfl
   go_ret
   exact ⟨by rw [HV.out]; rfl, hb0⟩
  ·
   have hbn : (b != 0) = true := by simpa using hb2
   by_cases ha2 : a = 2
   ·
    subst ha2
    have HV := Lib.hid (show nx (2, b, o) 4 = 4 from by rw [hv]; simp [nextF, hbn])
    clear hv
    go_enter Tryz.func235, Tryz.ntmps235
    go_wp2_with fail
    generalize w.alloc (.cells #[.int .i64 2, .int .i64 b, .bool o] 54) = W0 at t0 hb0 ⊢
    have v0 := t0.cell 0 (v := .int .i64 2) rfl
    have v1 := t0.cell 1 (v := .int .i64 b) rfl
    have v2 := t0.cell 2 (v := .bool o) rfl
    go_ret
    exact ⟨by rw [HV.out]; rfl, hb0⟩
   ·
    have han : (a == 2) = false := by simpa using ha2
    have HV := Lib.hid (show nx (a, b, o) 4 = 0 from by rw [hv]; simp [nextF, hbn, han])
    clear hv
    go_enter Tryz.func235, Tryz.ntmps235
    go_wp2_with fail
    generalize w.alloc (.cells #[.int .i64 a, .int .i64 b, .bool o] 54) = W0 at t0 hb0 ⊢
    have v0 := t0.cell 0 (v := .int .i64 a) rfl
    have v1 := t0.cell 1 (v := .int .i64 b) rfl
    have v2 := t0.cell 2 (v := .bool o) rfl
    go_ret
    exact ⟨by rw [HV.out]; rfl, hb0⟩
 ·
  skip
  have HV := Lib.hid (show nx (a, b, o) 5 = 0 from by rw [hv]; simp [nextF])
  clear hv
  go_enter Tryz.func235, Tryz.ntmps235
  go_wp2_with fail
  generalize w.alloc (.cells #[.int .i64 a, .int .i64 b, .bool o] 54) = W0 at t0 hb0 ⊢
  have v0 := t0.cell 0 (v := .int .i64 a) rfl
  have v1 := t0.cell 1 (v := .int .i64 b) rfl
  have v2 := t0.cell 2 (v := .bool o) rfl
  go_ret
  exact ⟨by rw [HV.out]; rfl, hb0⟩
theorem impl_ctlOk (a b : Int) (o : Bool) (w : World) (ws : wfC (a, b, o)) :
  Calls Tryz.prog 230 #[.agg #[.int .i64 a, .int .i64 b, .bool o]] w fun e w' => e = .returned (.bool (ctlOk (a, b, o))) ∧ Below w.heap.size w w' := by
 have H1 := Lib.hid (fun V : World => impl_faultFrom a b 1 o V (.inl rfl))
 have HV := Lib.hid (ctlOk_is (a, b, o))
 generalize nx (a, b, o) 1 = z at H1 HV
 go_enter Tryz.func230, Tryz.ntmps230
 go_wp2_with fail
 refine (H1.out _).mono ?_
 rintro e w1 ⟨rfl, hb1⟩
 have HB1 := Lib.hid (btr ((Below.refl w.heap.size w).alloc (Nat.le_refl _) (.cells #[.int .i64 a, .int .i64 b, .bool o] 54)) hb1)
 clear hb1
 go_wp2_with fail
 go_ret
 exact ⟨by rw [HV.out]; rfl, HB1.out⟩
theorem impl_hasTrap (a b : Int) (w : World) (wa : (Lit.int .i64 a).wf = true) (wb : (Lit.int .i64 b).wf = true) :
  Calls Tryz.prog 265 #[.int .i64 a, .int .i64 b] w fun e w' => e = .returned (.bool (hasTrap a b)) ∧ Below w.heap.size w w' := by
 clear wa wb
 have K1 := Lib.hid (fun V : World => impl_trapsOk a V)
 have hv : hasTrap a b = (inB a 0 3 && inB b 1 2 && (bits .and .i64 a b != 0)) := rfl
 generalize inB a 0 3 = x at K1 hv
 cases x
 ·
  simp only [Bool.false_and] at hv
  have HV := Lib.hid hv
  clear hv
  go_enter Tryz.func265, Tryz.ntmps265
  go_wp2_with fail
  refine (K1.out _).mono ?_
  rintro e w' ⟨rfl, rfl⟩
  go_wp2_with fail
  go_ret
  exact ⟨by rw [HV.out]; rfl, Below.refl _ _⟩
 ·
  by_cases h1 : b = 1
  ·
   subst h1
   have hv2 : hasTrap a 1 = (bits .and .i64 a 1 != 0) := by rw [hv, show inB 1 1 2 = true from rfl]; rfl
   have HV := Lib.hid hv2
   clear hv hv2
   go_enter Tryz.func265, Tryz.ntmps265
   go_wp2_with fail
   refine (K1.out _).mono ?_
   rintro e w' ⟨rfl, rfl⟩
   go_wp2_with fail
   go_ret
   exact ⟨by rw [HV.out]; rfl, Below.refl _ _⟩
  ·
   have h1' : (b == 1) = false := by simpa using h1
   by_cases h2 : b = 2
   ·
    subst h2
    have hv2 : hasTrap a 2 = (bits .and .i64 a 2 != 0) := by rw [hv, show inB 2 1 2 = true from rfl]; rfl
    have HV := Lib.hid hv2
    clear hv hv2
    go_enter Tryz.func265, Tryz.ntmps265
    go_wp2_with fail
    refine (K1.out _).mono ?_
    rintro e w' ⟨rfl, rfl⟩
    go_wp2_with fail
    go_ret
    exact ⟨by rw [HV.out]; rfl, Below.refl _ _⟩
   ·
    have h2' : (b == 2) = false := by simpa using h2
    have hv2 : hasTrap a b = false := by rw [hv, inB_false.2 (by omega)]; rfl
    have HV := Lib.hid hv2
    clear hv hv2
    go_enter Tryz.func265, Tryz.ntmps265
    go_wp2_with fail
    refine (K1.out _).mono ?_
    rintro e w' ⟨rfl, rfl⟩
    go_wp2_with fail
    go_ret
    exact ⟨by rw [HV.out]; rfl, Below.refl _ _⟩
end Go.Proofs.YtmiokacihcpepaaGreat.Ctls
namespace Go.Proofs.YtmiokacihcpepaaGreat.Inss
set_option maxHeartbeats 8000000
set_option maxRecDepth 100000
set_option maxRecDepth 100000
open Go.ChangeShapes Go.WideShapes Go.ChangeAt Go.RowKit
open Go.Proofs.YtmiokacihcpepaaGreat.Base Go.Proofs.YtmiokacihcpepaaGreat.Mem Go.Proofs.YtmiokacihcpepaaGreat.Data Go.Proofs.YtmiokacihcpepaaGreat.Addrs Go.Proofs.YtmiokacihcpepaaGreat.Rights
set_option linter.unusedVariables false
set_option linter.unusedSimpArgs false
def topX (o : Int) : Int := if o = 1 ∨ o = 2 ∨ o = 5 ∨ o = 6 then 99 else if o = 3 ∨ o = 4 then 15 else if o = 7 then 0 else if o = 8 then 11 else -1
theorem insOk_top (o x : Int) : insOk (o, x) = (decide (0 ≤ x) && decide (x ≤ topX o)) := by
 unfold insOk topX
 dsimp only
 have hz : (x == 0) = (decide (0 ≤ x) && decide (x ≤ 0)) := by
  rw [Bool.eq_iff_iff, beq_iff_eq, Bool.and_eq_true, decide_eq_true_iff, decide_eq_true_iff]; omega
 have hb : ∀ k : Int, inB x 0 k = (decide (0 ≤ x) && decide (x ≤ k)) := fun k => by
  rw [Bool.eq_iff_iff, inB_iff, Bool.and_eq_true, decide_eq_true_iff, decide_eq_true_iff]
 have hn : false = (decide (0 ≤ x) && decide (x ≤ -1)) := by
  rw [eq_comm, Bool.and_eq_false_iff, decide_eq_false_iff_not, decide_eq_false_iff_not]; omega
 split
 ·
  exact hb 99
 ·
  split
  ·
   exact hb 15
  ·
   split
   ·
    exact hz
   ·
    split
    ·
     exact hb 11
    ·
     exact hn
theorem impl_topX (o : Int) (w : World) :
  Calls Tryz.prog 234 #[.int .i64 o] w fun e w' => e = .returned (.int .i64 (topX o)) ∧ w' = w := by
 rcases op_cases o with rfl | rfl | rfl | rfl | rfl | rfl | rfl | rfl | h
 iterate 8
  ·
   go_enter Tryz.func234, Tryz.ntmps234
   go_wp2_with fail
   go_ret
   exact ⟨rfl, rfl⟩
 ·
  have HV := Lib.hid (show topX o = -1 by
   simp only [beq_eq_false_iff_ne, ne_eq] at h
   simp [topX, h])
  obtain ⟨h1, h2, h3, h4, h5, h6, h7, h8⟩ := h
  go_enter Tryz.func234, Tryz.ntmps234
  go_wp2_with fail
  go_ret
  exact ⟨by rw [HV.out]; rfl, rfl⟩
theorem impl_insOk (o x : Int) (w : World) (ws : wfJ (o, x)) :
  Calls Tryz.prog 229 #[.agg #[.int .i64 o, .int .i64 x]] w fun e w' => e = .returned (.bool (insOk (o, x))) ∧ Below w.heap.size w w' := by
 have hb0 : Below w.heap.size w (w.alloc (.cells #[.int .i64 o, .int .i64 x] 48)) := (Below.refl _ _).alloc (Nat.le_refl _) _
 have k0 : (w.alloc (.cells #[.int .i64 o, .int .i64 x] 48)).cell? ⟨w.heap.size, 0, none⟩ = some (.int .i64 o) := cell_of_row _ _ 0 _ _ _ (heap_alloc_new w _)
 have k1 : (w.alloc (.cells #[.int .i64 o, .int .i64 x] 48)).cell? ⟨w.heap.size, 1, none⟩ = some (.int .i64 x) := cell_of_row _ _ 1 _ _ _ (heap_alloc_new w _)
 have HB := Lib.hid hb0
 have HC := Lib.hid (show ∀ V : World, Calls Tryz.prog 234 #[.int .i64 o] V fun e w' => e = .returned (.int .i64 (topX o)) ∧ w' = V from impl_topX o)
 have hv := insOk_top o x
 generalize topX o = t at hv HC
 clear hb0 ws
 by_cases h0 : 0 ≤ x
 ·
  have hd : decide (x ≥ 0) = true := decide_eq_true h0
  rw [decide_eq_true h0, Bool.true_and] at hv
  have HV := Lib.hid hv
  clear hv h0
  go_enter Tryz.func229, Tryz.ntmps229
  go_wp2_with fail
  generalize w.alloc (.cells #[.int .i64 o, .int .i64 x] 48) = W at k0 k1 HB ⊢
  go_quiet ((go_at_call 234; exact Calls.quiet_of_same (HC.out _)))
  go_wp2_with fail
  go_ret
  exact ⟨by rw [HV.out]; rfl, btr HB.out (below_drewN (Below.refl _ _) _)⟩
 ·
  have hd : decide (x ≥ 0) = false := decide_eq_false (by omega)
  rw [decide_eq_false h0, Bool.false_and] at hv
  have HV := Lib.hid hv
  clear hv h0
  go_enter Tryz.func229, Tryz.ntmps229
  go_wp2_with fail
  generalize w.alloc (.cells #[.int .i64 o, .int .i64 x] 48) = W at k0 k1 HB ⊢
  go_quiet ((go_at_call 234; exact Calls.quiet_of_same (HC.out _)))
  go_wp2_with fail
  go_ret
  exact ⟨by rw [HV.out]; rfl, btr HB.out (below_drewN (Below.refl _ _) _)⟩
theorem progOk_len {l : List JT} (h : l.length = 0 ∨ 12 < l.length) : progOk l = false := by
 unfold progOk
 rw [inB_false.2 (by omega), Bool.and_false]
theorem impl_progOk (A : Option Addr) (n c : Nat) (l : List JT) (w : World) (hn : n ≤ 1048576) (hl : l.length = n) (h1 : Lies w 0 w.heap.size A (jcells l)) (wl : wfJL l) :
  Calls Tryz.prog 222 #[.slice A n c] w fun e w' => e = .returned (.bool (progOk l)) ∧ Below w.heap.size w w' := by
 have H1 := Lib.hid h1
 have HL := Lib.hid hl
 have HW := Lib.hid wl
 clear h1 hl wl
 by_cases h0 : n = 0
 ·
  subst h0
  have HV := Lib.hid (progOk_len (l := l) (.inl HL.out))
  go_enter Tryz.func222, Tryz.ntmps222
  go_wp2_with fail
  go_ret
  exact ⟨by rw [HV.out]; rfl, Below.refl _ _⟩
 ·
  by_cases h12 : 12 < n
  ·
   have HV := Lib.hid (progOk_len (l := l) (.inr (by rw [HL.out]; exact h12)))
   have e0 : ((n : Int) == 0) = false := by simpa using h0
   have e12 : decide ((n : Int) > 12) = true := decide_eq_true (by omega)
   go_enter Tryz.func222, Tryz.ntmps222
   go_wp2_with fail
   go_ret
   exact ⟨by rw [HV.out]; rfl, Below.refl _ _⟩
  ·
   have e0 : ((n : Int) == 0) = false := by simpa using h0
   have e12 : decide ((n : Int) > 12) = false := decide_eq_false (by omega)
   go_enter Tryz.func222, Tryz.ntmps222
   go_wp2_with fail
   go_loopw [14] (fun i wr => ∃ (k : Nat), k ≤ n ∧ i = .int .i64 k ∧ (∀ (j : Nat) (hj : j < l.length), j < k → insOk l[j] = true) ∧ Below w.heap.size w wr) (fun i _ => n - (intOf i).toNat)
   case atStart => exact ⟨0, Nat.zero_le _, rfl, fun j hj h => absurd h (Nat.not_lt_zero _), Below.refl _ _⟩
   case round =>
    obtain ⟨k, hk, rfl, hall, hb⟩ := hrel
    have HA := Lib.hid hall
    have HB := Lib.hid hb
    clear hall
    by_cases hlt : k < n
    ·
     have hkl : k < l.length := by have := HL.out; omega
     obtain ⟨b, off, rfl, _, hbw, c0, c1⟩ := j_at H1.out k hkl
     have d0 := (hb.cell (p := ⟨b, off + k * 2, none⟩) hbw).trans c0
     have d1 := (hb.cell (p := ⟨b, off + k * 2 + 1, none⟩) hbw).trans c1
     have hj0 : (0 : Int) ≤ (k : Int) := Int.natCast_nonneg _
     have hj1 : (k : Int) < (n : Int) := by omega
     have hcall := impl_insOk l[k].1 l[k].2 wr (HW.out _ (List.getElem_mem hkl))
     obtain ⟨v, hv⟩ : ∃ v, insOk l[k] = v := ⟨_, rfl⟩
     rw [show insOk (l[k].1, l[k].2) = v from hv] at hcall
     have HCALL := Lib.hid hcall
     have HV := Lib.hid hv
     clear hcall hv c0 c1 hb
     generalize l[k].1 = o at d0 HCALL
     generalize l[k].2 = x at d1 HCALL
     cases v
     ·
      go_wp2_with fail
      refine HCALL.out.mono ?_
      rintro e w1 ⟨rfl, hb1⟩
      have HB1 := Lib.hid (btr HB.out hb1)
      clear hb1
      go_wp2_with fail
      go_ret
      exact ⟨by rw [progOk_no hkl HV.out]; rfl, HB1.out⟩
     ·
      go_wp2_with fail
      refine HCALL.out.mono ?_
      rintro e w1 ⟨rfl, hb1⟩
      have HB1 := Lib.hid (btr HB.out hb1)
      clear hb1
      go_wp2_with fail
      go_roundw
      case rel =>
       refine ⟨k + 1, by omega, by go_num, fun j hj h => ?_, HB1.out⟩
       rcases Nat.lt_succ_iff_lt_or_eq.1 h with h2 | rfl
       ·
        exact HA.out j hj h2
       ·
        exact HV.out
      case measure => simp [intOf]; omega
    ·
     obtain rfl : k = n := by omega
     have hv := progOk_yes (l := l) (fun j hj => HA.out j hj (by have := HL.out; omega))
     rw [HL.out, inB_iff.2 ⟨by omega, by omega⟩] at hv
     have HV := Lib.hid hv
     clear hv hb
     go_wp2_with fail
     go_ret
     exact ⟨by rw [HV.out]; rfl, HB.out⟩
theorem impl_insAt (A : Option Addr) (n c : Nat) (pc : Int) (l : List JT) (w : World) (hn : n ≤ 1048576) (hl : l.length = n) (h1 : Lies w 0 w.heap.size A (jcells l)) (wl : wfJL l) (wp : (Lit.int .i64 pc).wf = true) :
  Calls Tryz.prog 166 #[.slice A n c, .int .i64 pc] w (OneIns w (insAt l pc)) := by
 have H1 := Lib.hid h1
 have HL := Lib.hid hl
 clear h1 hl wp wl
 by_cases h : 0 ≤ pc ∧ pc < n
 ·
  obtain ⟨h0, h1⟩ := h
  obtain ⟨k, rfl⟩ := Int.eq_ofNat_of_zero_le h0
  have hkl : k < l.length := by have := HL.out; omega
  rw [show insAt l (k : Int) = l[k] from insAt_in (pc := (k : Int)) h0 (by simpa using hkl), show l[k] = (l[k].1, l[k].2) from rfl]
  obtain ⟨b, off, rfl, _, hbw, c1, c2⟩ := j_at H1.out k hkl
  have hne : b ≠ w.heap.size := by omega
  have hd1 : decide ((k : Int) < 0) = false := decide_eq_false (by omega)
  have hd2 : decide ((k : Int) ≥ (n : Int)) = false := decide_eq_false (by omega)
  generalize l[k].1 = x at c1 ⊢
  generalize l[k].2 = y at c2 ⊢
  go_enter Tryz.func166, Tryz.ntmps166
  go_wp2_with fail
  exact bodyPost_ret (v := .agg #[.int .i64 x, .int .i64 y]) (by simp [results, Tryz.results166, go_sem]) rfl ⟨rfl, (Below.refl _ _).alloc (Nat.le_refl _) _⟩
 ·
  have HA := Lib.hid (insAt_out (l := l) (pc := pc) (by rw [HL.out]; omega))
  by_cases hlo : pc < 0
  ·
   have hd1 : decide (pc < 0) = true := decide_eq_true hlo
   clear h hlo
   go_enter Tryz.func166, Tryz.ntmps166
   go_wp2_with fail
   exact bodyPost_ret (v := .agg #[.int .i64 7, .int .i64 0]) (by simp [results, Tryz.results166, go_sem]) rfl ⟨by rw [HA.out]; rfl, (Below.refl _ _).alloc (Nat.le_refl _) _⟩
  ·
   have hd1 : decide (pc < 0) = false := decide_eq_false hlo
   have hd2 : decide (pc ≥ (n : Int)) = true := decide_eq_true (by omega)
   clear h hlo
   go_enter Tryz.func166, Tryz.ntmps166
   go_wp2_with fail
   exact bodyPost_ret (v := .agg #[.int .i64 7, .int .i64 0]) (by simp [results, Tryz.results166, go_sem]) rfl ⟨by rw [HA.out]; rfl, (Below.refl _ _).alloc (Nat.le_refl _) _⟩
end Go.Proofs.YtmiokacihcpepaaGreat.Inss
namespace Go.Proofs.YtmiokacihcpepaaGreat.Guests
set_option maxHeartbeats 8000000
set_option maxRecDepth 100000
set_option maxRecDepth 100000
open Go.ChangeShapes Go.WideShapes Go.ChangeAt Go.RowKit
open Go.Proofs.YtmiokacihcpepaaGreat.Base Go.Proofs.YtmiokacihcpepaaGreat.Mem Go.Proofs.YtmiokacihcpepaaGreat.Data Go.Proofs.YtmiokacihcpepaaGreat.Slots Go.Proofs.YtmiokacihcpepaaGreat.Ints Go.Proofs.YtmiokacihcpepaaGreat.Ctls Go.Proofs.YtmiokacihcpepaaGreat.Exits Go.Proofs.YtmiokacihcpepaaGreat.Stt Go.Proofs.YtmiokacihcpepaaGreat.Irqs Go.Proofs.YtmiokacihcpepaaGreat.Inss
set_option linter.unusedVariables false
set_option linter.unusedSimpArgs false
def gnum (g : gT) : Prop := wfGuest g
theorem gnum_pd {g : gT} (h : gnum g) : (Lit.int .i64 g.pd).wf = true := h.2.2.2.2.2.2.1
theorem gnum_t {g : gT} (h : gnum g) : wfC g.t := h.2.2.2.2.2.1
theorem gnum_x {g : gT} (h : gnum g) : wfQ g.x := h.2.2.2.2.2.2.2.1
theorem lib_cloneIns (xs : List (Int × Int)) (A : Option Addr) (c : Nat) (w : World) (hp : xs.length ≤ 1048576) (h : rdLst (rPair rInt rInt) w 0 w.heap.size xs [.slice A xs.length c]) : Calls Tryz.prog 202 #[.slice A xs.length c] w (Gives (rLst 48 (rPair rInt rInt)) w xs) := by
 rcases A with _ | ad
 ·
  obtain rfl := Sx.p2_nothing h
  refine Sx.enter (args := [.slice none 0 c]) Tryz.func202 rfl Tryz.ntmps202 rfl ?_
  refine Sx.C.seq (Sx.C.region ?_)
  refine Sx.G.p (.slice none 0 0) ?_
  refine Sx.G.nil (Sx.E.next (Sx.C.seq (Sx.C.seq (Sx.C.region ?_))))
  refine Sx.G.p (.slice none 0 c) ?_
  refine Sx.G.p (.bool true) ?_
  refine Sx.G.nil (Sx.E.next ?_)
  refine Sx.C.yy ?_
  refine Sx.C.seq (Sx.C.region ?_)
  refine Sx.G.p (.slice none 0 0) ?_
  refine Sx.G.nil (Sx.E.next (Sx.C.ret (Sx.E.then_ret ?_)))
  refine Sx.E.ret1 (.slice none 0 0) rfl (by kernel_rfl) (fun w S => ?_)
  have S' := St.nil S 48 (rPair rInt rInt)
  exact ⟨[_], _, rfl, S'.own 0 rfl, S'.nodup 0 rfl, S.below⟩
 ·
  refine Sx.enter (args := [.slice (some ad) xs.length c]) Tryz.func202 rfl Tryz.ntmps202 rfl ?_
  refine Sx.C.seq (Sx.C.region ?_)
  refine Sx.G.p (.slice none 0 0) ?_
  refine Sx.G.nil (Sx.E.next (Sx.C.seq (Sx.C.seq (Sx.C.region ?_))))
  refine Sx.G.p (.slice (some ad) xs.length c) ?_
  refine Sx.G.p (.bool false) ?_
  refine Sx.G.nil (Sx.E.next ?_)
  refine Sx.C.nn ?_
  refine Sx.C.skip (Sx.E.next (Sx.C.seq (Sx.C.region ?_)))
  refine Sx.G.fresh 48 (rPair rInt rInt) (by kernel_rfl) (fun w => by kernel_rfl) (fun b1 hi1 => ?_)
  refine Sx.G.p (.slice (some ad) xs.length c) ?_
  refine Sx.G.apps 0 rfl xs (fun w S => St.old (r := rLsw (rPair rInt rInt)) S h) (List.nil_append _) xs.length (by simp) flat_P2 (.tmp 5) (.tmp 6) 49 2 16 rfl rfl (by kernel_rfl) (by kernel_rfl) rfl (by kernel_rfl) (by kernel_rfl) (by simp only [maxLen, List.length_nil, List.length_cons]; omega) (by simp only [List.length_nil, List.length_cons]; omega) (fun A2 c2 F2 hi2 hm2 => ?_)
  refine Sx.G.p (.slice A2 xs.length c2) ?_
  refine Sx.G.nil (Sx.E.next (Sx.C.ret ?_))
  refine Sx.E.ret1 (.slice A2 xs.length c2) rfl (by kernel_rfl) (fun w S => ?_)
  exact ⟨[_], _, rfl, S.own 0 rfl, S.nodup 0 rfl, S.below⟩
theorem lib_cloneSlot (xs : List (Int × Int)) (A : Option Addr) (c : Nat) (w : World) (hp : xs.length ≤ 1048576) (h : rdLst (rPair rInt rInt) w 0 w.heap.size xs [.slice A xs.length c]) : Calls Tryz.prog 203 #[.slice A xs.length c] w (Gives (rLst 58 (rPair rInt rInt)) w xs) := by
 rcases A with _ | ad
 ·
  obtain rfl := Sx.p2_nothing h
  refine Sx.enter (args := [.slice none 0 c]) Tryz.func203 rfl Tryz.ntmps203 rfl ?_
  refine Sx.C.seq (Sx.C.region ?_)
  refine Sx.G.p (.slice none 0 0) ?_
  refine Sx.G.nil (Sx.E.next (Sx.C.seq (Sx.C.seq (Sx.C.region ?_))))
  refine Sx.G.p (.slice none 0 c) ?_
  refine Sx.G.p (.bool true) ?_
  refine Sx.G.nil (Sx.E.next ?_)
  refine Sx.C.yy ?_
  refine Sx.C.seq (Sx.C.region ?_)
  refine Sx.G.p (.slice none 0 0) ?_
  refine Sx.G.nil (Sx.E.next (Sx.C.ret (Sx.E.then_ret ?_)))
  refine Sx.E.ret1 (.slice none 0 0) rfl (by kernel_rfl) (fun w S => ?_)
  have S' := St.nil S 58 (rPair rInt rInt)
  exact ⟨[_], _, rfl, S'.own 0 rfl, S'.nodup 0 rfl, S.below⟩
 ·
  refine Sx.enter (args := [.slice (some ad) xs.length c]) Tryz.func203 rfl Tryz.ntmps203 rfl ?_
  refine Sx.C.seq (Sx.C.region ?_)
  refine Sx.G.p (.slice none 0 0) ?_
  refine Sx.G.nil (Sx.E.next (Sx.C.seq (Sx.C.seq (Sx.C.region ?_))))
  refine Sx.G.p (.slice (some ad) xs.length c) ?_
  refine Sx.G.p (.bool false) ?_
  refine Sx.G.nil (Sx.E.next ?_)
  refine Sx.C.nn ?_
  refine Sx.C.skip (Sx.E.next (Sx.C.seq (Sx.C.region ?_)))
  refine Sx.G.fresh 58 (rPair rInt rInt) (by kernel_rfl) (fun w => by kernel_rfl) (fun b1 hi1 => ?_)
  refine Sx.G.p (.slice (some ad) xs.length c) ?_
  refine Sx.G.apps 0 rfl xs (fun w S => St.old (r := rLsw (rPair rInt rInt)) S h) (List.nil_append _) xs.length (by simp) flat_P2 (.tmp 5) (.tmp 6) 52 2 16 rfl rfl (by kernel_rfl) (by kernel_rfl) rfl (by kernel_rfl) (by kernel_rfl) (by simp only [maxLen, List.length_nil, List.length_cons]; omega) (by simp only [List.length_nil, List.length_cons]; omega) (fun A2 c2 F2 hi2 hm2 => ?_)
  refine Sx.G.p (.slice A2 xs.length c2) ?_
  refine Sx.G.nil (Sx.E.next (Sx.C.ret ?_))
  refine Sx.E.ret1 (.slice A2 xs.length c2) rfl (by kernel_rfl) (fun w S => ?_)
  exact ⟨[_], _, rfl, S.own 0 rfl, S.nodup 0 rfl, S.below⟩
theorem lib_cloneInt (xs : List (Int)) (A : Option Addr) (c : Nat) (w : World) (hp : xs.length ≤ 1048576) (h : rdLst rInt w 0 w.heap.size xs [.slice A xs.length c]) : Calls Tryz.prog 102 #[.slice A xs.length c] w (Gives (rLst 3 rInt) w xs) := by
 rcases A with _ | ad
 ·
  obtain rfl := Sx.i1_nothing h
  refine Sx.enter (args := [.slice none 0 c]) Tryz.func102 rfl Tryz.ntmps102 rfl ?_
  refine Sx.C.seq (Sx.C.region ?_)
  refine Sx.G.p (.slice none 0 0) ?_
  refine Sx.G.nil (Sx.E.next (Sx.C.seq (Sx.C.seq (Sx.C.region ?_))))
  refine Sx.G.p (.slice none 0 c) ?_
  refine Sx.G.p (.bool true) ?_
  refine Sx.G.nil (Sx.E.next ?_)
  refine Sx.C.yy ?_
  refine Sx.C.seq (Sx.C.region ?_)
  refine Sx.G.p (.slice none 0 0) ?_
  refine Sx.G.nil (Sx.E.next (Sx.C.ret (Sx.E.then_ret ?_)))
  refine Sx.E.ret1 (.slice none 0 0) rfl (by kernel_rfl) (fun w S => ?_)
  have S' := St.nil S 3 rInt
  exact ⟨[_], _, rfl, S'.own 0 rfl, S'.nodup 0 rfl, S.below⟩
 ·
  refine Sx.enter (args := [.slice (some ad) xs.length c]) Tryz.func102 rfl Tryz.ntmps102 rfl ?_
  refine Sx.C.seq (Sx.C.region ?_)
  refine Sx.G.p (.slice none 0 0) ?_
  refine Sx.G.nil (Sx.E.next (Sx.C.seq (Sx.C.seq (Sx.C.region ?_))))
  refine Sx.G.p (.slice (some ad) xs.length c) ?_
  refine Sx.G.p (.bool false) ?_
  refine Sx.G.nil (Sx.E.next ?_)
  refine Sx.C.nn ?_
  refine Sx.C.skip (Sx.E.next (Sx.C.seq (Sx.C.region ?_)))
  refine Sx.G.fresh 3 rInt (by kernel_rfl) (fun w => by kernel_rfl) (fun b1 hi1 => ?_)
  refine Sx.G.p (.slice (some ad) xs.length c) ?_
  refine Sx.G.apps 0 rfl xs (fun w S => St.old (r := rLsw rInt) S h) (List.nil_append _) xs.length (by simp) flat_int (.tmp 5) (.tmp 6) 26 1 8 rfl rfl (by kernel_rfl) (by kernel_rfl) rfl (by kernel_rfl) (by kernel_rfl) (by simp only [maxLen, List.length_nil, List.length_cons]; omega) (by simp only [List.length_nil, List.length_cons]; omega) (fun A2 c2 F2 hi2 hm2 => ?_)
  refine Sx.G.p (.slice A2 xs.length c2) ?_
  refine Sx.G.nil (Sx.E.next (Sx.C.ret ?_))
  refine Sx.E.ret1 (.slice A2 xs.length c2) rfl (by kernel_rfl) (fun w S => ?_)
  exact ⟨[_], _, rfl, S.own 0 rfl, S.nodup 0 rfl, S.below⟩
theorem impl_regs (g : gT) (cs : List Value) (w : World) (h : rG.rd w 0 w.heap.size g cs) : Calls Tryz.prog 132 #[.agg cs.toArray] w (fun e w' => e = .returned (.agg #[.int .i64 g.a, .int .i64 g.pc, .int .i64 g.t.1, .int .i64 g.t.2.1, .bool g.t.2.2, .int .i64 g.pd, .int .i64 g.x.1, .int .i64 g.x.2.1, .bool g.x.2.2.1, .int .i64 g.x.2.2.2, .bool g.hl]) ∧ Below w.heap.size w w') := by
 have hr := h
 obtain ⟨P0, P1, P2, P3, rfl, h0, h1, h2, h3⟩ := rG_rd h
 obtain ⟨PA0, Pc0, e0, hP0⟩ := lst_val h0
 subst e0
 obtain ⟨PA1, Pc1, e1, hP1⟩ := lst_val h1
 subst e1
 obtain ⟨PA2, Pc2, e2, hP2⟩ := lst_val h2
 subst e2
 obtain ⟨PA3, Pc3, e3, hP3⟩ := lst_val h3
 subst e3
 refine Sx.enter (args := [.agg #[.slice PA0 g.prog.length Pc0, .int .i64 g.a, .int .i64 g.pc, .slice PA1 g.wr.length Pc1, .slice PA2 g.lv.length Pc2, .int .i64 g.t.1, .int .i64 g.t.2.1, .bool g.t.2.2, .int .i64 g.pd, .int .i64 g.x.1, .int .i64 g.x.2.1, .bool g.x.2.2.1, .int .i64 g.x.2.2.2, .bool g.hl, .slice PA3 g.seen.length Pc3]]) Tryz.func132 rfl Tryz.ntmps132 rfl ?_
 refine Sx.C.seq (Sx.C.region ?_)
 refine Sx.G.b [.slice PA0 g.prog.length Pc0, .int .i64 g.a, .int .i64 g.pc, .slice PA1 g.wr.length Pc1, .slice PA2 g.lv.length Pc2, .int .i64 g.t.1, .int .i64 g.t.2.1, .bool g.t.2.2, .int .i64 g.pd, .int .i64 g.x.1, .int .i64 g.x.2.1, .bool g.x.2.2.1, .int .i64 g.x.2.2.2, .bool g.hl, .slice PA3 g.seen.length Pc3] (fun b1 => ?_)
 refine Sx.G.ar [.int .i64 0, .int .i64 0, .int .i64 0, .int .i64 0, .bool false, .int .i64 0, .int .i64 0, .int .i64 0, .bool false, .int .i64 0, .bool false] (fun b2 => ?_)
 refine Sx.G.nil (Sx.E.next (Sx.C.seq (Sx.C.region ?_)))
 refine Sx.G.p (.pointer (some ⟨b1, 1, none⟩)) ?_
 refine Sx.G.g (.int .i64 g.a) .m1 .m1 ?_
 refine Sx.G.p (.pointer (some ⟨b1, 2, none⟩)) ?_
 refine Sx.G.g (.int .i64 g.pc) .m1 .m2 ?_
 refine Sx.G.p (.pointer (some ⟨b1, 5, none⟩)) ?_
 refine Sx.G.lp 5 [.int .i64 g.t.1, .int .i64 g.t.2.1, .bool g.t.2.2] .m1 ?_
 refine Sx.G.p (.pointer (some ⟨b1, 8, none⟩)) ?_
 refine Sx.G.g (.int .i64 g.pd) .m1 .m8 ?_
 refine Sx.G.p (.pointer (some ⟨b1, 9, none⟩)) ?_
 refine Sx.G.lp 9 [.int .i64 g.x.1, .int .i64 g.x.2.1, .bool g.x.2.2.1, .int .i64 g.x.2.2.2] .m1 ?_
 refine Sx.G.p (.pointer (some ⟨b1, 13, none⟩)) ?_
 refine Sx.G.g (.bool g.hl) .m1 .m13 ?_
 refine Sx.G.p (.agg #[.int .i64 g.a, .int .i64 g.pc, .int .i64 g.t.1, .int .i64 g.t.2.1, .bool g.t.2.2, .int .i64 g.pd, .int .i64 g.x.1, .int .i64 g.x.2.1, .bool g.x.2.2.1, .int .i64 g.x.2.2.2, .bool g.hl]) ?_
 refine Sx.G.sw [.int .i64 g.a, .int .i64 g.pc, .int .i64 g.t.1, .int .i64 g.t.2.1, .bool g.t.2.2, .int .i64 g.pd, .int .i64 g.x.1, .int .i64 g.x.2.1, .bool g.x.2.2.1, .int .i64 g.x.2.2.2, .bool g.hl] .a0 ?_
 refine Sx.G.nil (Sx.E.next (Sx.C.ret ?_))
 refine Sx.E.retc b2 0 [.int .i64 g.a, .int .i64 g.pc, .int .i64 g.t.1, .int .i64 g.t.2.1, .bool g.t.2.2, .int .i64 g.pd, .int .i64 g.x.1, .int .i64 g.x.2.1, .bool g.x.2.2.1, .int .i64 g.x.2.2.2, .bool g.hl] rfl (by kernel_rfl) rfl (by kernel_rfl) (by kernel_rfl) (fun w S => ?_)
 exact ⟨rfl, S.below⟩
def regOk (g : gT) : Bool := inB g.a 0 99 && decide (g.pc ≥ 0) && decide (g.pc ≤ 12) && ctlOk g.t && pend g.pd && exitOk g.x
theorem guestOk_reg (g : gT) : guestOk g = (progOk g.prog && regOk g && okTab g.wr 4 8 && okTab g.lv 4 8 && decide ((g.seen.length : Int) ≤ 40)) := by
 unfold guestOk regOk
 rw [show inB g.pc 0 12 = (decide (g.pc ≥ 0) && decide (g.pc ≤ 12)) from rfl]
 generalize progOk g.prog = a1; generalize inB g.a 0 99 = a2; generalize decide (g.pc ≥ 0) = a3; generalize decide (g.pc ≤ 12) = a4; generalize ctlOk g.t = a5; generalize pend g.pd = a6; generalize exitOk g.x = a7; generalize okTab g.wr 4 8 = a8; generalize okTab g.lv 4 8 = a9; generalize decide ((g.seen.length : Int) ≤ 40) = a0
 revert a0 a1 a2 a3 a4 a5 a6 a7 a8 a9; decide
theorem impl_regOk (g : gT) (w : World) (hn : gnum g) : Calls Tryz.prog 223 #[.agg #[.int .i64 g.a, .int .i64 g.pc, .int .i64 g.t.1, .int .i64 g.t.2.1, .bool g.t.2.2, .int .i64 g.pd, .int .i64 g.x.1, .int .i64 g.x.2.1, .bool g.x.2.2.1, .int .i64 g.x.2.2.2, .bool g.hl]] w fun e w' => e = .returned (.bool (regOk g)) ∧ Below w.heap.size w w' := by
 have hpd := gnum_pd hn
 have wt := gnum_t hn
 have wx := gnum_x hn
 refine Sx.enter (args := [.agg #[.int .i64 g.a, .int .i64 g.pc, .int .i64 g.t.1, .int .i64 g.t.2.1, .bool g.t.2.2, .int .i64 g.pd, .int .i64 g.x.1, .int .i64 g.x.2.1, .bool g.x.2.2.1, .int .i64 g.x.2.2.2, .bool g.hl]]) Tryz.func223 rfl Tryz.ntmps223 rfl ?_
 refine Sx.C.seq (Sx.C.region ?_)
 refine Sx.G.b [.int .i64 g.a, .int .i64 g.pc, .int .i64 g.t.1, .int .i64 g.t.2.1, .bool g.t.2.2, .int .i64 g.pd, .int .i64 g.x.1, .int .i64 g.x.2.1, .bool g.x.2.2.1, .int .i64 g.x.2.2.2, .bool g.hl] (fun b1 => ?_)
 refine Sx.G.p (.bool false) ?_
 refine Sx.G.nil (Sx.E.next (Sx.C.seq (Sx.C.region ?_)))
 refine Sx.G.p (.pointer (some ⟨b1, 0, none⟩)) ?_
 refine Sx.G.g (.int .i64 g.a) .m0 .m0 ?_
 refine Sx.G.cp 209 #[.int .i64 g.a] (.bool (inB g.a 0 99)) (fun w S => by exact Exits.impl_cellOkE g.a _) ?_
 refine Sx.G.p (.bool (inB g.a 0 99)) ?_
 cases hc2 : (inB g.a 0 99)
 ·
  have hb2 := hc2
  refine Sx.G.k ?_
  refine Sx.G.k ?_
  refine Sx.G.k ?_
  refine Sx.G.p (.bool false) ?_
  refine Sx.G.p (.bool false) ?_
  refine Sx.G.k ?_
  refine Sx.G.k ?_
  refine Sx.G.k ?_
  refine Sx.G.p (.bool false) ?_
  refine Sx.G.p (.bool false) ?_
  refine Sx.G.k ?_
  refine Sx.G.k ?_
  refine Sx.G.k ?_
  refine Sx.G.p (.bool false) ?_
  refine Sx.G.p (.bool false) ?_
  refine Sx.G.k ?_
  refine Sx.G.k ?_
  refine Sx.G.k ?_
  refine Sx.G.p (.bool false) ?_
  refine Sx.G.p (.bool false) ?_
  refine Sx.G.k ?_
  refine Sx.G.k ?_
  refine Sx.G.k ?_
  refine Sx.G.p (.bool false) ?_
  refine Sx.G.p (.bool false) ?_
  refine Sx.G.nil (Sx.E.next (Sx.C.ret ?_))
  refine Sx.E.ret1 (.bool false) rfl (by kernel_rfl) (fun w S => ?_)
  exact ⟨congrArg Ending.returned (congrArg Value.bool (by simp only [regOk, hb2, Bool.and_true, Bool.and_false, Bool.false_and, Bool.true_and])), S.below⟩
 ·
  have hb2 := hc2
  refine Sx.G.p (.pointer (some ⟨b1, 1, none⟩)) ?_
  refine Sx.G.g (.int .i64 g.pc) .m0 .m1 ?_
  refine Sx.G.p (.bool (decide (g.pc ≥ 0))) ?_
  refine Sx.G.p (.bool (decide (g.pc ≥ 0))) ?_
  refine Sx.G.p (.bool (decide (g.pc ≥ 0))) ?_
  cases hc3 : (decide (g.pc ≥ 0))
  ·
   have hb3 := hc3
   replace hc3 := of_decide_eq_false hc3
   refine Sx.G.k ?_
   refine Sx.G.k ?_
   refine Sx.G.k ?_
   refine Sx.G.p (.bool false) ?_
   refine Sx.G.p (.bool false) ?_
   refine Sx.G.k ?_
   refine Sx.G.k ?_
   refine Sx.G.k ?_
   refine Sx.G.p (.bool false) ?_
   refine Sx.G.p (.bool false) ?_
   refine Sx.G.k ?_
   refine Sx.G.k ?_
   refine Sx.G.k ?_
   refine Sx.G.p (.bool false) ?_
   refine Sx.G.p (.bool false) ?_
   refine Sx.G.k ?_
   refine Sx.G.k ?_
   refine Sx.G.k ?_
   refine Sx.G.p (.bool false) ?_
   refine Sx.G.p (.bool false) ?_
   refine Sx.G.nil (Sx.E.next (Sx.C.ret ?_))
   refine Sx.E.ret1 (.bool false) rfl (by kernel_rfl) (fun w S => ?_)
   exact ⟨congrArg Ending.returned (congrArg Value.bool (by simp only [regOk, hb2, hb3, Bool.and_true, Bool.and_false, Bool.false_and, Bool.true_and])), S.below⟩
  ·
   have hb3 := hc3
   replace hc3 := of_decide_eq_true hc3
   refine Sx.G.p (.pointer (some ⟨b1, 1, none⟩)) ?_
   refine Sx.G.g (.int .i64 g.pc) .m0 .m1 ?_
   refine Sx.G.p (.bool (decide (g.pc ≤ 12))) ?_
   refine Sx.G.p (.bool (decide (g.pc ≤ 12))) ?_
   refine Sx.G.p (.bool (decide (g.pc ≤ 12))) ?_
   cases hc4 : (decide (g.pc ≤ 12))
   ·
    have hb4 := hc4
    replace hc4 := of_decide_eq_false hc4
    refine Sx.G.k ?_
    refine Sx.G.k ?_
    refine Sx.G.k ?_
    refine Sx.G.p (.bool false) ?_
    refine Sx.G.p (.bool false) ?_
    refine Sx.G.k ?_
    refine Sx.G.k ?_
    refine Sx.G.k ?_
    refine Sx.G.p (.bool false) ?_
    refine Sx.G.p (.bool false) ?_
    refine Sx.G.k ?_
    refine Sx.G.k ?_
    refine Sx.G.k ?_
    refine Sx.G.p (.bool false) ?_
    refine Sx.G.p (.bool false) ?_
    refine Sx.G.nil (Sx.E.next (Sx.C.ret ?_))
    refine Sx.E.ret1 (.bool false) rfl (by kernel_rfl) (fun w S => ?_)
    exact ⟨congrArg Ending.returned (congrArg Value.bool (by simp only [regOk, hb2, hb3, hb4, Bool.and_true, Bool.and_false, Bool.false_and, Bool.true_and])), S.below⟩
   ·
    have hb4 := hc4
    replace hc4 := of_decide_eq_true hc4
    refine Sx.G.p (.pointer (some ⟨b1, 2, none⟩)) ?_
    refine Sx.G.lp 2 [.int .i64 g.t.1, .int .i64 g.t.2.1, .bool g.t.2.2] .m0 ?_
    refine Sx.G.cp 230 #[.agg #[.int .i64 g.t.1, .int .i64 g.t.2.1, .bool g.t.2.2]] (.bool (ctlOk g.t)) (fun w S => by exact Ctls.impl_ctlOk g.t.1 g.t.2.1 g.t.2.2 _ wt) ?_
    refine Sx.G.p (.bool (ctlOk g.t)) ?_
    refine Sx.G.p (.bool (ctlOk g.t)) ?_
    cases hc5 : (ctlOk g.t)
    ·
     have hb5 := hc5
     refine Sx.G.k ?_
     refine Sx.G.k ?_
     refine Sx.G.k ?_
     refine Sx.G.p (.bool false) ?_
     refine Sx.G.p (.bool false) ?_
     refine Sx.G.k ?_
     refine Sx.G.k ?_
     refine Sx.G.k ?_
     refine Sx.G.p (.bool false) ?_
     refine Sx.G.p (.bool false) ?_
     refine Sx.G.nil (Sx.E.next (Sx.C.ret ?_))
     refine Sx.E.ret1 (.bool false) rfl (by kernel_rfl) (fun w S => ?_)
     exact ⟨congrArg Ending.returned (congrArg Value.bool (by simp only [regOk, hb2, hb3, hb4, hb5, Bool.and_true, Bool.and_false, Bool.false_and, Bool.true_and])), S.below⟩
    ·
     have hb5 := hc5
     refine Sx.G.p (.pointer (some ⟨b1, 5, none⟩)) ?_
     refine Sx.G.g (.int .i64 g.pd) .m0 .m5 ?_
     refine Sx.G.cp 152 #[.int .i64 g.pd] (.bool (pend g.pd)) (fun w S => by exact Irqs.impl_pend g.pd _ hpd) ?_
     refine Sx.G.p (.bool (pend g.pd)) ?_
     refine Sx.G.p (.bool (pend g.pd)) ?_
     cases hc6 : (pend g.pd)
     ·
      have hb6 := hc6
      refine Sx.G.k ?_
      refine Sx.G.k ?_
      refine Sx.G.k ?_
      refine Sx.G.p (.bool false) ?_
      refine Sx.G.p (.bool false) ?_
      refine Sx.G.nil (Sx.E.next (Sx.C.ret ?_))
      refine Sx.E.ret1 (.bool false) rfl (by kernel_rfl) (fun w S => ?_)
      exact ⟨congrArg Ending.returned (congrArg Value.bool (by simp only [regOk, hb2, hb3, hb4, hb5, hb6, Bool.and_true, Bool.and_false, Bool.false_and, Bool.true_and])), S.below⟩
     ·
      have hb6 := hc6
      refine Sx.G.p (.pointer (some ⟨b1, 6, none⟩)) ?_
      refine Sx.G.lp 6 [.int .i64 g.x.1, .int .i64 g.x.2.1, .bool g.x.2.2.1, .int .i64 g.x.2.2.2] .m0 ?_
      refine Sx.G.cp 231 #[.agg #[.int .i64 g.x.1, .int .i64 g.x.2.1, .bool g.x.2.2.1, .int .i64 g.x.2.2.2]] (.bool (exitOk g.x)) (fun w S => by exact Exits.impl_exitOk g.x.1 g.x.2.1 g.x.2.2.1 g.x.2.2.2 _ wx) ?_
      refine Sx.G.p (.bool (exitOk g.x)) ?_
      refine Sx.G.p (.bool (exitOk g.x)) ?_
      refine Sx.G.nil (Sx.E.next (Sx.C.ret ?_))
      refine Sx.E.ret1 (.bool (exitOk g.x)) rfl (by kernel_rfl) (fun w S => ?_)
      exact ⟨congrArg Ending.returned (congrArg Value.bool (by simp only [regOk, hb2, hb3, hb4, hb5, hb6, Bool.and_true, Bool.and_false, Bool.false_and, Bool.true_and])), S.below⟩
theorem impl_regCan (g : gT) (w : World)  : Calls Tryz.prog 133 #[.agg #[.int .i64 g.a, .int .i64 g.pc, .int .i64 g.t.1, .int .i64 g.t.2.1, .bool g.t.2.2, .int .i64 g.pd, .int .i64 g.x.1, .int .i64 g.x.2.1, .bool g.x.2.2.1, .int .i64 g.x.2.2.2, .bool g.hl]] w fun e w' => e = .returned (.bool (canRun g)) ∧ Below w.heap.size w w' := by
 refine Sx.enter (args := [.agg #[.int .i64 g.a, .int .i64 g.pc, .int .i64 g.t.1, .int .i64 g.t.2.1, .bool g.t.2.2, .int .i64 g.pd, .int .i64 g.x.1, .int .i64 g.x.2.1, .bool g.x.2.2.1, .int .i64 g.x.2.2.2, .bool g.hl]]) Tryz.func133 rfl Tryz.ntmps133 rfl ?_
 refine Sx.C.seq (Sx.C.region ?_)
 refine Sx.G.b [.int .i64 g.a, .int .i64 g.pc, .int .i64 g.t.1, .int .i64 g.t.2.1, .bool g.t.2.2, .int .i64 g.pd, .int .i64 g.x.1, .int .i64 g.x.2.1, .bool g.x.2.2.1, .int .i64 g.x.2.2.2, .bool g.hl] (fun b1 => ?_)
 refine Sx.G.p (.bool false) ?_
 refine Sx.G.nil (Sx.E.next (Sx.C.seq (Sx.C.region ?_)))
 refine Sx.G.p (.pointer (some ⟨b1, 6, none⟩)) ?_
 refine Sx.G.lp 6 [.int .i64 g.x.1, .int .i64 g.x.2.1, .bool g.x.2.2.1, .int .i64 g.x.2.2.2] .m0 ?_
 refine Sx.G.p (.agg #[.int .i64 0, .int .i64 0, .bool false, .int .i64 0]) ?_
 refine Sx.G.pure (.bool ((g.x.1 == 0 && g.x.2.1 == 0 && g.x.2.2.1 == false && g.x.2.2.2 == 0))) (by kernel_rfl) (fun w => Sx.run_eqs rfl rfl rfl (by kernel_rfl) (fun w => eqv_Exit_eql g.x.1 g.x.2.1 g.x.2.2.1 g.x.2.2.2 0 0 false 0 w) w) ?_
 refine Sx.G.p (.bool ((g.x.1 == 0 && g.x.2.1 == 0 && g.x.2.2.1 == false && g.x.2.2.2 == 0))) ?_
 cases hc2 : ((g.x.1 == 0 && g.x.2.1 == 0 && g.x.2.2.1 == false && g.x.2.2.2 == 0))
 ·
  have hb2 := hc2
  refine Sx.G.k ?_
  refine Sx.G.k ?_
  refine Sx.G.k ?_
  refine Sx.G.p (.bool false) ?_
  refine Sx.G.p (.bool false) ?_
  refine Sx.G.nil (Sx.E.next (Sx.C.ret ?_))
  refine Sx.E.ret1 (.bool false) rfl (by kernel_rfl) (fun w S => ?_)
  exact ⟨congrArg Ending.returned (congrArg Value.bool (by simp only [canRun, hb2, Bool.and_true, Bool.and_false, Bool.false_and, Bool.true_and])), S.below⟩
 ·
  have hb2 := hc2
  refine Sx.G.p (.pointer (some ⟨b1, 10, none⟩)) ?_
  refine Sx.G.g (.bool g.hl) .m0 .m10 ?_
  refine Sx.G.p (.bool (!g.hl)) ?_
  refine Sx.G.p (.bool (!g.hl)) ?_
  refine Sx.G.p (.bool (!g.hl)) ?_
  refine Sx.G.nil (Sx.E.next (Sx.C.ret ?_))
  refine Sx.E.ret1 (.bool (!g.hl)) rfl (by kernel_rfl) (fun w S => ?_)
  exact ⟨congrArg Ending.returned (congrArg Value.bool (by simp only [canRun, hb2, Bool.and_true, Bool.and_false, Bool.false_and, Bool.true_and])), S.below⟩
theorem impl_regTakes (g : gT) (w : World) (hpd : (Lit.int .i64 g.pd).wf = true) : Calls Tryz.prog 201 #[.agg #[.int .i64 g.a, .int .i64 g.pc, .int .i64 g.t.1, .int .i64 g.t.2.1, .bool g.t.2.2, .int .i64 g.pd, .int .i64 g.x.1, .int .i64 g.x.2.1, .bool g.x.2.2.1, .int .i64 g.x.2.2.2, .bool g.hl]] w fun e w' => e = .returned (.bool (takesI g)) ∧ Below w.heap.size w w' := by
 have htop : (topI g.pd != (-1)) = decide (topI g.pd ≥ 0) := by
  have := topI_range g.pd
  rcases Int.lt_or_le (topI g.pd) 0 with h | h
  ·
   rw [show topI g.pd = -1 by omega]; decide
  ·
   rw [decide_eq_true h]; exact bne_iff_ne.2 (by omega)
 refine Sx.enter (args := [.agg #[.int .i64 g.a, .int .i64 g.pc, .int .i64 g.t.1, .int .i64 g.t.2.1, .bool g.t.2.2, .int .i64 g.pd, .int .i64 g.x.1, .int .i64 g.x.2.1, .bool g.x.2.2.1, .int .i64 g.x.2.2.2, .bool g.hl]]) Tryz.func201 rfl Tryz.ntmps201 rfl ?_
 refine Sx.C.seq (Sx.C.region ?_)
 refine Sx.G.b [.int .i64 g.a, .int .i64 g.pc, .int .i64 g.t.1, .int .i64 g.t.2.1, .bool g.t.2.2, .int .i64 g.pd, .int .i64 g.x.1, .int .i64 g.x.2.1, .bool g.x.2.2.1, .int .i64 g.x.2.2.2, .bool g.hl] (fun b1 => ?_)
 refine Sx.G.p (.bool false) ?_
 refine Sx.G.nil (Sx.E.next (Sx.C.seq (Sx.C.region ?_)))
 refine Sx.G.lw .m0 ?_
 refine Sx.G.cp 133 #[.agg #[.int .i64 g.a, .int .i64 g.pc, .int .i64 g.t.1, .int .i64 g.t.2.1, .bool g.t.2.2, .int .i64 g.pd, .int .i64 g.x.1, .int .i64 g.x.2.1, .bool g.x.2.2.1, .int .i64 g.x.2.2.2, .bool g.hl]] (.bool (canRun g)) (fun w S => by exact impl_regCan g _) ?_
 refine Sx.G.p (.bool (canRun g)) ?_
 cases hc2 : (canRun g)
 ·
  have hb2 := hc2
  refine Sx.G.k ?_
  refine Sx.G.k ?_
  refine Sx.G.k ?_
  refine Sx.G.p (.bool false) ?_
  refine Sx.G.p (.bool false) ?_
  refine Sx.G.k ?_
  refine Sx.G.k ?_
  refine Sx.G.k ?_
  refine Sx.G.k ?_
  refine Sx.G.p (.bool false) ?_
  refine Sx.G.p (.bool false) ?_
  refine Sx.G.nil (Sx.E.next (Sx.C.ret ?_))
  refine Sx.E.ret1 (.bool false) rfl (by kernel_rfl) (fun w S => ?_)
  exact ⟨congrArg Ending.returned (congrArg Value.bool (by simp only [takesI, hb2, htop, Bool.and_true, Bool.and_false, Bool.false_and, Bool.true_and])), S.below⟩
 ·
  have hb2 := hc2
  refine Sx.G.p (.pointer (some ⟨b1, 2, none⟩)) ?_
  refine Sx.G.p (.pointer (some ⟨b1, 4, none⟩)) ?_
  refine Sx.G.g (.bool g.t.2.2) .m0 .m4 ?_
  refine Sx.G.p (.bool g.t.2.2) ?_
  refine Sx.G.p (.bool g.t.2.2) ?_
  cases hc3 : g.t.2.2
  ·
   have hb3 := hc3
   refine Sx.G.k ?_
   refine Sx.G.k ?_
   refine Sx.G.k ?_
   refine Sx.G.k ?_
   refine Sx.G.p (.bool false) ?_
   refine Sx.G.p (.bool false) ?_
   refine Sx.G.nil (Sx.E.next (Sx.C.ret ?_))
   refine Sx.E.ret1 (.bool false) rfl (by kernel_rfl) (fun w S => ?_)
   exact ⟨congrArg Ending.returned (congrArg Value.bool (by simp only [takesI, hb2, hb3, htop, Bool.and_true, Bool.and_false, Bool.false_and, Bool.true_and])), S.below⟩
  ·
   have hb3 := hc3
   refine Sx.G.p (.pointer (some ⟨b1, 5, none⟩)) ?_
   refine Sx.G.g (.int .i64 g.pd) .m0 .m5 ?_
   refine Sx.G.cp 225 #[.int .i64 g.pd] (.int .i64 (topI g.pd)) (fun w S => by exact Irqs.impl_top g.pd _ hpd) ?_
   refine Sx.G.p (.bool ((topI g.pd) != (-1))) ?_
   refine Sx.G.p (.bool ((topI g.pd) != (-1))) ?_
   refine Sx.G.p (.bool ((topI g.pd) != (-1))) ?_
   refine Sx.G.nil (Sx.E.next (Sx.C.ret ?_))
   refine Sx.E.ret1 (.bool ((topI g.pd) != (-1))) rfl (by kernel_rfl) (fun w S => ?_)
   exact ⟨congrArg Ending.returned (congrArg Value.bool (by simp only [takesI, hb2, hb3, htop, Bool.and_true, Bool.and_false, Bool.false_and, Bool.true_and])), S.below⟩
theorem impl_takeM {w0 w : World} {b : Nat} {R : List Res} {P0 P1 P2 P3 : Value} (g : gT) (hpd : (Lit.int .i64 g.pd).wf = true) (S : St w0 w (vr b [.int .i64 g.a, .int .i64 g.pc, .int .i64 g.t.1, .int .i64 g.t.2.1, .bool g.t.2.2, .int .i64 g.pd, .int .i64 g.x.1, .int .i64 g.x.2.1, .bool g.x.2.2.1, .int .i64 g.x.2.2.2, .bool g.hl, P0, P1, P2, P3] :: R)) : Calls Tryz.prog 205 #[.pointer (some ⟨b, 0, none⟩)] w fun e w' => e = .returned (.int .i64 (takeI g.pd).2.1) ∧ St w0 w' (vr b [.int .i64 ({ g with pd := (takeI g.pd).1 }).a, .int .i64 ({ g with pd := (takeI g.pd).1 }).pc, .int .i64 ({ g with pd := (takeI g.pd).1 }).t.1, .int .i64 ({ g with pd := (takeI g.pd).1 }).t.2.1, .bool ({ g with pd := (takeI g.pd).1 }).t.2.2, .int .i64 ({ g with pd := (takeI g.pd).1 }).pd, .int .i64 ({ g with pd := (takeI g.pd).1 }).x.1, .int .i64 ({ g with pd := (takeI g.pd).1 }).x.2.1, .bool ({ g with pd := (takeI g.pd).1 }).x.2.2.1, .int .i64 ({ g with pd := (takeI g.pd).1 }).x.2.2.2, .bool ({ g with pd := (takeI g.pd).1 }).hl, P0, P1, P2, P3] :: R) := by
 refine Sx.enterS (args := [.pointer (some ⟨b, 0, none⟩)]) S Tryz.func205 rfl Tryz.ntmps205 rfl ?_
 refine Sx.C.seq (Sx.C.region ?_)
 refine Sx.G.p (.int .i64 0) ?_
 refine Sx.G.nil (Sx.E.next (Sx.C.seq (Sx.C.region ?_)))
 refine Sx.G.p (.pointer (some ⟨b, 0, none⟩)) ?_
 refine Sx.G.p (.pointer (some ⟨b, 0, none⟩)) ?_
 refine Sx.G.p (.pointer (some ⟨b, 5, none⟩)) ?_
 refine Sx.G.g (.int .i64 g.pd) .m0 .m5 ?_
 refine Sx.G.cp 226 #[.int .i64 g.pd] (.tuple #[.int .i64 (takeI g.pd).1, .int .i64 (takeI g.pd).2.1, .bool (takeI g.pd).2.2]) (fun w S => by exact Irqs.impl_take g.pd _ hpd) ?_
 refine Sx.G.p (.tuple #[.int .i64 (takeI g.pd).1, .int .i64 (takeI g.pd).2.1, .bool (takeI g.pd).2.2]) ?_
 refine Sx.G.p (.int .i64 (takeI g.pd).1) ?_
 refine Sx.G.p (.int .i64 (takeI g.pd).2.1) ?_
 refine Sx.G.p (.bool ((takeI g.pd).2.2)) ?_
 refine Sx.G.p (.int .i64 (takeI g.pd).1) ?_
 refine Sx.G.p (.int .i64 (takeI g.pd).2.1) ?_
 refine Sx.G.p (.bool ((takeI g.pd).2.2)) ?_
 refine Sx.G.nil (Sx.E.next (Sx.C.seq (Sx.C.region ?_)))
 refine Sx.G.p (.pointer (some ⟨b, 0, none⟩)) ?_
 refine Sx.G.p (.int .i64 (takeI g.pd).1) ?_
 refine Sx.G.p (.pointer (some ⟨b, 0, none⟩)) ?_
 refine Sx.G.p (.pointer (some ⟨b, 5, none⟩)) ?_
 refine Sx.G.s (.int .i64 (takeI g.pd).1) .a0 .a5 ?_
 refine Sx.G.nil (Sx.E.next (Sx.C.seq (Sx.C.region ?_)))
 refine Sx.G.p (.int .i64 (takeI g.pd).2.1) ?_
 refine Sx.G.p (.int .i64 (takeI g.pd).2.1) ?_
 refine Sx.G.nil (Sx.E.next (Sx.C.ret ?_))
 refine Sx.E.ret1 (.int .i64 (takeI g.pd).2.1) rfl (by kernel_rfl) (fun w S => ?_)
 exact ⟨rfl, S⟩
theorem impl_copyM (g : gT) (cs : List Value) (w : World) (hc : rG.cap g) (h : rG.rd w 0 w.heap.size g cs) : Calls Tryz.prog 156 #[.agg cs.toArray] w (fun e w' => ∃ (b : Nat) (A0 : Option Addr) (c0 l0 h0 : Nat) (F0 : List Nat) (A1 : Option Addr) (c1 l1 h1 : Nat) (F1 : List Nat) (A2 : Option Addr) (c2 l2 h2 : Nat) (F2 : List Nat) (A3 : Option Addr) (c3 l3 h3 : Nat) (F3 : List Nat), e = .returned (.pointer (some ⟨b, 0, none⟩)) ∧ St w w' [vr b [.int .i64 g.a, .int .i64 g.pc, .int .i64 g.t.1, .int .i64 g.t.2.1, .bool g.t.2.2, .int .i64 g.pd, .int .i64 g.x.1, .int .i64 g.x.2.1, .bool g.x.2.2.1, .int .i64 g.x.2.2.2, .bool g.hl, .slice A0 g.prog.length c0, .slice A1 g.wr.length c1, .slice A2 g.lv.length c2, .slice A3 g.seen.length c3], ow (rLst 48 (rPair rInt rInt)) l0 h0 g.prog [.slice A0 g.prog.length c0] F0, ow (rLst 58 (rPair rInt rInt)) l1 h1 g.wr [.slice A1 g.wr.length c1] F1, ow (rLst 58 (rPair rInt rInt)) l2 h2 g.lv [.slice A2 g.lv.length c2] F2, ow (rLst 3 rInt) l3 h3 g.seen [.slice A3 g.seen.length c3] F3]) := by
 obtain ⟨q0, q1, q2, q3⟩ := rG_len hc
 have hr := h
 obtain ⟨P0, P1, P2, P3, rfl, h0, h1, h2, h3⟩ := rG_rd h
 obtain ⟨PA0, Pc0, e0, hP0⟩ := lst_val h0
 subst e0
 obtain ⟨PA1, Pc1, e1, hP1⟩ := lst_val h1
 subst e1
 obtain ⟨PA2, Pc2, e2, hP2⟩ := lst_val h2
 subst e2
 obtain ⟨PA3, Pc3, e3, hP3⟩ := lst_val h3
 subst e3
 refine Sx.enter (args := [.agg #[.slice PA0 g.prog.length Pc0, .int .i64 g.a, .int .i64 g.pc, .slice PA1 g.wr.length Pc1, .slice PA2 g.lv.length Pc2, .int .i64 g.t.1, .int .i64 g.t.2.1, .bool g.t.2.2, .int .i64 g.pd, .int .i64 g.x.1, .int .i64 g.x.2.1, .bool g.x.2.2.1, .int .i64 g.x.2.2.2, .bool g.hl, .slice PA3 g.seen.length Pc3]]) Tryz.func156 rfl Tryz.ntmps156 rfl ?_
 refine Sx.C.seq (Sx.C.region ?_)
 refine Sx.G.b [.slice PA0 g.prog.length Pc0, .int .i64 g.a, .int .i64 g.pc, .slice PA1 g.wr.length Pc1, .slice PA2 g.lv.length Pc2, .int .i64 g.t.1, .int .i64 g.t.2.1, .bool g.t.2.2, .int .i64 g.pd, .int .i64 g.x.1, .int .i64 g.x.2.1, .bool g.x.2.2.1, .int .i64 g.x.2.2.2, .bool g.hl, .slice PA3 g.seen.length Pc3] (fun b1 => ?_)
 refine Sx.G.p (.pointer none) ?_
 refine Sx.G.nil (Sx.E.next (Sx.C.seq ?_))
 refine Sx.C.draw (.take 0 (.take 2 (.take 3 (.take 5 (.take 6 (.take 8 (.take 9 (.take 11 (.take 12 (.alone 1 (.alone 4 (.alone 7 (.alone 10 (.alone 13 (.take 14 (.alone 15 (.take 16 .nil))))))))))))))))) [vr b1 [.slice PA0 g.prog.length Pc0, .int .i64 g.a, .int .i64 g.pc, .slice PA1 g.wr.length Pc1, .slice PA2 g.lv.length Pc2, .int .i64 g.t.1, .int .i64 g.t.2.1, .bool g.t.2.2, .int .i64 g.pd, .int .i64 g.x.1, .int .i64 g.x.2.1, .bool g.x.2.2.1, .int .i64 g.x.2.2.2, .bool g.hl, .slice PA3 g.seen.length Pc3]] (fun w S => St.pick S [0] _ rfl (by decide)) (by kernel_rfl) (by kernel_rfl) (by kernel_rfl) ?_
 refine Sx.GT.lw .m0 ?_
 refine Sx.GT.p (.pointer (some ⟨b1, 0, none⟩)) ?_
 refine Sx.GT.g (.slice PA0 g.prog.length Pc0) .m0 .m0 ?_
 refine Sx.GT.p (.pointer (some ⟨b1, 3, none⟩)) ?_
 refine Sx.GT.g (.slice PA1 g.wr.length Pc1) .m0 .m3 ?_
 refine Sx.GT.p (.pointer (some ⟨b1, 4, none⟩)) ?_
 refine Sx.GT.g (.slice PA2 g.lv.length Pc2) .m0 .m4 ?_
 refine Sx.GT.p (.pointer (some ⟨b1, 14, none⟩)) ?_
 refine Sx.GT.g (.slice PA3 g.seen.length Pc3) .m0 .m14 ?_
 refine Sx.GT.alone (Sx.Alone.cp 132 #[.agg #[.slice PA0 g.prog.length Pc0, .int .i64 g.a, .int .i64 g.pc, .slice PA1 g.wr.length Pc1, .slice PA2 g.lv.length Pc2, .int .i64 g.t.1, .int .i64 g.t.2.1, .bool g.t.2.2, .int .i64 g.pd, .int .i64 g.x.1, .int .i64 g.x.2.1, .bool g.x.2.2.1, .int .i64 g.x.2.2.2, .bool g.hl, .slice PA3 g.seen.length Pc3]] (.agg #[.int .i64 g.a, .int .i64 g.pc, .int .i64 g.t.1, .int .i64 g.t.2.1, .bool g.t.2.2, .int .i64 g.pd, .int .i64 g.x.1, .int .i64 g.x.2.1, .bool g.x.2.2.1, .int .i64 g.x.2.2.2, .bool g.hl]) (fun w S => by exact impl_regs g _ _ (St.old S hr)) (fun w S => St.pick S [0] _ rfl (by decide)) ?_)
 refine Sx.GT.alone (Sx.Alone.c 202 #[.slice PA0 g.prog.length Pc0] (fun w2 S => (lib_cloneIns g.prog PA0 Pc0 _ q0 (St.old S h0)).mono fun e w2' hp => ?_))
 obtain ⟨cs, F, rfl, ho, hF, hb⟩ := hp
 obtain ⟨u2, rfl⟩ := lst_own ho
 obtain ⟨A2, c2, e2, -⟩ := lst_val ((St.got S hb ho hF).reads 0 rfl)
 subst e2
 generalize F = F2 at ho hF
 refine ⟨_, _, rfl, (St.got S hb ho hF), (fun w S => St.pick S [1] _ rfl (by decide)), ?_⟩
 clear S hb ho hF
 refine Sx.GT.alone (Sx.Alone.c 203 #[.slice PA1 g.wr.length Pc1] (fun w3 S => (lib_cloneSlot g.wr PA1 Pc1 _ q1 (St.old S h1)).mono fun e w3' hp => ?_))
 obtain ⟨cs, F, rfl, ho, hF, hb⟩ := hp
 obtain ⟨u3, rfl⟩ := lst_own ho
 obtain ⟨A3, c3, e3, -⟩ := lst_val ((St.got S hb ho hF).reads 0 rfl)
 subst e3
 generalize F = F3 at ho hF
 refine ⟨_, _, rfl, (St.got S hb ho hF), (fun w S => St.pick S [2] _ rfl (by decide)), ?_⟩
 clear S hb ho hF
 refine Sx.GT.alone (Sx.Alone.c 203 #[.slice PA2 g.lv.length Pc2] (fun w4 S => (lib_cloneSlot g.lv PA2 Pc2 _ q2 (St.old S h2)).mono fun e w4' hp => ?_))
 obtain ⟨cs, F, rfl, ho, hF, hb⟩ := hp
 obtain ⟨u4, rfl⟩ := lst_own ho
 obtain ⟨A4, c4, e4, -⟩ := lst_val ((St.got S hb ho hF).reads 0 rfl)
 subst e4
 generalize F = F4 at ho hF
 refine ⟨_, _, rfl, (St.got S hb ho hF), (fun w S => St.pick S [3] _ rfl (by decide)), ?_⟩
 clear S hb ho hF
 refine Sx.GT.alone (Sx.Alone.c 102 #[.slice PA3 g.seen.length Pc3] (fun w5 S => (lib_cloneInt g.seen PA3 Pc3 _ q3 (St.old S h3)).mono fun e w5' hp => ?_))
 obtain ⟨cs, F, rfl, ho, hF, hb⟩ := hp
 obtain ⟨u5, rfl⟩ := lst_own ho
 obtain ⟨A5, c5, e5, -⟩ := lst_val ((St.got S hb ho hF).reads 0 rfl)
 subst e5
 generalize F = F5 at ho hF
 refine ⟨_, _, rfl, (St.got S hb ho hF), (fun w S => St.pick S [4] _ rfl (by decide)), ?_⟩
 clear S hb ho hF
 refine Sx.GT.p (.agg #[.int .i64 g.a, .int .i64 g.pc, .int .i64 g.t.1, .int .i64 g.t.2.1, .bool g.t.2.2, .int .i64 g.pd, .int .i64 g.x.1, .int .i64 g.x.2.1, .bool g.x.2.2.1, .int .i64 g.x.2.2.2, .bool g.hl, .slice A2 g.prog.length c2, .slice A3 g.wr.length c3, .slice A4 g.lv.length c4, .slice A5 g.seen.length c5]) ?_
 refine Sx.GT.alone (Sx.Alone.b [.int .i64 g.a, .int .i64 g.pc, .int .i64 g.t.1, .int .i64 g.t.2.1, .bool g.t.2.2, .int .i64 g.pd, .int .i64 g.x.1, .int .i64 g.x.2.1, .bool g.x.2.2.1, .int .i64 g.x.2.2.2, .bool g.hl, .slice A2 g.prog.length c2, .slice A3 g.wr.length c3, .slice A4 g.lv.length c4, .slice A5 g.seen.length c5] (fun w S => St.pick S [4] _ rfl (by decide)) (fun b6 => ?_))
 refine Sx.GT.p (.pointer (some ⟨b6, 0, none⟩)) ?_
 refine Sx.GT.nil (Sx.E.next (Sx.C.ret ?_))
 refine Sx.E.ret1 (.pointer (some ⟨b6, 0, none⟩)) rfl (by kernel_rfl) (fun w S => ?_)
 exact ⟨_, _, _, _, _, _, _, _, _, _, _, _, _, _, _, _, _, _, _, _, _, rfl, St.pick S [0, 4, 3, 2, 1] _ rfl (by decide)⟩
theorem impl_guestM {w0 w : World} {b : Nat} {R : List Res} {A0 A1 A2 A3 : Option Addr} {c0 c1 c2 c3 : Nat} (g : gT) (S : St w0 w (vr b [.int .i64 g.a, .int .i64 g.pc, .int .i64 g.t.1, .int .i64 g.t.2.1, .bool g.t.2.2, .int .i64 g.pd, .int .i64 g.x.1, .int .i64 g.x.2.1, .bool g.x.2.2.1, .int .i64 g.x.2.2.2, .bool g.hl, .slice A0 g.prog.length c0, .slice A1 g.wr.length c1, .slice A2 g.lv.length c2, .slice A3 g.seen.length c3] :: R)) : Calls Tryz.prog 158 #[.pointer (some ⟨b, 0, none⟩)] w fun e w' => e = .returned (.agg #[.slice A0 g.prog.length c0, .int .i64 g.a, .int .i64 g.pc, .slice A1 g.wr.length c1, .slice A2 g.lv.length c2, .int .i64 g.t.1, .int .i64 g.t.2.1, .bool g.t.2.2, .int .i64 g.pd, .int .i64 g.x.1, .int .i64 g.x.2.1, .bool g.x.2.2.1, .int .i64 g.x.2.2.2, .bool g.hl, .slice A3 g.seen.length c3]) ∧ St w0 w' (vr b [.int .i64 g.a, .int .i64 g.pc, .int .i64 g.t.1, .int .i64 g.t.2.1, .bool g.t.2.2, .int .i64 g.pd, .int .i64 g.x.1, .int .i64 g.x.2.1, .bool g.x.2.2.1, .int .i64 g.x.2.2.2, .bool g.hl, .slice A0 g.prog.length c0, .slice A1 g.wr.length c1, .slice A2 g.lv.length c2, .slice A3 g.seen.length c3] :: R) := by
 refine Sx.enterS (args := [.pointer (some ⟨b, 0, none⟩)]) S Tryz.func158 rfl Tryz.ntmps158 rfl ?_
 refine Sx.C.seq (Sx.C.region ?_)
 refine Sx.G.ar [.slice none 0 0, .int .i64 0, .int .i64 0, .slice none 0 0, .slice none 0 0, .int .i64 0, .int .i64 0, .bool false, .int .i64 0, .int .i64 0, .int .i64 0, .bool false, .int .i64 0, .bool false, .slice none 0 0] (fun b1 => ?_)
 refine Sx.G.nil (Sx.E.next (Sx.C.seq ?_))
 refine Sx.C.draw (.take 0 (.take 1 (.take 2 (.take 3 (.take 4 (.take 5 (.take 6 (.take 7 (.take 8 (.take 9 (.take 10 (.take 11 (.take 12 (.take 13 (.take 14 (.take 15 (.take 16 (.take 17 (.take 18 (.take 19 (.take 20 (.take 21 (.take 22 (.take 23 (.take 24 (.take 25 (.take 26 (.take 27 (.take 28 (.take 29 (.take 30 (.take 31 (.take 32 (.take 33 (.take 34 (.take 35 (.take 36 (.take 37 (.take 38 (.take 39 (.take 40 (.take 41 (.take 42 (.take 43 (.take 44 (.take 45 (.take 46 (.alone 47 .nil)))))))))))))))))))))))))))))))))))))))))))))))) [vr b [.int .i64 g.a, .int .i64 g.pc, .int .i64 g.t.1, .int .i64 g.t.2.1, .bool g.t.2.2, .int .i64 g.pd, .int .i64 g.x.1, .int .i64 g.x.2.1, .bool g.x.2.2.1, .int .i64 g.x.2.2.2, .bool g.hl, .slice A0 g.prog.length c0, .slice A1 g.wr.length c1, .slice A2 g.lv.length c2, .slice A3 g.seen.length c3]] (fun w S => St.pick S [1] _ rfl (by decide)) (by kernel_rfl) (by kernel_rfl) (by kernel_rfl) ?_
 refine Sx.GT.p (.pointer (some ⟨b, 0, none⟩)) ?_
 refine Sx.GT.p (.pointer (some ⟨b, 0, none⟩)) ?_
 refine Sx.GT.p (.pointer (some ⟨b, 11, none⟩)) ?_
 refine Sx.GT.g (.slice A0 g.prog.length c0) .m0 .m11 ?_
 refine Sx.GT.p (.pointer (some ⟨b, 0, none⟩)) ?_
 refine Sx.GT.p (.pointer (some ⟨b, 0, none⟩)) ?_
 refine Sx.GT.p (.pointer (some ⟨b, 0, none⟩)) ?_
 refine Sx.GT.p (.pointer (some ⟨b, 0, none⟩)) ?_
 refine Sx.GT.g (.int .i64 g.a) .m0 .m0 ?_
 refine Sx.GT.p (.pointer (some ⟨b, 0, none⟩)) ?_
 refine Sx.GT.p (.pointer (some ⟨b, 0, none⟩)) ?_
 refine Sx.GT.p (.pointer (some ⟨b, 0, none⟩)) ?_
 refine Sx.GT.p (.pointer (some ⟨b, 1, none⟩)) ?_
 refine Sx.GT.g (.int .i64 g.pc) .m0 .m1 ?_
 refine Sx.GT.p (.pointer (some ⟨b, 0, none⟩)) ?_
 refine Sx.GT.p (.pointer (some ⟨b, 0, none⟩)) ?_
 refine Sx.GT.p (.pointer (some ⟨b, 12, none⟩)) ?_
 refine Sx.GT.g (.slice A1 g.wr.length c1) .m0 .m12 ?_
 refine Sx.GT.p (.pointer (some ⟨b, 0, none⟩)) ?_
 refine Sx.GT.p (.pointer (some ⟨b, 0, none⟩)) ?_
 refine Sx.GT.p (.pointer (some ⟨b, 13, none⟩)) ?_
 refine Sx.GT.g (.slice A2 g.lv.length c2) .m0 .m13 ?_
 refine Sx.GT.p (.pointer (some ⟨b, 0, none⟩)) ?_
 refine Sx.GT.p (.pointer (some ⟨b, 0, none⟩)) ?_
 refine Sx.GT.p (.pointer (some ⟨b, 0, none⟩)) ?_
 refine Sx.GT.p (.pointer (some ⟨b, 2, none⟩)) ?_
 refine Sx.GT.lp 2 [.int .i64 g.t.1, .int .i64 g.t.2.1, .bool g.t.2.2] .m0 ?_
 refine Sx.GT.p (.pointer (some ⟨b, 0, none⟩)) ?_
 refine Sx.GT.p (.pointer (some ⟨b, 0, none⟩)) ?_
 refine Sx.GT.p (.pointer (some ⟨b, 0, none⟩)) ?_
 refine Sx.GT.p (.pointer (some ⟨b, 5, none⟩)) ?_
 refine Sx.GT.g (.int .i64 g.pd) .m0 .m5 ?_
 refine Sx.GT.p (.pointer (some ⟨b, 0, none⟩)) ?_
 refine Sx.GT.p (.pointer (some ⟨b, 0, none⟩)) ?_
 refine Sx.GT.p (.pointer (some ⟨b, 0, none⟩)) ?_
 refine Sx.GT.p (.pointer (some ⟨b, 6, none⟩)) ?_
 refine Sx.GT.lp 6 [.int .i64 g.x.1, .int .i64 g.x.2.1, .bool g.x.2.2.1, .int .i64 g.x.2.2.2] .m0 ?_
 refine Sx.GT.p (.pointer (some ⟨b, 0, none⟩)) ?_
 refine Sx.GT.p (.pointer (some ⟨b, 0, none⟩)) ?_
 refine Sx.GT.p (.pointer (some ⟨b, 0, none⟩)) ?_
 refine Sx.GT.p (.pointer (some ⟨b, 10, none⟩)) ?_
 refine Sx.GT.g (.bool g.hl) .m0 .m10 ?_
 refine Sx.GT.p (.pointer (some ⟨b, 0, none⟩)) ?_
 refine Sx.GT.p (.pointer (some ⟨b, 0, none⟩)) ?_
 refine Sx.GT.p (.pointer (some ⟨b, 14, none⟩)) ?_
 refine Sx.GT.g (.slice A3 g.seen.length c3) .m0 .m14 ?_
 refine Sx.GT.p (.agg #[.slice A0 g.prog.length c0, .int .i64 g.a, .int .i64 g.pc, .slice A1 g.wr.length c1, .slice A2 g.lv.length c2, .int .i64 g.t.1, .int .i64 g.t.2.1, .bool g.t.2.2, .int .i64 g.pd, .int .i64 g.x.1, .int .i64 g.x.2.1, .bool g.x.2.2.1, .int .i64 g.x.2.2.2, .bool g.hl, .slice A3 g.seen.length c3]) ?_
 refine Sx.GT.alone (Sx.Alone.sw [.slice A0 g.prog.length c0, .int .i64 g.a, .int .i64 g.pc, .slice A1 g.wr.length c1, .slice A2 g.lv.length c2, .int .i64 g.t.1, .int .i64 g.t.2.1, .bool g.t.2.2, .int .i64 g.pd, .int .i64 g.x.1, .int .i64 g.x.2.1, .bool g.x.2.2.1, .int .i64 g.x.2.2.2, .bool g.hl, .slice A3 g.seen.length c3] .a0 (fun w S => St.pick S [1] _ rfl (by decide)) ?_)
 refine Sx.GT.nil (Sx.E.next (Sx.C.ret ?_))
 refine Sx.E.retc b1 0 [.slice A0 g.prog.length c0, .int .i64 g.a, .int .i64 g.pc, .slice A1 g.wr.length c1, .slice A2 g.lv.length c2, .int .i64 g.t.1, .int .i64 g.t.2.1, .bool g.t.2.2, .int .i64 g.pd, .int .i64 g.x.1, .int .i64 g.x.2.1, .bool g.x.2.2.1, .int .i64 g.x.2.2.2, .bool g.hl, .slice A3 g.seen.length c3] rfl (by kernel_rfl) rfl (by kernel_rfl) (by kernel_rfl) (fun w S => ?_)
 replace S := Sx.St.tail S
 exact ⟨rfl, S⟩
theorem impl_sawM {w0 w : World} {b : Nat} {R : List Res} {A0 : Option Addr} {c0 l0 h0 : Nat} {F0 : List Nat} {A1 : Option Addr} {c1 l1 h1 : Nat} {F1 : List Nat} {A2 : Option Addr} {c2 l2 h2 : Nat} {F2 : List Nat} {A3 : Option Addr} {c3 l3 h3 : Nat} {F3 : List Nat} (g : gT) (n : Int) (hs : g.seen.length ≤ 1048576) (S : St w0 w (vr b [.int .i64 g.a, .int .i64 g.pc, .int .i64 g.t.1, .int .i64 g.t.2.1, .bool g.t.2.2, .int .i64 g.pd, .int .i64 g.x.1, .int .i64 g.x.2.1, .bool g.x.2.2.1, .int .i64 g.x.2.2.2, .bool g.hl, .slice A0 g.prog.length c0, .slice A1 g.wr.length c1, .slice A2 g.lv.length c2, .slice A3 g.seen.length c3] :: ow (rLst 48 (rPair rInt rInt)) l0 h0 g.prog [.slice A0 g.prog.length c0] F0 :: ow (rLst 58 (rPair rInt rInt)) l1 h1 g.wr [.slice A1 g.wr.length c1] F1 :: ow (rLst 58 (rPair rInt rInt)) l2 h2 g.lv [.slice A2 g.lv.length c2] F2 :: ow (rLst 3 rInt) l3 h3 g.seen [.slice A3 g.seen.length c3] F3 :: R)) : Calls Tryz.prog 204 #[.pointer (some ⟨b, 0, none⟩), .int .i64 n] w (fun e w' => e = .returned (.tuple #[]) ∧ ∃ (A0 : Option Addr) (c0 l0 h0 : Nat) (F0 : List Nat) (A1 : Option Addr) (c1 l1 h1 : Nat) (F1 : List Nat) (A2 : Option Addr) (c2 l2 h2 : Nat) (F2 : List Nat) (A3 : Option Addr) (c3 l3 h3 : Nat) (F3 : List Nat), St w0 w' (vr b [.int .i64 (sawG g n).a, .int .i64 (sawG g n).pc, .int .i64 (sawG g n).t.1, .int .i64 (sawG g n).t.2.1, .bool (sawG g n).t.2.2, .int .i64 (sawG g n).pd, .int .i64 (sawG g n).x.1, .int .i64 (sawG g n).x.2.1, .bool (sawG g n).x.2.2.1, .int .i64 (sawG g n).x.2.2.2, .bool (sawG g n).hl, .slice A0 (sawG g n).prog.length c0, .slice A1 (sawG g n).wr.length c1, .slice A2 (sawG g n).lv.length c2, .slice A3 (sawG g n).seen.length c3] :: ow (rLst 48 (rPair rInt rInt)) l0 h0 (sawG g n).prog [.slice A0 (sawG g n).prog.length c0] F0 :: ow (rLst 58 (rPair rInt rInt)) l1 h1 (sawG g n).wr [.slice A1 (sawG g n).wr.length c1] F1 :: ow (rLst 58 (rPair rInt rInt)) l2 h2 (sawG g n).lv [.slice A2 (sawG g n).lv.length c2] F2 :: ow (rLst 3 rInt) l3 h3 (sawG g n).seen [.slice A3 (sawG g n).seen.length c3] F3 :: R)) := by
 refine Sx.enterS (args := [.pointer (some ⟨b, 0, none⟩), .int .i64 n]) S Tryz.func204 rfl Tryz.ntmps204 rfl ?_
 refine Sx.C.seq (Sx.C.region ?_)
 refine Sx.G.p (.pointer (some ⟨b, 0, none⟩)) ?_
 refine Sx.G.p (.pointer (some ⟨b, 0, none⟩)) ?_
 refine Sx.G.p (.pointer (some ⟨b, 14, none⟩)) ?_
 refine Sx.G.g (.slice A3 g.seen.length c3) .m0 .m14 ?_
 refine Sx.G.p (.int .i64 ((g.seen.length : Nat) : Int)) ?_
 refine Sx.G.p (.bool (decide (((g.seen.length : Nat) : Int) < 40))) ?_
 refine Sx.G.nil (Sx.E.next ?_)
 cases hc21 : (decide (((g.seen.length : Nat) : Int) < 40))
 ·
  have hb21 := hc21
  replace hc21 := of_decide_eq_false hc21
  refine Sx.C.nn ?_
  refine Sx.C.skip (Sx.E.end_ ?_)
  refine Sx.E.ret0 rfl (fun w S => ?_)
  rw [show sawG g n = g from if_neg (by omega)]
  exact ⟨rfl, _, _, _, _, _, _, _, _, _, _, _, _, _, _, _, _, _, _, _, _, S⟩
 ·
  have hb21 := hc21
  replace hc21 := of_decide_eq_true hc21
  refine Sx.C.yy (Sx.C.region ?_)
  refine Sx.G.p (.pointer (some ⟨b, 0, none⟩)) ?_
  refine Sx.G.p (.pointer (some ⟨b, 0, none⟩)) ?_
  refine Sx.G.p (.pointer (some ⟨b, 0, none⟩)) ?_
  refine Sx.G.p (.pointer (some ⟨b, 14, none⟩)) ?_
  refine Sx.G.g (.slice A3 g.seen.length c3) .m0 .m14 ?_
  refine Sx.G.p (.int .i64 n) ?_
  refine Sx.G.made 3 [.int .i64 n] 1 (by kernel_rfl) (fun w => by kernel_rfl) (fun b22 => ?_)
  refine Sx.G.apps 5 rfl (g.seen ++ [n]) (fun w S => S.box 0 rfl rfl 1 (Nat.le_refl _)) rfl ((g.seen ++ [n]).length) (by simp) flat_int (.tmp 14) (.tmp 16) 26 1 8 rfl rfl (by kernel_rfl) (by kernel_rfl) rfl (by kernel_rfl) (by kernel_rfl) (by simp only [maxLen, List.length_nil, List.length_cons]; omega) (by simp only [List.length_nil, List.length_cons]; omega) (fun A23 c23 F23 hi23 hm23 => ?_)
  refine Sx.G.p (.pointer (some ⟨b, 0, none⟩)) ?_
  refine Sx.G.p (.pointer (some ⟨b, 14, none⟩)) ?_
  refine Sx.G.s (.slice A23 ((g.seen ++ [n]).length) c23) .a1 .a14 ?_
  refine Sx.G.nil (Sx.E.end_ ?_)
  refine Sx.E.ret0 rfl (fun w S => ?_)
  replace S := Sx.St.tail S
  rw [show sawG g n = { g with seen := g.seen ++ [n] } from if_pos (by omega)]
  exact ⟨rfl, _, _, _, _, _, _, _, _, _, _, _, _, _, _, _, _, _, _, _, _, S⟩
theorem impl_intM {w0 w : World} {b : Nat} {R : List Res} {A0 : Option Addr} {c0 l0 h0 : Nat} {F0 : List Nat} {A1 : Option Addr} {c1 l1 h1 : Nat} {F1 : List Nat} {A2 : Option Addr} {c2 l2 h2 : Nat} {F2 : List Nat} {A3 : Option Addr} {c3 l3 h3 : Nat} {F3 : List Nat} (g : gT) (hn : gnum g) (hs : g.seen.length ≤ 1048576) (S : St w0 w (vr b [.int .i64 g.a, .int .i64 g.pc, .int .i64 g.t.1, .int .i64 g.t.2.1, .bool g.t.2.2, .int .i64 g.pd, .int .i64 g.x.1, .int .i64 g.x.2.1, .bool g.x.2.2.1, .int .i64 g.x.2.2.2, .bool g.hl, .slice A0 g.prog.length c0, .slice A1 g.wr.length c1, .slice A2 g.lv.length c2, .slice A3 g.seen.length c3] :: ow (rLst 48 (rPair rInt rInt)) l0 h0 g.prog [.slice A0 g.prog.length c0] F0 :: ow (rLst 58 (rPair rInt rInt)) l1 h1 g.wr [.slice A1 g.wr.length c1] F1 :: ow (rLst 58 (rPair rInt rInt)) l2 h2 g.lv [.slice A2 g.lv.length c2] F2 :: ow (rLst 3 rInt) l3 h3 g.seen [.slice A3 g.seen.length c3] F3 :: R)) : Calls Tryz.prog 157 #[.pointer (some ⟨b, 0, none⟩)] w (fun e w' => e = .returned (.tuple #[]) ∧ ∃ (A0 : Option Addr) (c0 l0 h0 : Nat) (F0 : List Nat) (A1 : Option Addr) (c1 l1 h1 : Nat) (F1 : List Nat) (A2 : Option Addr) (c2 l2 h2 : Nat) (F2 : List Nat) (A3 : Option Addr) (c3 l3 h3 : Nat) (F3 : List Nat), St w0 w' (vr b [.int .i64 (intG g).a, .int .i64 (intG g).pc, .int .i64 (intG g).t.1, .int .i64 (intG g).t.2.1, .bool (intG g).t.2.2, .int .i64 (intG g).pd, .int .i64 (intG g).x.1, .int .i64 (intG g).x.2.1, .bool (intG g).x.2.2.1, .int .i64 (intG g).x.2.2.2, .bool (intG g).hl, .slice A0 (intG g).prog.length c0, .slice A1 (intG g).wr.length c1, .slice A2 (intG g).lv.length c2, .slice A3 (intG g).seen.length c3] :: ow (rLst 48 (rPair rInt rInt)) l0 h0 (intG g).prog [.slice A0 (intG g).prog.length c0] F0 :: ow (rLst 58 (rPair rInt rInt)) l1 h1 (intG g).wr [.slice A1 (intG g).wr.length c1] F1 :: ow (rLst 58 (rPair rInt rInt)) l2 h2 (intG g).lv [.slice A2 (intG g).lv.length c2] F2 :: ow (rLst 3 rInt) l3 h3 (intG g).seen [.slice A3 (intG g).seen.length c3] F3 :: R)) := by
 have hpd := gnum_pd hn
 refine Sx.enterS (args := [.pointer (some ⟨b, 0, none⟩)]) S Tryz.func157 rfl Tryz.ntmps157 rfl ?_
 refine Sx.C.seq (Sx.C.region ?_)
 refine Sx.G.p (.pointer (some ⟨b, 0, none⟩)) ?_
 refine Sx.G.p (.pointer (some ⟨b, 0, none⟩)) ?_
 refine Sx.G.p (.pointer (some ⟨b, 0, none⟩)) ?_
 refine Sx.G.lp 0 [.int .i64 g.a, .int .i64 g.pc, .int .i64 g.t.1, .int .i64 g.t.2.1, .bool g.t.2.2, .int .i64 g.pd, .int .i64 g.x.1, .int .i64 g.x.2.1, .bool g.x.2.2.1, .int .i64 g.x.2.2.2, .bool g.hl] .m0 ?_
 refine Sx.G.cp 201 #[.agg #[.int .i64 g.a, .int .i64 g.pc, .int .i64 g.t.1, .int .i64 g.t.2.1, .bool g.t.2.2, .int .i64 g.pd, .int .i64 g.x.1, .int .i64 g.x.2.1, .bool g.x.2.2.1, .int .i64 g.x.2.2.2, .bool g.hl]] (.bool (takesI g)) (fun w S => by exact impl_regTakes g _ hpd) ?_
 refine Sx.G.nil (Sx.E.next ?_)
 cases hc21 : (takesI g)
 ·
  have hb21 := hc21
  refine Sx.C.nn ?_
  refine Sx.C.skip (Sx.E.end_ ?_)
  refine Sx.E.ret0 rfl (fun w S => ?_)
  have HW : intG g = g := by
   show (if takesI g = true then _ else _) = _
   rw [hb21]; rfl
  rw [HW]
  exact ⟨rfl, _, _, _, _, _, _, _, _, _, _, _, _, _, _, _, _, _, _, _, _, S⟩
 ·
  have hb21 := hc21
  refine Sx.C.yy (Sx.C.region ?_)
  refine Sx.G.p (.pointer (some ⟨b, 0, none⟩)) ?_
  refine Sx.G.p (.pointer (some ⟨b, 0, none⟩)) ?_
  refine Sx.G.p (.pointer (some ⟨b, 0, none⟩)) ?_
  refine Sx.G.p (.pointer (some ⟨b, 0, none⟩)) ?_
  have htk := takeI_lt g.pd
  refine Sx.G.c 205 #[.pointer (some ⟨b, 0, none⟩)] (fun w22 S => (impl_takeM g hpd S).mono fun e w22' hp => ?_)
  obtain ⟨rfl, S'⟩ := hp
  refine ⟨_, _, rfl, S', ?_⟩
  clear S S'
  refine Sx.G.q (.int .i64 (IntKind.i64.wrap (100 + (takeI g.pd).2.1))) (.int .i64 (100 + (takeI g.pd).2.1)) (congrArg (Value.int .i64) (by rw [IntKind.wrap_i64]; omega)) ?_
  refine Sx.G.c 204 #[.pointer (some ⟨b, 0, none⟩), .int .i64 (100 + (takeI g.pd).2.1)] (fun w23 S => (impl_sawM ({ g with pd := (takeI g.pd).1 }) (100 + (takeI g.pd).2.1) (by omega) S).mono fun e w23' hp => ?_)
  obtain ⟨rfl, A23_0, c23_0, l23_0, h23_0, F23_0, A23_1, c23_1, l23_1, h23_1, F23_1, A23_2, c23_2, l23_2, h23_2, F23_2, A23_3, c23_3, l23_3, h23_3, F23_3, S'⟩ := hp
  refine ⟨_, _, rfl, S', ?_⟩
  clear S S'
  refine Sx.G.nil (Sx.E.end_ ?_)
  refine Sx.E.ret0 rfl (fun w S => ?_)
  have HW : intG g = sawG ({ g with pd := (takeI g.pd).1 }) (100 + (takeI g.pd).2.1) := by
   show (if takesI g = true then _ else _) = _
   rw [hb21]; rfl
  rw [HW]
  exact ⟨rfl, _, _, _, _, _, _, _, _, _, _, _, _, _, _, _, _, _, _, _, _, S⟩
theorem impl_canRun (g : gT) (cs : List Value) (w : World) (hn : gnum g) (hc : rG.cap g) (h : rG.rd w 0 w.heap.size g cs) : Calls Tryz.prog 72 #[.agg cs.toArray] w (fun e w' => e = .returned (.bool (canRun g)) ∧ Below w.heap.size w w') := by
 have hpd := gnum_pd hn
 have hr := h
 obtain ⟨P0, P1, P2, P3, rfl, h0, h1, h2, h3⟩ := rG_rd h
 obtain ⟨PA0, Pc0, e0, hP0⟩ := lst_val h0
 subst e0
 obtain ⟨PA1, Pc1, e1, hP1⟩ := lst_val h1
 subst e1
 obtain ⟨PA2, Pc2, e2, hP2⟩ := lst_val h2
 subst e2
 obtain ⟨PA3, Pc3, e3, hP3⟩ := lst_val h3
 subst e3
 refine Sx.enter (args := [.agg #[.slice PA0 g.prog.length Pc0, .int .i64 g.a, .int .i64 g.pc, .slice PA1 g.wr.length Pc1, .slice PA2 g.lv.length Pc2, .int .i64 g.t.1, .int .i64 g.t.2.1, .bool g.t.2.2, .int .i64 g.pd, .int .i64 g.x.1, .int .i64 g.x.2.1, .bool g.x.2.2.1, .int .i64 g.x.2.2.2, .bool g.hl, .slice PA3 g.seen.length Pc3]]) Tryz.func72 rfl Tryz.ntmps72 rfl ?_
 refine Sx.C.seq (Sx.C.region ?_)
 refine Sx.G.b [.slice PA0 g.prog.length Pc0, .int .i64 g.a, .int .i64 g.pc, .slice PA1 g.wr.length Pc1, .slice PA2 g.lv.length Pc2, .int .i64 g.t.1, .int .i64 g.t.2.1, .bool g.t.2.2, .int .i64 g.pd, .int .i64 g.x.1, .int .i64 g.x.2.1, .bool g.x.2.2.1, .int .i64 g.x.2.2.2, .bool g.hl, .slice PA3 g.seen.length Pc3] (fun b1 => ?_)
 refine Sx.G.p (.bool false) ?_
 refine Sx.G.nil (Sx.E.next (Sx.C.seq (Sx.C.region ?_)))
 refine Sx.G.lw .m0 ?_
 refine Sx.G.cp 132 #[.agg #[.slice PA0 g.prog.length Pc0, .int .i64 g.a, .int .i64 g.pc, .slice PA1 g.wr.length Pc1, .slice PA2 g.lv.length Pc2, .int .i64 g.t.1, .int .i64 g.t.2.1, .bool g.t.2.2, .int .i64 g.pd, .int .i64 g.x.1, .int .i64 g.x.2.1, .bool g.x.2.2.1, .int .i64 g.x.2.2.2, .bool g.hl, .slice PA3 g.seen.length Pc3]] (.agg #[.int .i64 g.a, .int .i64 g.pc, .int .i64 g.t.1, .int .i64 g.t.2.1, .bool g.t.2.2, .int .i64 g.pd, .int .i64 g.x.1, .int .i64 g.x.2.1, .bool g.x.2.2.1, .int .i64 g.x.2.2.2, .bool g.hl]) (fun w S => by exact impl_regs g _ _ (St.old S hr)) ?_
 refine Sx.G.cp 133 #[.agg #[.int .i64 g.a, .int .i64 g.pc, .int .i64 g.t.1, .int .i64 g.t.2.1, .bool g.t.2.2, .int .i64 g.pd, .int .i64 g.x.1, .int .i64 g.x.2.1, .bool g.x.2.2.1, .int .i64 g.x.2.2.2, .bool g.hl]] (.bool (canRun g)) (fun w S => by exact impl_regCan g _) ?_
 refine Sx.G.p (.bool (canRun g)) ?_
 refine Sx.G.nil (Sx.E.next (Sx.C.ret ?_))
 refine Sx.E.ret1 (.bool (canRun g)) rfl (by kernel_rfl) (fun w S => ?_)
 exact ⟨rfl, S.below⟩
theorem impl_takes (g : gT) (cs : List Value) (w : World) (hn : gnum g) (hc : rG.cap g) (h : rG.rd w 0 w.heap.size g cs) : Calls Tryz.prog 153 #[.agg cs.toArray] w (fun e w' => e = .returned (.bool (takesI g)) ∧ Below w.heap.size w w') := by
 have hpd := gnum_pd hn
 have hr := h
 obtain ⟨P0, P1, P2, P3, rfl, h0, h1, h2, h3⟩ := rG_rd h
 obtain ⟨PA0, Pc0, e0, hP0⟩ := lst_val h0
 subst e0
 obtain ⟨PA1, Pc1, e1, hP1⟩ := lst_val h1
 subst e1
 obtain ⟨PA2, Pc2, e2, hP2⟩ := lst_val h2
 subst e2
 obtain ⟨PA3, Pc3, e3, hP3⟩ := lst_val h3
 subst e3
 refine Sx.enter (args := [.agg #[.slice PA0 g.prog.length Pc0, .int .i64 g.a, .int .i64 g.pc, .slice PA1 g.wr.length Pc1, .slice PA2 g.lv.length Pc2, .int .i64 g.t.1, .int .i64 g.t.2.1, .bool g.t.2.2, .int .i64 g.pd, .int .i64 g.x.1, .int .i64 g.x.2.1, .bool g.x.2.2.1, .int .i64 g.x.2.2.2, .bool g.hl, .slice PA3 g.seen.length Pc3]]) Tryz.func153 rfl Tryz.ntmps153 rfl ?_
 refine Sx.C.seq (Sx.C.region ?_)
 refine Sx.G.b [.slice PA0 g.prog.length Pc0, .int .i64 g.a, .int .i64 g.pc, .slice PA1 g.wr.length Pc1, .slice PA2 g.lv.length Pc2, .int .i64 g.t.1, .int .i64 g.t.2.1, .bool g.t.2.2, .int .i64 g.pd, .int .i64 g.x.1, .int .i64 g.x.2.1, .bool g.x.2.2.1, .int .i64 g.x.2.2.2, .bool g.hl, .slice PA3 g.seen.length Pc3] (fun b1 => ?_)
 refine Sx.G.p (.bool false) ?_
 refine Sx.G.nil (Sx.E.next (Sx.C.seq (Sx.C.region ?_)))
 refine Sx.G.lw .m0 ?_
 refine Sx.G.cp 132 #[.agg #[.slice PA0 g.prog.length Pc0, .int .i64 g.a, .int .i64 g.pc, .slice PA1 g.wr.length Pc1, .slice PA2 g.lv.length Pc2, .int .i64 g.t.1, .int .i64 g.t.2.1, .bool g.t.2.2, .int .i64 g.pd, .int .i64 g.x.1, .int .i64 g.x.2.1, .bool g.x.2.2.1, .int .i64 g.x.2.2.2, .bool g.hl, .slice PA3 g.seen.length Pc3]] (.agg #[.int .i64 g.a, .int .i64 g.pc, .int .i64 g.t.1, .int .i64 g.t.2.1, .bool g.t.2.2, .int .i64 g.pd, .int .i64 g.x.1, .int .i64 g.x.2.1, .bool g.x.2.2.1, .int .i64 g.x.2.2.2, .bool g.hl]) (fun w S => by exact impl_regs g _ _ (St.old S hr)) ?_
 refine Sx.G.cp 201 #[.agg #[.int .i64 g.a, .int .i64 g.pc, .int .i64 g.t.1, .int .i64 g.t.2.1, .bool g.t.2.2, .int .i64 g.pd, .int .i64 g.x.1, .int .i64 g.x.2.1, .bool g.x.2.2.1, .int .i64 g.x.2.2.2, .bool g.hl]] (.bool (takesI g)) (fun w S => by exact impl_regTakes g _ hpd) ?_
 refine Sx.G.p (.bool (takesI g)) ?_
 refine Sx.G.nil (Sx.E.next (Sx.C.ret ?_))
 refine Sx.E.ret1 (.bool (takesI g)) rfl (by kernel_rfl) (fun w S => ?_)
 exact ⟨rfl, S.below⟩
theorem impl_gok (g : gT) (cs : List Value) (w : World) (hn : gnum g) (hc : rG.cap g) (h : rG.rd w 0 w.heap.size g cs) : Calls Tryz.prog 199 #[.agg cs.toArray] w (fun e w' => e = .returned (.bool (guestOk g)) ∧ Below w.heap.size w w') := by
 obtain ⟨q0, q1, q2, q3⟩ := rG_len hc
 have hr := h
 obtain ⟨P0, P1, P2, P3, rfl, h0, h1, h2, h3⟩ := rG_rd h
 obtain ⟨PA0, Pc0, e0, hP0⟩ := lst_val h0
 subst e0
 obtain ⟨PA1, Pc1, e1, hP1⟩ := lst_val h1
 subst e1
 obtain ⟨PA2, Pc2, e2, hP2⟩ := lst_val h2
 subst e2
 obtain ⟨PA3, Pc3, e3, hP3⟩ := lst_val h3
 subst e3
 refine Sx.enter (args := [.agg #[.slice PA0 g.prog.length Pc0, .int .i64 g.a, .int .i64 g.pc, .slice PA1 g.wr.length Pc1, .slice PA2 g.lv.length Pc2, .int .i64 g.t.1, .int .i64 g.t.2.1, .bool g.t.2.2, .int .i64 g.pd, .int .i64 g.x.1, .int .i64 g.x.2.1, .bool g.x.2.2.1, .int .i64 g.x.2.2.2, .bool g.hl, .slice PA3 g.seen.length Pc3]]) Tryz.func199 rfl Tryz.ntmps199 rfl ?_
 refine Sx.C.seq (Sx.C.region ?_)
 refine Sx.G.b [.slice PA0 g.prog.length Pc0, .int .i64 g.a, .int .i64 g.pc, .slice PA1 g.wr.length Pc1, .slice PA2 g.lv.length Pc2, .int .i64 g.t.1, .int .i64 g.t.2.1, .bool g.t.2.2, .int .i64 g.pd, .int .i64 g.x.1, .int .i64 g.x.2.1, .bool g.x.2.2.1, .int .i64 g.x.2.2.2, .bool g.hl, .slice PA3 g.seen.length Pc3] (fun b1 => ?_)
 refine Sx.G.p (.bool false) ?_
 refine Sx.G.nil (Sx.E.next (Sx.C.seq (Sx.C.region ?_)))
 refine Sx.G.p (.pointer (some ⟨b1, 0, none⟩)) ?_
 refine Sx.G.g (.slice PA0 g.prog.length Pc0) .m0 .m0 ?_
 refine Sx.G.cp 222 #[.slice PA0 g.prog.length Pc0] (.bool (progOk g.prog)) (fun w S => by exact Inss.impl_progOk PA0 g.prog.length Pc0 g.prog _ q0 rfl (by rw [← pcells_j]; exact p2_lies (St.old S h0)) hn.1.2) ?_
 refine Sx.G.p (.bool (progOk g.prog)) ?_
 cases hc2 : (progOk g.prog)
 ·
  have hb2 := hc2
  refine Sx.G.k ?_
  refine Sx.G.k ?_
  refine Sx.G.k ?_
  refine Sx.G.p (.bool false) ?_
  refine Sx.G.p (.bool false) ?_
  refine Sx.G.k ?_
  refine Sx.G.k ?_
  refine Sx.G.k ?_
  refine Sx.G.p (.bool false) ?_
  refine Sx.G.p (.bool false) ?_
  refine Sx.G.k ?_
  refine Sx.G.k ?_
  refine Sx.G.k ?_
  refine Sx.G.p (.bool false) ?_
  refine Sx.G.p (.bool false) ?_
  refine Sx.G.k ?_
  refine Sx.G.k ?_
  refine Sx.G.k ?_
  refine Sx.G.k ?_
  refine Sx.G.p (.bool false) ?_
  refine Sx.G.p (.bool false) ?_
  refine Sx.G.nil (Sx.E.next (Sx.C.ret ?_))
  refine Sx.E.ret1 (.bool false) rfl (by kernel_rfl) (fun w S => ?_)
  exact ⟨congrArg Ending.returned (congrArg Value.bool (by simp only [guestOk_reg, hb2, Bool.and_true, Bool.and_false, Bool.false_and, Bool.true_and])), S.below⟩
 ·
  have hb2 := hc2
  refine Sx.G.lw .m0 ?_
  refine Sx.G.cp 132 #[.agg #[.slice PA0 g.prog.length Pc0, .int .i64 g.a, .int .i64 g.pc, .slice PA1 g.wr.length Pc1, .slice PA2 g.lv.length Pc2, .int .i64 g.t.1, .int .i64 g.t.2.1, .bool g.t.2.2, .int .i64 g.pd, .int .i64 g.x.1, .int .i64 g.x.2.1, .bool g.x.2.2.1, .int .i64 g.x.2.2.2, .bool g.hl, .slice PA3 g.seen.length Pc3]] (.agg #[.int .i64 g.a, .int .i64 g.pc, .int .i64 g.t.1, .int .i64 g.t.2.1, .bool g.t.2.2, .int .i64 g.pd, .int .i64 g.x.1, .int .i64 g.x.2.1, .bool g.x.2.2.1, .int .i64 g.x.2.2.2, .bool g.hl]) (fun w S => by exact impl_regs g _ _ (St.old S hr)) ?_
  refine Sx.G.cp 223 #[.agg #[.int .i64 g.a, .int .i64 g.pc, .int .i64 g.t.1, .int .i64 g.t.2.1, .bool g.t.2.2, .int .i64 g.pd, .int .i64 g.x.1, .int .i64 g.x.2.1, .bool g.x.2.2.1, .int .i64 g.x.2.2.2, .bool g.hl]] (.bool (regOk g)) (fun w S => by exact impl_regOk g _ hn) ?_
  refine Sx.G.p (.bool (regOk g)) ?_
  refine Sx.G.p (.bool (regOk g)) ?_
  cases hc3 : (regOk g)
  ·
   have hb3 := hc3
   refine Sx.G.k ?_
   refine Sx.G.k ?_
   refine Sx.G.k ?_
   refine Sx.G.p (.bool false) ?_
   refine Sx.G.p (.bool false) ?_
   refine Sx.G.k ?_
   refine Sx.G.k ?_
   refine Sx.G.k ?_
   refine Sx.G.p (.bool false) ?_
   refine Sx.G.p (.bool false) ?_
   refine Sx.G.k ?_
   refine Sx.G.k ?_
   refine Sx.G.k ?_
   refine Sx.G.k ?_
   refine Sx.G.p (.bool false) ?_
   refine Sx.G.p (.bool false) ?_
   refine Sx.G.nil (Sx.E.next (Sx.C.ret ?_))
   refine Sx.E.ret1 (.bool false) rfl (by kernel_rfl) (fun w S => ?_)
   exact ⟨congrArg Ending.returned (congrArg Value.bool (by simp only [guestOk_reg, hb2, hb3, Bool.and_true, Bool.and_false, Bool.false_and, Bool.true_and])), S.below⟩
  ·
   have hb3 := hc3
   refine Sx.G.p (.pointer (some ⟨b1, 3, none⟩)) ?_
   refine Sx.G.g (.slice PA1 g.wr.length Pc1) .m0 .m3 ?_
   refine Sx.G.cp 224 #[.slice PA1 g.wr.length Pc1, .int .i64 4, .int .i64 8] (.bool (okTab g.wr 4 8)) (fun w S => by exact Slots.impl_tabOk PA1 g.wr.length Pc1 0 4 8 g.wr _ q1 rfl hn.2.2.2.1.2 (by rw [← pcells_s]; exact p2_lies (St.old S h1))) ?_
   refine Sx.G.p (.bool (okTab g.wr 4 8)) ?_
   refine Sx.G.p (.bool (okTab g.wr 4 8)) ?_
   cases hc4 : (okTab g.wr 4 8)
   ·
    have hb4 := hc4
    refine Sx.G.k ?_
    refine Sx.G.k ?_
    refine Sx.G.k ?_
    refine Sx.G.p (.bool false) ?_
    refine Sx.G.p (.bool false) ?_
    refine Sx.G.k ?_
    refine Sx.G.k ?_
    refine Sx.G.k ?_
    refine Sx.G.k ?_
    refine Sx.G.p (.bool false) ?_
    refine Sx.G.p (.bool false) ?_
    refine Sx.G.nil (Sx.E.next (Sx.C.ret ?_))
    refine Sx.E.ret1 (.bool false) rfl (by kernel_rfl) (fun w S => ?_)
    exact ⟨congrArg Ending.returned (congrArg Value.bool (by simp only [guestOk_reg, hb2, hb3, hb4, Bool.and_true, Bool.and_false, Bool.false_and, Bool.true_and])), S.below⟩
   ·
    have hb4 := hc4
    refine Sx.G.p (.pointer (some ⟨b1, 4, none⟩)) ?_
    refine Sx.G.g (.slice PA2 g.lv.length Pc2) .m0 .m4 ?_
    refine Sx.G.cp 224 #[.slice PA2 g.lv.length Pc2, .int .i64 4, .int .i64 8] (.bool (okTab g.lv 4 8)) (fun w S => by exact Slots.impl_tabOk PA2 g.lv.length Pc2 0 4 8 g.lv _ q2 rfl hn.2.2.2.2.1.2 (by rw [← pcells_s]; exact p2_lies (St.old S h2))) ?_
    refine Sx.G.p (.bool (okTab g.lv 4 8)) ?_
    refine Sx.G.p (.bool (okTab g.lv 4 8)) ?_
    cases hc5 : (okTab g.lv 4 8)
    ·
     have hb5 := hc5
     refine Sx.G.k ?_
     refine Sx.G.k ?_
     refine Sx.G.k ?_
     refine Sx.G.k ?_
     refine Sx.G.p (.bool false) ?_
     refine Sx.G.p (.bool false) ?_
     refine Sx.G.nil (Sx.E.next (Sx.C.ret ?_))
     refine Sx.E.ret1 (.bool false) rfl (by kernel_rfl) (fun w S => ?_)
     exact ⟨congrArg Ending.returned (congrArg Value.bool (by simp only [guestOk_reg, hb2, hb3, hb4, hb5, Bool.and_true, Bool.and_false, Bool.false_and, Bool.true_and])), S.below⟩
    ·
     have hb5 := hc5
     refine Sx.G.p (.pointer (some ⟨b1, 14, none⟩)) ?_
     refine Sx.G.g (.slice PA3 g.seen.length Pc3) .m0 .m14 ?_
     refine Sx.G.p (.int .i64 ((g.seen.length : Nat) : Int)) ?_
     refine Sx.G.p (.bool (decide (((g.seen.length : Nat) : Int) ≤ 40))) ?_
     refine Sx.G.p (.bool (decide (((g.seen.length : Nat) : Int) ≤ 40))) ?_
     refine Sx.G.p (.bool (decide (((g.seen.length : Nat) : Int) ≤ 40))) ?_
     refine Sx.G.nil (Sx.E.next (Sx.C.ret ?_))
     refine Sx.E.ret1 (.bool (decide (((g.seen.length : Nat) : Int) ≤ 40))) rfl (by kernel_rfl) (fun w S => ?_)
     exact ⟨congrArg Ending.returned (congrArg Value.bool (by simp only [guestOk_reg, hb2, hb3, hb4, hb5, Bool.and_true, Bool.and_false, Bool.false_and, Bool.true_and])), S.below⟩
theorem impl_int_g (g : gT) (cs : List Value) (w : World) (hn : gnum g) (hc : rG.cap g) (h : rG.rd w 0 w.heap.size g cs) : Calls Tryz.prog 103 #[.agg cs.toArray] w (Gives rG w (intG g)) := by
 obtain ⟨q0, q1, q2, q3⟩ := rG_len hc
 have hr := h
 obtain ⟨P0, P1, P2, P3, rfl, h0, h1, h2, h3⟩ := rG_rd h
 obtain ⟨PA0, Pc0, e0, hP0⟩ := lst_val h0
 subst e0
 obtain ⟨PA1, Pc1, e1, hP1⟩ := lst_val h1
 subst e1
 obtain ⟨PA2, Pc2, e2, hP2⟩ := lst_val h2
 subst e2
 obtain ⟨PA3, Pc3, e3, hP3⟩ := lst_val h3
 subst e3
 refine Sx.enter (args := [.agg #[.slice PA0 g.prog.length Pc0, .int .i64 g.a, .int .i64 g.pc, .slice PA1 g.wr.length Pc1, .slice PA2 g.lv.length Pc2, .int .i64 g.t.1, .int .i64 g.t.2.1, .bool g.t.2.2, .int .i64 g.pd, .int .i64 g.x.1, .int .i64 g.x.2.1, .bool g.x.2.2.1, .int .i64 g.x.2.2.2, .bool g.hl, .slice PA3 g.seen.length Pc3]]) Tryz.func103 rfl Tryz.ntmps103 rfl ?_
 refine Sx.C.seq (Sx.C.region ?_)
 refine Sx.G.b [.slice PA0 g.prog.length Pc0, .int .i64 g.a, .int .i64 g.pc, .slice PA1 g.wr.length Pc1, .slice PA2 g.lv.length Pc2, .int .i64 g.t.1, .int .i64 g.t.2.1, .bool g.t.2.2, .int .i64 g.pd, .int .i64 g.x.1, .int .i64 g.x.2.1, .bool g.x.2.2.1, .int .i64 g.x.2.2.2, .bool g.hl, .slice PA3 g.seen.length Pc3] (fun b1 => ?_)
 refine Sx.G.ar [.slice none 0 0, .int .i64 0, .int .i64 0, .slice none 0 0, .slice none 0 0, .int .i64 0, .int .i64 0, .bool false, .int .i64 0, .int .i64 0, .int .i64 0, .bool false, .int .i64 0, .bool false, .slice none 0 0] (fun b2 => ?_)
 refine Sx.G.nil (Sx.E.next (Sx.C.seq (Sx.C.region ?_)))
 refine Sx.G.lw .m1 ?_
 refine Sx.G.c 156 #[.agg #[.slice PA0 g.prog.length Pc0, .int .i64 g.a, .int .i64 g.pc, .slice PA1 g.wr.length Pc1, .slice PA2 g.lv.length Pc2, .int .i64 g.t.1, .int .i64 g.t.2.1, .bool g.t.2.2, .int .i64 g.pd, .int .i64 g.x.1, .int .i64 g.x.2.1, .bool g.x.2.2.1, .int .i64 g.x.2.2.2, .bool g.hl, .slice PA3 g.seen.length Pc3]] (fun w3 S => (impl_copyM g _ _ hc (St.old S hr)).mono fun e w3' hp => ?_)
 obtain ⟨b3, A3_0, c3_0, l3_0, h3_0, F3_0, A3_1, c3_1, l3_1, h3_1, F3_1, A3_2, c3_2, l3_2, h3_2, F3_2, A3_3, c3_3, l3_3, h3_3, F3_3, rfl, U⟩ := hp
 refine ⟨_, _, rfl, (Sx.St.join S U), ?_⟩
 clear S U
 refine Sx.G.p (.pointer (some ⟨b3, 0, none⟩)) ?_
 refine Sx.G.nil (Sx.E.next (Sx.C.seq (Sx.C.region ?_)))
 refine Sx.G.p (.pointer (some ⟨b3, 0, none⟩)) ?_
 refine Sx.G.c 157 #[.pointer (some ⟨b3, 0, none⟩)] (fun w4 S => (impl_intM g hn (by omega) S).mono fun e w4' hp => ?_)
 obtain ⟨rfl, A4_0, c4_0, l4_0, h4_0, F4_0, A4_1, c4_1, l4_1, h4_1, F4_1, A4_2, c4_2, l4_2, h4_2, F4_2, A4_3, c4_3, l4_3, h4_3, F4_3, S'⟩ := hp
 refine ⟨_, _, rfl, S', ?_⟩
 clear S S'
 refine Sx.G.nil (Sx.E.next (Sx.C.seq (Sx.C.region ?_)))
 refine Sx.G.p (.pointer (some ⟨b3, 0, none⟩)) ?_
 refine Sx.G.c 158 #[.pointer (some ⟨b3, 0, none⟩)] (fun w5 S => (impl_guestM (intG g) S).mono fun e w5' hp => ?_)
 obtain ⟨rfl, S'⟩ := hp
 refine ⟨_, _, rfl, S', ?_⟩
 clear S S'
 refine Sx.G.sw [.slice A4_0 (intG g).prog.length c4_0, .int .i64 (intG g).a, .int .i64 (intG g).pc, .slice A4_1 (intG g).wr.length c4_1, .slice A4_2 (intG g).lv.length c4_2, .int .i64 (intG g).t.1, .int .i64 (intG g).t.2.1, .bool (intG g).t.2.2, .int .i64 (intG g).pd, .int .i64 (intG g).x.1, .int .i64 (intG g).x.2.1, .bool (intG g).x.2.2.1, .int .i64 (intG g).x.2.2.2, .bool (intG g).hl, .slice A4_3 (intG g).seen.length c4_3] .a5 ?_
 refine Sx.G.nil (Sx.E.next (Sx.C.ret ?_))
 refine Sx.E.retc b2 5 [.slice A4_0 (intG g).prog.length c4_0, .int .i64 (intG g).a, .int .i64 (intG g).pc, .slice A4_1 (intG g).wr.length c4_1, .slice A4_2 (intG g).lv.length c4_2, .int .i64 (intG g).t.1, .int .i64 (intG g).t.2.1, .bool (intG g).t.2.2, .int .i64 (intG g).pd, .int .i64 (intG g).x.1, .int .i64 (intG g).x.2.1, .bool (intG g).x.2.2.1, .int .i64 (intG g).x.2.2.2, .bool (intG g).hl, .slice A4_3 (intG g).seen.length c4_3] rfl (by kernel_rfl) rfl (by kernel_rfl) (by kernel_rfl) (fun w S => ?_)
 obtain ⟨GW2, S⟩ := S.weak 2 rfl
 obtain ⟨GW3, S⟩ := S.weak 3 rfl
 obtain ⟨ho, hF⟩ := rG_shut (g := intG g) S 1 rfl 2 rfl 3 rfl 4 rfl (by decide) (by decide) (by decide) (by decide) (by decide) (by decide)
 exact ⟨_, _, rfl, ho, hF, S.below⟩
theorem impl_stop_g (g : gT) (cs : List Value) (e : QT) (w : World) (hc : rG.cap g) (h : rG.rd w 0 w.heap.size g cs) : Calls Tryz.prog 107 #[.agg cs.toArray, .agg #[.int .i64 e.1, .int .i64 e.2.1, .bool e.2.2.1, .int .i64 e.2.2.2]] w (Gives rG w (stopG g e)) := by
 obtain ⟨q0, q1, q2, q3⟩ := rG_len hc
 have hr := h
 obtain ⟨P0, P1, P2, P3, rfl, h0, h1, h2, h3⟩ := rG_rd h
 obtain ⟨PA0, Pc0, e0, hP0⟩ := lst_val h0
 subst e0
 obtain ⟨PA1, Pc1, e1, hP1⟩ := lst_val h1
 subst e1
 obtain ⟨PA2, Pc2, e2, hP2⟩ := lst_val h2
 subst e2
 obtain ⟨PA3, Pc3, e3, hP3⟩ := lst_val h3
 subst e3
 refine Sx.enter (args := [.agg #[.slice PA0 g.prog.length Pc0, .int .i64 g.a, .int .i64 g.pc, .slice PA1 g.wr.length Pc1, .slice PA2 g.lv.length Pc2, .int .i64 g.t.1, .int .i64 g.t.2.1, .bool g.t.2.2, .int .i64 g.pd, .int .i64 g.x.1, .int .i64 g.x.2.1, .bool g.x.2.2.1, .int .i64 g.x.2.2.2, .bool g.hl, .slice PA3 g.seen.length Pc3], .agg #[.int .i64 e.1, .int .i64 e.2.1, .bool e.2.2.1, .int .i64 e.2.2.2]]) Tryz.func107 rfl Tryz.ntmps107 rfl ?_
 refine Sx.C.seq (Sx.C.region ?_)
 refine Sx.G.b [.slice PA0 g.prog.length Pc0, .int .i64 g.a, .int .i64 g.pc, .slice PA1 g.wr.length Pc1, .slice PA2 g.lv.length Pc2, .int .i64 g.t.1, .int .i64 g.t.2.1, .bool g.t.2.2, .int .i64 g.pd, .int .i64 g.x.1, .int .i64 g.x.2.1, .bool g.x.2.2.1, .int .i64 g.x.2.2.2, .bool g.hl, .slice PA3 g.seen.length Pc3] (fun b1 => ?_)
 refine Sx.G.b [.int .i64 e.1, .int .i64 e.2.1, .bool e.2.2.1, .int .i64 e.2.2.2] (fun b2 => ?_)
 refine Sx.G.ar [.slice none 0 0, .int .i64 0, .int .i64 0, .slice none 0 0, .slice none 0 0, .int .i64 0, .int .i64 0, .bool false, .int .i64 0, .int .i64 0, .int .i64 0, .bool false, .int .i64 0, .bool false, .slice none 0 0] (fun b3 => ?_)
 refine Sx.G.nil (Sx.E.next (Sx.C.seq (Sx.C.region ?_)))
 refine Sx.G.lw .m2 ?_
 refine Sx.G.c 156 #[.agg #[.slice PA0 g.prog.length Pc0, .int .i64 g.a, .int .i64 g.pc, .slice PA1 g.wr.length Pc1, .slice PA2 g.lv.length Pc2, .int .i64 g.t.1, .int .i64 g.t.2.1, .bool g.t.2.2, .int .i64 g.pd, .int .i64 g.x.1, .int .i64 g.x.2.1, .bool g.x.2.2.1, .int .i64 g.x.2.2.2, .bool g.hl, .slice PA3 g.seen.length Pc3]] (fun w4 S => (impl_copyM g _ _ hc (St.old S hr)).mono fun e w4' hp => ?_)
 obtain ⟨b4, A4_0, c4_0, l4_0, h4_0, F4_0, A4_1, c4_1, l4_1, h4_1, F4_1, A4_2, c4_2, l4_2, h4_2, F4_2, A4_3, c4_3, l4_3, h4_3, F4_3, rfl, U⟩ := hp
 refine ⟨_, _, rfl, (Sx.St.join S U), ?_⟩
 clear S U
 refine Sx.G.p (.pointer (some ⟨b4, 0, none⟩)) ?_
 refine Sx.G.nil (Sx.E.next (Sx.C.seq (Sx.C.region ?_)))
 refine Sx.G.p (.pointer (some ⟨b4, 0, none⟩)) ?_
 refine Sx.G.lw .m6 ?_
 refine Sx.G.p (.pointer (some ⟨b4, 0, none⟩)) ?_
 refine Sx.G.p (.pointer (some ⟨b4, 0, none⟩)) ?_
 refine Sx.G.p (.pointer (some ⟨b4, 6, none⟩)) ?_
 refine Sx.G.sto 44 (.tmp 12) (.tmp 9) b4 6 0 [.int .i64 g.a, .int .i64 g.pc, .int .i64 g.t.1, .int .i64 g.t.2.1, .bool g.t.2.2, .int .i64 g.pd, .int .i64 g.x.1, .int .i64 g.x.2.1, .bool g.x.2.2.1, .int .i64 g.x.2.2.2, .bool g.hl, .slice A4_0 g.prog.length c4_0, .slice A4_1 g.wr.length c4_1, .slice A4_2 g.lv.length c4_2, .slice A4_3 g.seen.length c4_3] [.int .i64 e.1, .int .i64 e.2.1, .bool e.2.2.1, .int .i64 e.2.2.2] [.int .i64 g.a, .int .i64 g.pc, .int .i64 g.t.1, .int .i64 g.t.2.1, .bool g.t.2.2, .int .i64 g.pd, .int .i64 e.1, .int .i64 e.2.1, .bool e.2.2.1, .int .i64 e.2.2.2, .bool g.hl, .slice A4_0 g.prog.length c4_0, .slice A4_1 g.wr.length c4_1, .slice A4_2 g.lv.length c4_2, .slice A4_3 g.seen.length c4_3] [vr b4 [.int .i64 g.a, .int .i64 g.pc, .int .i64 g.t.1, .int .i64 g.t.2.1, .bool g.t.2.2, .int .i64 g.pd, .int .i64 e.1, .int .i64 e.2.1, .bool e.2.2.1, .int .i64 e.2.2.2, .bool g.hl, .slice A4_0 g.prog.length c4_0, .slice A4_1 g.wr.length c4_1, .slice A4_2 g.lv.length c4_2, .slice A4_3 g.seen.length c4_3], ow (rLst 48 (rPair rInt rInt)) l4_0 h4_0 g.prog [.slice A4_0 g.prog.length c4_0] F4_0, ow (rLst 58 (rPair rInt rInt)) l4_1 h4_1 g.wr [.slice A4_1 g.wr.length c4_1] F4_1, ow (rLst 58 (rPair rInt rInt)) l4_2 h4_2 g.lv [.slice A4_2 g.lv.length c4_2] F4_2, ow (rLst 3 rInt) l4_3 h4_3 g.seen [.slice A4_3 g.seen.length c4_3] F4_3, vr b3 [.slice none 0 0, .int .i64 0, .int .i64 0, .slice none 0 0, .slice none 0 0, .int .i64 0, .int .i64 0, .bool false, .int .i64 0, .int .i64 0, .int .i64 0, .bool false, .int .i64 0, .bool false, .slice none 0 0], vr b2 [.int .i64 e.1, .int .i64 e.2.1, .bool e.2.2.1, .int .i64 e.2.2.2], vr b1 [.slice PA0 g.prog.length Pc0, .int .i64 g.a, .int .i64 g.pc, .slice PA1 g.wr.length Pc1, .slice PA2 g.lv.length Pc2, .int .i64 g.t.1, .int .i64 g.t.2.1, .bool g.t.2.2, .int .i64 g.pd, .int .i64 g.x.1, .int .i64 g.x.2.1, .bool g.x.2.2.1, .int .i64 g.x.2.2.2, .bool g.hl, .slice PA3 g.seen.length Pc3]] rfl (by kernel_rfl) (by kernel_rfl) (by kernel_rfl) rfl (by kernel_rfl) rfl (by kernel_rfl) (by kernel_rfl) (by kernel_rfl) ?_
 refine Sx.G.nil (Sx.E.next (Sx.C.seq (Sx.C.region ?_)))
 refine Sx.G.p (.pointer (some ⟨b4, 0, none⟩)) ?_
 refine Sx.G.c 158 #[.pointer (some ⟨b4, 0, none⟩)] (fun w5 S => (impl_guestM ({ g with x := (e.1, e.2.1, e.2.2.1, e.2.2.2) }) S).mono fun e w5' hp => ?_)
 obtain ⟨rfl, S'⟩ := hp
 refine ⟨_, _, rfl, S', ?_⟩
 clear S S'
 refine Sx.G.sw [.slice A4_0 g.prog.length c4_0, .int .i64 g.a, .int .i64 g.pc, .slice A4_1 g.wr.length c4_1, .slice A4_2 g.lv.length c4_2, .int .i64 g.t.1, .int .i64 g.t.2.1, .bool g.t.2.2, .int .i64 g.pd, .int .i64 e.1, .int .i64 e.2.1, .bool e.2.2.1, .int .i64 e.2.2.2, .bool g.hl, .slice A4_3 g.seen.length c4_3] .a5 ?_
 refine Sx.G.nil (Sx.E.next (Sx.C.ret ?_))
 refine Sx.E.retc b3 5 [.slice A4_0 g.prog.length c4_0, .int .i64 g.a, .int .i64 g.pc, .slice A4_1 g.wr.length c4_1, .slice A4_2 g.lv.length c4_2, .int .i64 g.t.1, .int .i64 g.t.2.1, .bool g.t.2.2, .int .i64 g.pd, .int .i64 e.1, .int .i64 e.2.1, .bool e.2.2.1, .int .i64 e.2.2.2, .bool g.hl, .slice A4_3 g.seen.length c4_3] rfl (by kernel_rfl) rfl (by kernel_rfl) (by kernel_rfl) (fun w S => ?_)
 obtain ⟨GW2, S⟩ := S.weak 2 rfl
 obtain ⟨GW3, S⟩ := S.weak 3 rfl
 obtain ⟨ho, hF⟩ := rG_shut (g := stopG g e) S 1 rfl 2 rfl 3 rfl 4 rfl (by decide) (by decide) (by decide) (by decide) (by decide) (by decide)
 exact ⟨_, _, rfl, ho, hF, S.below⟩
end Go.Proofs.YtmiokacihcpepaaGreat.Guests
namespace Go.Proofs.YtmiokacihcpepaaGreat.Kit
set_option maxHeartbeats 8000000
set_option maxRecDepth 100000
set_option maxRecDepth 100000
open Go.ChangeShapes Go.WideShapes Go.ChangeAt Go.RowKit Go.Deep
open Go.Proofs.YtmiokacihcpepaaGreat.Base Go.Proofs.YtmiokacihcpepaaGreat.Mem Go.Proofs.YtmiokacihcpepaaGreat.Data Go.Proofs.YtmiokacihcpepaaGreat.Stt Go.Proofs.YtmiokacihcpepaaGreat.Guests Go.Proofs.YtmiokacihcpepaaGreat.Ctls Go.Proofs.YtmiokacihcpepaaGreat.Exits
set_option linter.unusedVariables false
set_option linter.unusedSimpArgs false
theorem i1_own {w : World} {lo hi c : Nat} {A : Option Addr} {l : List Int} (hc : l.length ≤ c) (h : Owned w lo hi A (icells l)) : (rLsw rInt).own w lo hi l [.slice A l.length c] (blks A (icells l)) ∧ (blks A (icells l)).Nodup :=
 ⟨⟨A, c, icells l, [], rfl, hc, by simp, (show ∀ l : List Int, ownAll rInt w lo hi l (icells l) [] from fun l => by
  induction l with
  | nil => exact ⟨rfl, rfl⟩
  | cons s l ih => exact ⟨[.int .i64 s], icells l, [], [], rfl, rfl, ⟨rfl, rfl⟩, ih⟩) l, h⟩, by
  unfold blks
  split
  ·
   simp
  ·
   cases A <;> simp⟩
theorem implx_copypage0 (A : Option Addr) (n c lo : Nat) (l : List Int) (w : World) (hn : n ≤ 1048576) (hl : l.length = n) (h1 : Lies w lo w.heap.size A (Ints.ncells l)) :
  Calls Tryz.prog 155 #[.slice A n c] w (Grid.IPostC w l) := by
 obtain ⟨i0, hi0, hz0, hz1, hz2⟩ := info_parts Grid.Tryz.infoInt
 obtain ⟨wm, hmk, hown, hgm⟩ := run_make_full w w.heap.size 26 3 i0 _ 1 Tryz.underlying26 hi0 hz0 hz1 .i64 .i64 n (by rw [hz2]; omega) (by simp only [maxLen]; omega) (Nat.le_refl _)
 obtain ⟨cur, hblk, hcur⟩ := Grid.block_of_row hown
 have hb0 : Below w.heap.size w wm := (Below.refl _ _).grown hgm (Nat.le_refl _) (fun _ h => by cases h)
 have hsrc := Lib.hid (Grid.Lies.src (h1.below hb0 (Nat.le_refl _)))
 have hlen := Lib.hid (show (Ints.ncells l).length = Nat.min n n by rw [Ints.ncells_len, hl]; exact (Nat.min_self n).symm)
 have hfit := Lib.hid (show 0 + (Ints.ncells l).length ≤ cur.length by rw [Ints.ncells_len, hl, hcur]; omega)
 have hs := Lib.hid (Grid.splice_all cur (Ints.ncells l) (by rw [Ints.ncells_len, hl, hcur]))
 have hsz := Lib.hid (show (Tryz.prog.info? 3).map (·.size) = some 1 by rw [hi0]; simp [hz1])
 have HB := Lib.hid hb0
 have HL := Lib.hid hl
 have HC := Lib.hid hblk
 have hlo := Nat.le_refl w.heap.size
 clear h1 hl hown hgm hblk hb0 hcur
 go_enter Tryz.func155, Tryz.ntmps155
 go_wp2_with (with_reducible refine wpList_copy_splice rfl (.tmp 7) (.tmp 8) 26 26 rfl 3 Tryz.underlying26 hsz.out (some ⟨w.heap.size, 0, none⟩) A n n n c rfl rfl w.heap.size 0 cur 3 HC.out (Ints.ncells l) hlen.out (fun hp => ⟨rfl, by obtain ⟨ad, e, _⟩ := hsrc.out 0 _ (List.getElem?_eq_getElem hp); subst e; exact ⟨_, rfl, fun j v hv => by obtain ⟨ad', e', hc⟩ := hsrc.out j v hv; cases e'; exact hc⟩⟩) hfit.out (Grid.ncells_one l) w.heap.size w HB.out hlo ?_; intro w2 HG hb2; have HB2 := Lib.hid hb2; clear hb2)
 go_ret
 have hg := HG.out
 rw [hs.out] at hg
 exact ⟨_, _, _, rfl, Nat.le_refl _, HL.out, Mem.Owned.of_row (Grid.row_of_block (n := n) hg (Nat.le_refl _) (by rw [Ints.ncells_len]; exact HL.out) (by simp only [maxLen]; omega)), HB2.out⟩
theorem implx_copypage (xs : List Int) (A : Option Addr) (c : Nat) (w : World) (hc : (rLsw rInt).cap xs) (h : rdLst rInt w 0 w.heap.size xs [.slice A xs.length c]) : Calls Tryz.prog 155 #[.slice A xs.length c] w (Gives (rLsw rInt) w xs) :=
 (implx_copypage0 A xs.length c 0 xs w hc.1 rfl (i1_lies h)).mono fun e w' h => by
  obtain ⟨B, n, d, rfl, hnd, hln, ho, hb⟩ := h
  subst hln
  exact ⟨[_], _, rfl, (i1_own hnd ho).1, (i1_own hnd ho).2, hb⟩
theorem _root_.Go.Proofs.YtmiokacihcpepaaGreat.Sx.St.pickT {w0 w : World} {R : List Res} (L L' : List Res) (S : St w0 w (L ++ R)) (is : List Nat) (hL : is.map (fun i => L[i]?) = L'.map some) (hn : is.Nodup) : St w0 w (L' ++ R) := by
 have hlt : ∀ i ∈ is, i < L.length := fun i hi => by
  have h1 : L[i]? ∈ is.map (fun i => L[i]?) := List.mem_map.2 ⟨i, hi, rfl⟩
  rw [hL] at h1
  obtain ⟨s, _, hs⟩ := List.mem_map.1 h1
  exact (List.getElem?_eq_some_iff.1 hs.symm).1
 refine St.pick S (is ++ (List.range R.length).map (fun k => L.length + k)) (L' ++ R) ?_ ?_
 ·
  rw [List.map_append, List.map_append, ← hL]
  congr 1
  ·
   exact List.map_congr_left fun i hi => List.getElem?_append_left (hlt i hi)
  ·
   rw [List.map_map]
   apply List.ext_getElem?
   intro k
   rw [List.getElem?_map, List.getElem?_map]
   rcases Nat.lt_or_ge k R.length with h | h
   ·
    rw [List.getElem?_range h, List.getElem?_eq_getElem h]
    simp [List.getElem?_append_right, h]
   ·
    rw [List.getElem?_eq_none (by simpa using h), List.getElem?_eq_none h]; rfl
 ·
  rw [List.nodup_append]
  refine ⟨hn, ?_, ?_⟩
  ·
   exact List.Pairwise.map (fun k => L.length + k) (fun a b h => by omega) List.nodup_range
  ·
   intro a ha b hb
   obtain ⟨k, _, rfl⟩ := List.mem_map.1 hb
   have := hlt a ha
   omega
theorem implx_copymem (xs : (List (List Int))) (A : Option Addr) (c : Nat) (w : World) (hc : (rLsw (rLsw rInt)).cap xs) (h : rdLst (rLsw rInt) w 0 w.heap.size xs [.slice A xs.length c]) : Calls Tryz.prog 100 #[.slice A xs.length c] w (Gives (rLsw (rLsw rInt)) w xs) := by
 obtain ⟨hl, hce⟩ := hc
 refine Sx.enter (args := [.slice A xs.length c]) Tryz.func100 rfl Tryz.ntmps100 rfl ?_
 refine Sx.C.seq (Sx.C.region ?_)
 refine Sx.G.p (.slice none 0 0) ?_
 refine Sx.G.nil (Sx.E.next (Sx.C.seq (Sx.C.region ?_)))
 refine Sx.G.p (.slice A xs.length c) ?_
 refine Sx.G.p (.int .i64 ((xs.length : Nat) : Int)) ?_
 refine Sx.G.mks (r := (rLsw rInt)) ([] : (List Int)) [.slice none 0 0] 24 26 (.tmp 7) (.tmp 7) 1 24 xs.length rfl (by kernel_rfl) (by kernel_rfl) (by kernel_rfl) rfl rfl (fun w lo hi => Kit.own_nil _ _ _) (by kernel_rfl) (by kernel_rfl) (by simp only [maxLen]; omega) (by omega) (fun b1 hi1 F1 => ?_)
 refine Sx.G.p (.slice (some ⟨b1, 0, none⟩) xs.length xs.length) ?_
 refine Sx.G.nil (Sx.E.next (Sx.C.seq (Sx.C.seq (Sx.C.region ?_))))
 refine Sx.G.p (.slice A xs.length c) ?_
 refine Sx.G.p (.int .i64 ((xs.length : Nat) : Int)) ?_
 refine Sx.G.p (.int .i64 0) ?_
 refine Sx.G.nil (Sx.E.next (Sx.C.block ?_))
 refine Sx.C.loop (α := Nat × Nat × List Nat) (fun x => x.1 ≤ xs.length) (fun x => [(11, .int .i64 (x.1 : Int)), (2, .slice none 0 0), (3, .slice (some ⟨b1, 0, none⟩) xs.length xs.length), (9, .slice A xs.length c), (10, .int .i64 ((xs.length : Nat) : Int))]) (fun x => [ow (rLsw (rLsw rInt)) w.heap.size x.2.1 (xs.take x.1 ++ List.replicate (xs.length - x.1) ([] : (List Int))) [.slice (some ⟨b1, 0, none⟩) xs.length xs.length] x.2.2]) (fun x => xs.length - x.1) (0, hi1, F1) (Nat.zero_le _) (fun a hA => (Sx.Ag.sub hA (by kernel_rfl))) (fun w' S => by have S2 := Sx.St.widen S 0 rfl (Nat.le_refl _) (S.hi 0 _ rfl); exact S2) (fun x hx => ?_)
 obtain ⟨i, hi, F⟩ := x
 dsimp only at hx
 obtain hi' := hx
 refine Sx.C.seq (Sx.C.region ?_)
 refine Sx.G.p (.bool (decide ((i : Int) < ((xs.length : Nat) : Int)))) ?_
 refine Sx.G.nil (Sx.E.next (Sx.C.seq ?_))
 cases hc2 : (decide ((i : Int) < ((xs.length : Nat) : Int)))
 ·
  have hb2 := hc2
  replace hc2 := of_decide_eq_false hc2
  refine Sx.C.nn ?_
  refine Sx.C.exit (Sx.E.then_exit (Sx.E.then_exit (Sx.E.block_hit (Sx.E.next (Sx.C.seq (Sx.C.region ?_))))))
  refine Sx.G.p (.slice (some ⟨b1, 0, none⟩) xs.length xs.length) ?_
  refine Sx.G.p (.slice (some ⟨b1, 0, none⟩) xs.length xs.length) ?_
  refine Sx.G.nil (Sx.E.next (Sx.C.ret ?_))
  refine Sx.E.ret1 (.slice (some ⟨b1, 0, none⟩) xs.length xs.length) rfl (by kernel_rfl) (fun w S => ?_)
  have h2' : xs.take i = xs := List.take_of_length_le (by omega)
  rw [h2', show xs.length - i = 0 by omega, List.replicate_zero, List.append_nil] at S
  exact ⟨[_], F, rfl, S.own 0 rfl, S.nodup 0 rfl, S.below⟩
 ·
  have hb2 := hc2
  replace hc2 := of_decide_eq_true hc2
  refine Sx.C.yy ?_
  refine Sx.C.skip (Sx.E.next (Sx.C.seq ?_))
  have hlt : i < xs.length := by omega
  refine Sx.C.open (r := (rLsw rInt)) (pre := xs.take i) (x := ([] : (List Int))) (post := List.replicate (xs.length - (i + 1)) ([] : (List Int))) (by rw [show xs.length - i = (xs.length - (i + 1)) + 1 by omega, List.replicate_succ]) (by decide) (fun b off es F1 Fi F2 eA eF hes hm hmc => ?_)
  obtain ⟨rfl, rfl⟩ : b1 = b ∧ 0 = off := by cases eA; exact ⟨rfl, rfl⟩
  subst eF
  refine Sx.C.know (p := ∃ A0 c0, es = [.slice A0 0 c0]) (fun w S => Kit.open_nil (St.at_ S 1 rfl).1) ?_
  rintro ⟨z0, d0, rfl⟩
  refine Sx.C.block (Sx.C.seq (Sx.C.region ?_))
  refine Sx.G.p (.int .i64 (i : Int)) ?_
  obtain ⟨b3, f3, es3, eA3, hr3, hl3, hm3⟩ := Sx.old_elem (by decide) h i (by omega)
  subst eA3
  obtain ⟨x3, hx3⟩ : ∃ z_, z_ = (xs[i]'(by omega)) := ⟨_, rfl⟩
  rw [← hx3] at hr3
  replace hr3 : rdLst rInt w 0 w.heap.size x3 es3 := hr3
  obtain ⟨P3, rfl⟩ := lst_rd hr3
  obtain ⟨A3, c3, e3, -⟩ := lst_val hr3
  subst e3
  refine Sx.G.elem 24 26 (.tmp 9) (.tmp 11) 1 24 b3 f3 xs.length c i rfl (by kernel_rfl) (by kernel_rfl) (by kernel_rfl) (by kernel_rfl) (by omega) ?_
  refine Sx.G.ldr1 26 (.tmp 14) b3 ((f3 + i * 1) + 0) (.slice A3 x3.length c3) rfl (by kernel_rfl) (by kernel_rfl) (fun w S => hm3 w _ S 0 _ rfl) (by kernel_rfl) ?_
  refine Sx.G.p (.int .i64 (i : Int)) ?_
  refine Sx.G.p (.slice A3 x3.length c3) ?_
  refine Sx.G.nil (Sx.E.next (Sx.C.region ?_))
  refine Sx.G.p (.slice (some ⟨b1, 0, none⟩) xs.length xs.length) ?_
  refine Sx.G.p (.int .i64 (i : Int)) ?_
  refine Sx.G.p (.slice A3 x3.length c3) ?_
  refine Sx.G.c 155 #[.slice A3 x3.length c3] (fun w4 S => (implx_copypage x3 A3 c3 _ (hce _ (hx3 ▸ List.getElem_mem _)) (St.old (r := (rLsw rInt)) S hr3)).mono fun e w4' hp => ?_)
  obtain ⟨cs, F, rfl, ho, hF, hb⟩ := hp
  obtain ⟨u4, rfl⟩ := lsw_own ho
  obtain ⟨A4, c4, e4, -⟩ := lst_val ((rLsw _).reads ho)
  subst e4
  generalize F = F4 at ho hF
  refine ⟨_, _, rfl, (St.got S hb ho hF), ?_⟩
  clear S hb ho hF
  refine Sx.G.elem 24 26 (.tmp 16) (.tmp 17) 1 24 b1 0 xs.length xs.length i rfl (by kernel_rfl) (by kernel_rfl) (by kernel_rfl) (by kernel_rfl) (by omega) ?_
  refine Sx.G.hw i [.slice A4 x3.length c4] .a1 (by rw [List.length_take]; omega) ?_
  refine Sx.G.nil (Sx.E.block_normal (Sx.E.next (Sx.C.region ?_)))
  refine Sx.G.q (.int .i64 (IntKind.i64.wrap ((i : Int) + 1))) (.int .i64 ((i + 1 : Nat) : Int)) (congrArg (Value.int .i64) (Sx.wrap_up i (by omega))) ?_
  refine Sx.G.p (.int .i64 ((i + 1 : Nat) : Int)) ?_
  refine Sx.G.nil ?_
  exact Sx.E.again (i + 1, max hi w4'.heap.size, _) (show i + 1 ≤ xs.length by omega) (show xs.length - (i + 1) < xs.length - i by omega) (fun a hA => (Sx.Ag.sub hA (by kernel_rfl))) (fun w' S => by
   replace S := St.pick S [1, 0] [_, _] rfl (by decide)
   have S3 := Sx.St.closeW S (by decide) xs.length xs.length (by simp [List.length_take]; omega) hmc
   rw [hx3] at S3
   rw [show xs.take i ++ xs[i] :: List.replicate (xs.length - (i + 1)) ([] : (List Int)) = xs.take (i + 1) ++ List.replicate (xs.length - (i + 1)) ([] : (List Int)) by rw [Kit.take_step hlt, List.append_assoc]; rfl] at S3
   exact S3
   )
theorem implx_another_g (g : gT) (cs : List Value) (w : World) (hc : rG.cap g) (h : rG.rd w 0 w.heap.size g cs) : Calls Tryz.prog 112 #[.agg cs.toArray] w (Gives rG w g) := by
 obtain ⟨q0, q1, q2, q3⟩ := rG_len hc
 have hr := h
 obtain ⟨P0, P1, P2, P3, rfl, h0, h1, h2, h3⟩ := rG_rd h
 obtain ⟨PA0, Pc0, e0, hP0⟩ := lst_val h0
 subst e0
 obtain ⟨PA1, Pc1, e1, hP1⟩ := lst_val h1
 subst e1
 obtain ⟨PA2, Pc2, e2, hP2⟩ := lst_val h2
 subst e2
 obtain ⟨PA3, Pc3, e3, hP3⟩ := lst_val h3
 subst e3
 refine Sx.enter (args := [.agg #[.slice PA0 g.prog.length Pc0, .int .i64 g.a, .int .i64 g.pc, .slice PA1 g.wr.length Pc1, .slice PA2 g.lv.length Pc2, .int .i64 g.t.1, .int .i64 g.t.2.1, .bool g.t.2.2, .int .i64 g.pd, .int .i64 g.x.1, .int .i64 g.x.2.1, .bool g.x.2.2.1, .int .i64 g.x.2.2.2, .bool g.hl, .slice PA3 g.seen.length Pc3]]) Tryz.func112 rfl Tryz.ntmps112 rfl ?_
 refine Sx.C.seq (Sx.C.region ?_)
 refine Sx.G.b [.slice PA0 g.prog.length Pc0, .int .i64 g.a, .int .i64 g.pc, .slice PA1 g.wr.length Pc1, .slice PA2 g.lv.length Pc2, .int .i64 g.t.1, .int .i64 g.t.2.1, .bool g.t.2.2, .int .i64 g.pd, .int .i64 g.x.1, .int .i64 g.x.2.1, .bool g.x.2.2.1, .int .i64 g.x.2.2.2, .bool g.hl, .slice PA3 g.seen.length Pc3] (fun b1 => ?_)
 refine Sx.G.ar [.slice none 0 0, .int .i64 0, .int .i64 0, .slice none 0 0, .slice none 0 0, .int .i64 0, .int .i64 0, .bool false, .int .i64 0, .int .i64 0, .int .i64 0, .bool false, .int .i64 0, .bool false, .slice none 0 0] (fun b2 => ?_)
 refine Sx.G.nil (Sx.E.next (Sx.C.seq (Sx.C.region ?_)))
 refine Sx.G.lw .m1 ?_
 refine Sx.G.c 156 #[.agg #[.slice PA0 g.prog.length Pc0, .int .i64 g.a, .int .i64 g.pc, .slice PA1 g.wr.length Pc1, .slice PA2 g.lv.length Pc2, .int .i64 g.t.1, .int .i64 g.t.2.1, .bool g.t.2.2, .int .i64 g.pd, .int .i64 g.x.1, .int .i64 g.x.2.1, .bool g.x.2.2.1, .int .i64 g.x.2.2.2, .bool g.hl, .slice PA3 g.seen.length Pc3]] (fun w3 S => (impl_copyM g _ _ hc (St.old S hr)).mono fun e w3' hp => ?_)
 obtain ⟨b3, A3_0, c3_0, l3_0, h3_0, F3_0, A3_1, c3_1, l3_1, h3_1, F3_1, A3_2, c3_2, l3_2, h3_2, F3_2, A3_3, c3_3, l3_3, h3_3, F3_3, rfl, U⟩ := hp
 refine ⟨_, _, rfl, (Sx.St.join S U), ?_⟩
 clear S U
 refine Sx.G.c 158 #[.pointer (some ⟨b3, 0, none⟩)] (fun w4 S => (impl_guestM g S).mono fun e w4' hp => ?_)
 obtain ⟨rfl, S'⟩ := hp
 refine ⟨_, _, rfl, S', ?_⟩
 clear S S'
 refine Sx.G.sw [.slice A3_0 g.prog.length c3_0, .int .i64 g.a, .int .i64 g.pc, .slice A3_1 g.wr.length c3_1, .slice A3_2 g.lv.length c3_2, .int .i64 g.t.1, .int .i64 g.t.2.1, .bool g.t.2.2, .int .i64 g.pd, .int .i64 g.x.1, .int .i64 g.x.2.1, .bool g.x.2.2.1, .int .i64 g.x.2.2.2, .bool g.hl, .slice A3_3 g.seen.length c3_3] .a5 ?_
 refine Sx.G.nil (Sx.E.next (Sx.C.ret ?_))
 refine Sx.E.retc b2 5 [.slice A3_0 g.prog.length c3_0, .int .i64 g.a, .int .i64 g.pc, .slice A3_1 g.wr.length c3_1, .slice A3_2 g.lv.length c3_2, .int .i64 g.t.1, .int .i64 g.t.2.1, .bool g.t.2.2, .int .i64 g.pd, .int .i64 g.x.1, .int .i64 g.x.2.1, .bool g.x.2.2.1, .int .i64 g.x.2.2.2, .bool g.hl, .slice A3_3 g.seen.length c3_3] rfl (by kernel_rfl) rfl (by kernel_rfl) (by kernel_rfl) (fun w S => ?_)
 obtain ⟨GW2, S⟩ := S.weak 2 rfl
 obtain ⟨GW3, S⟩ := S.weak 3 rfl
 obtain ⟨ho, hF⟩ := rG_shut (g := g) S 1 rfl 2 rfl 3 rfl 4 rfl (by decide) (by decide) (by decide) (by decide) (by decide) (by decide)
 exact ⟨_, _, rfl, ho, hF, S.below⟩
theorem implx_another (g : gT) (cs : List Value) (w : World) (hc : wG.cap g) (h : wG.rd w 0 w.heap.size g cs) : Calls Tryz.prog 112 #[.agg cs.toArray] w (Gives wG w g) := (implx_another_g g cs w (cap_G hc) (rd_G h)).mono weak_G
theorem implx_copyguests (xs : (List gT)) (A : Option Addr) (c : Nat) (w : World) (hc : (rLsw wG).cap xs) (h : rdLst wG w 0 w.heap.size xs [.slice A xs.length c]) : Calls Tryz.prog 101 #[.slice A xs.length c] w (Gives (rLsw wG) w xs) := by
 obtain ⟨hl, hce⟩ := hc
 refine Sx.enter (args := [.slice A xs.length c]) Tryz.func101 rfl Tryz.ntmps101 rfl ?_
 refine Sx.C.seq (Sx.C.region ?_)
 refine Sx.G.p (.slice none 0 0) ?_
 refine Sx.G.nil (Sx.E.next (Sx.C.seq (Sx.C.region ?_)))
 refine Sx.G.p (.slice A xs.length c) ?_
 refine Sx.G.p (.int .i64 ((xs.length : Nat) : Int)) ?_
 refine Sx.G.mks (r := wG) ({ prog := [], a := 0, pc := 0, wr := [], lv := [], t := (0, 0, false), pd := 0, x := (0, 0, false, 0), hl := false, seen := [] } : gT) [.slice none 0 0, .int .i64 0, .int .i64 0, .slice none 0 0, .slice none 0 0, .int .i64 0, .int .i64 0, .bool false, .int .i64 0, .int .i64 0, .int .i64 0, .bool false, .int .i64 0, .bool false, .slice none 0 0] 25 56 (.tmp 7) (.tmp 7) 15 184 xs.length rfl (by kernel_rfl) (by kernel_rfl) (by kernel_rfl) rfl rfl (fun w lo hi => Kit.own_zero_Guest w lo hi) (by kernel_rfl) (by kernel_rfl) (by simp only [maxLen]; omega) (by omega) (fun b1 hi1 F1 => ?_)
 refine Sx.G.p (.slice (some ⟨b1, 0, none⟩) xs.length xs.length) ?_
 refine Sx.G.nil (Sx.E.next (Sx.C.seq (Sx.C.seq (Sx.C.region ?_))))
 refine Sx.G.p (.slice A xs.length c) ?_
 refine Sx.G.p (.int .i64 ((xs.length : Nat) : Int)) ?_
 refine Sx.G.p (.int .i64 0) ?_
 refine Sx.G.nil (Sx.E.next (Sx.C.block ?_))
 refine Sx.C.loop (α := Nat × Nat × List Nat) (fun x => x.1 ≤ xs.length) (fun x => [(11, .int .i64 (x.1 : Int)), (2, .slice none 0 0), (3, .slice (some ⟨b1, 0, none⟩) xs.length xs.length), (9, .slice A xs.length c), (10, .int .i64 ((xs.length : Nat) : Int))]) (fun x => [ow (rLsw wG) w.heap.size x.2.1 (xs.take x.1 ++ List.replicate (xs.length - x.1) ({ prog := [], a := 0, pc := 0, wr := [], lv := [], t := (0, 0, false), pd := 0, x := (0, 0, false, 0), hl := false, seen := [] } : gT)) [.slice (some ⟨b1, 0, none⟩) xs.length xs.length] x.2.2]) (fun x => xs.length - x.1) (0, hi1, F1) (Nat.zero_le _) (fun a hA => (Sx.Ag.sub hA (by kernel_rfl))) (fun w' S => by have S2 := Sx.St.widen S 0 rfl (Nat.le_refl _) (S.hi 0 _ rfl); exact S2) (fun x hx => ?_)
 obtain ⟨i, hi, F⟩ := x
 dsimp only at hx
 obtain hi' := hx
 refine Sx.C.seq (Sx.C.region ?_)
 refine Sx.G.p (.bool (decide ((i : Int) < ((xs.length : Nat) : Int)))) ?_
 refine Sx.G.nil (Sx.E.next (Sx.C.seq ?_))
 cases hc2 : (decide ((i : Int) < ((xs.length : Nat) : Int)))
 ·
  have hb2 := hc2
  replace hc2 := of_decide_eq_false hc2
  refine Sx.C.nn ?_
  refine Sx.C.exit (Sx.E.then_exit (Sx.E.then_exit (Sx.E.block_hit (Sx.E.next (Sx.C.seq (Sx.C.region ?_))))))
  refine Sx.G.p (.slice (some ⟨b1, 0, none⟩) xs.length xs.length) ?_
  refine Sx.G.p (.slice (some ⟨b1, 0, none⟩) xs.length xs.length) ?_
  refine Sx.G.nil (Sx.E.next (Sx.C.ret ?_))
  refine Sx.E.ret1 (.slice (some ⟨b1, 0, none⟩) xs.length xs.length) rfl (by kernel_rfl) (fun w S => ?_)
  have h2' : xs.take i = xs := List.take_of_length_le (by omega)
  rw [h2', show xs.length - i = 0 by omega, List.replicate_zero, List.append_nil] at S
  exact ⟨[_], F, rfl, S.own 0 rfl, S.nodup 0 rfl, S.below⟩
 ·
  have hb2 := hc2
  replace hc2 := of_decide_eq_true hc2
  refine Sx.C.yy ?_
  refine Sx.C.skip (Sx.E.next (Sx.C.seq ?_))
  have hlt : i < xs.length := by omega
  refine Sx.C.open (r := wG) (pre := xs.take i) (x := ({ prog := [], a := 0, pc := 0, wr := [], lv := [], t := (0, 0, false), pd := 0, x := (0, 0, false, 0), hl := false, seen := [] } : gT)) (post := List.replicate (xs.length - (i + 1)) ({ prog := [], a := 0, pc := 0, wr := [], lv := [], t := (0, 0, false), pd := 0, x := (0, 0, false, 0), hl := false, seen := [] } : gT)) (by rw [show xs.length - i = (xs.length - (i + 1)) + 1 by omega, List.replicate_succ]) (by decide) (fun b off es F1 Fi F2 eA eF hes hm hmc => ?_)
  obtain ⟨rfl, rfl⟩ : b1 = b ∧ 0 = off := by cases eA; exact ⟨rfl, rfl⟩
  subst eF
  refine Sx.C.know (p := ∃ A0 A1 A2 A3 c0 c1 c2 c3, es = [.slice A0 0 c0, .int .i64 ({ prog := [], a := 0, pc := 0, wr := [], lv := [], t := (0, 0, false), pd := 0, x := (0, 0, false, 0), hl := false, seen := [] } : gT).a, .int .i64 ({ prog := [], a := 0, pc := 0, wr := [], lv := [], t := (0, 0, false), pd := 0, x := (0, 0, false, 0), hl := false, seen := [] } : gT).pc, .slice A1 0 c1, .slice A2 0 c2, .int .i64 ({ prog := [], a := 0, pc := 0, wr := [], lv := [], t := (0, 0, false), pd := 0, x := (0, 0, false, 0), hl := false, seen := [] } : gT).t.1, .int .i64 ({ prog := [], a := 0, pc := 0, wr := [], lv := [], t := (0, 0, false), pd := 0, x := (0, 0, false, 0), hl := false, seen := [] } : gT).t.2.1, .bool ({ prog := [], a := 0, pc := 0, wr := [], lv := [], t := (0, 0, false), pd := 0, x := (0, 0, false, 0), hl := false, seen := [] } : gT).t.2.2, .int .i64 ({ prog := [], a := 0, pc := 0, wr := [], lv := [], t := (0, 0, false), pd := 0, x := (0, 0, false, 0), hl := false, seen := [] } : gT).pd, .int .i64 ({ prog := [], a := 0, pc := 0, wr := [], lv := [], t := (0, 0, false), pd := 0, x := (0, 0, false, 0), hl := false, seen := [] } : gT).x.1, .int .i64 ({ prog := [], a := 0, pc := 0, wr := [], lv := [], t := (0, 0, false), pd := 0, x := (0, 0, false, 0), hl := false, seen := [] } : gT).x.2.1, .bool ({ prog := [], a := 0, pc := 0, wr := [], lv := [], t := (0, 0, false), pd := 0, x := (0, 0, false, 0), hl := false, seen := [] } : gT).x.2.2.1, .int .i64 ({ prog := [], a := 0, pc := 0, wr := [], lv := [], t := (0, 0, false), pd := 0, x := (0, 0, false, 0), hl := false, seen := [] } : gT).x.2.2.2, .bool ({ prog := [], a := 0, pc := 0, wr := [], lv := [], t := (0, 0, false), pd := 0, x := (0, 0, false, 0), hl := false, seen := [] } : gT).hl, .slice A3 0 c3]) (fun w S => Kit.open_zero_Guest (St.at_ S 1 rfl).1) ?_
  rintro ⟨z0, z1, z2, z3, d0, d1, d2, d3, rfl⟩
  refine Sx.C.block (Sx.C.seq (Sx.C.region ?_))
  refine Sx.G.p (.int .i64 (i : Int)) ?_
  obtain ⟨b3, f3, es3, eA3, hr3, hl3, hm3⟩ := Sx.old_elem (by decide) h i (by omega)
  subst eA3
  obtain ⟨x3, hx3⟩ : ∃ z_, z_ = (xs[i]'(by omega)) := ⟨_, rfl⟩
  rw [← hx3] at hr3
  have hR3 := hr3
  obtain ⟨P3_0, P3_1, P3_2, P3_3, rfl, hf3_0, hf3_1, hf3_2, hf3_3⟩ := wG_rd hr3
  obtain ⟨A3_0, c3_0, e3_0, -⟩ := lst_val hf3_0
  subst e3_0
  obtain ⟨A3_1, c3_1, e3_1, -⟩ := lst_val hf3_1
  subst e3_1
  obtain ⟨A3_2, c3_2, e3_2, -⟩ := lst_val hf3_2
  subst e3_2
  obtain ⟨A3_3, c3_3, e3_3, -⟩ := lst_val hf3_3
  subst e3_3
  refine Sx.G.elem 25 56 (.tmp 9) (.tmp 11) 15 184 b3 f3 xs.length c i rfl (by kernel_rfl) (by kernel_rfl) (by kernel_rfl) (by kernel_rfl) (by omega) ?_
  refine Sx.G.ldr 56 (.tmp 14) b3 (f3 + i * 15) [.slice A3_0 x3.prog.length c3_0, .int .i64 x3.a, .int .i64 x3.pc, .slice A3_1 x3.wr.length c3_1, .slice A3_2 x3.lv.length c3_2, .int .i64 x3.t.1, .int .i64 x3.t.2.1, .bool x3.t.2.2, .int .i64 x3.pd, .int .i64 x3.x.1, .int .i64 x3.x.2.1, .bool x3.x.2.2.1, .int .i64 x3.x.2.2.2, .bool x3.hl, .slice A3_3 x3.seen.length c3_3] rfl (by kernel_rfl) (by kernel_rfl) (fun w S => hm3 w _ S) (by kernel_rfl) (by kernel_rfl) ?_
  refine Sx.G.ar [.slice none 0 0, .int .i64 0, .int .i64 0, .slice none 0 0, .slice none 0 0, .int .i64 0, .int .i64 0, .bool false, .int .i64 0, .int .i64 0, .int .i64 0, .bool false, .int .i64 0, .bool false, .slice none 0 0] (fun b4 => ?_)
  refine Sx.G.p (.int .i64 (i : Int)) ?_
  refine Sx.G.sw [.slice A3_0 x3.prog.length c3_0, .int .i64 x3.a, .int .i64 x3.pc, .slice A3_1 x3.wr.length c3_1, .slice A3_2 x3.lv.length c3_2, .int .i64 x3.t.1, .int .i64 x3.t.2.1, .bool x3.t.2.2, .int .i64 x3.pd, .int .i64 x3.x.1, .int .i64 x3.x.2.1, .bool x3.x.2.2.1, .int .i64 x3.x.2.2.2, .bool x3.hl, .slice A3_3 x3.seen.length c3_3] .a0 ?_
  refine Sx.G.nil (Sx.E.next (Sx.C.region ?_))
  refine Sx.G.p (.slice (some ⟨b1, 0, none⟩) xs.length xs.length) ?_
  refine Sx.G.p (.int .i64 (i : Int)) ?_
  refine Sx.G.lw .m0 ?_
  refine Sx.G.c 112 #[.agg #[.slice A3_0 x3.prog.length c3_0, .int .i64 x3.a, .int .i64 x3.pc, .slice A3_1 x3.wr.length c3_1, .slice A3_2 x3.lv.length c3_2, .int .i64 x3.t.1, .int .i64 x3.t.2.1, .bool x3.t.2.2, .int .i64 x3.pd, .int .i64 x3.x.1, .int .i64 x3.x.2.1, .bool x3.x.2.2.1, .int .i64 x3.x.2.2.2, .bool x3.hl, .slice A3_3 x3.seen.length c3_3]] (fun w5 S => (implx_another x3 _ _ (hce _ (hx3 ▸ List.getElem_mem _)) (St.old S hR3)).mono fun e w5' hp => ?_)
  obtain ⟨cs, F, rfl, ho, hF, hb⟩ := hp
  obtain ⟨P5_0, P5_1, P5_2, P5_3, G5_0, G5_1, G5_2, G5_3, rfl, -, S'⟩ := wG_open2 (St.got S hb ho hF)
  obtain ⟨A5_0, c5_0, e5_0, -⟩ := lst_val (S'.reads 0 rfl)
  subst e5_0
  obtain ⟨A5_1, c5_1, e5_1, -⟩ := lst_val (S'.reads 1 rfl)
  subst e5_1
  obtain ⟨A5_2, c5_2, e5_2, -⟩ := lst_val (S'.reads 2 rfl)
  subst e5_2
  obtain ⟨A5_3, c5_3, e5_3, -⟩ := lst_val (S'.reads 3 rfl)
  subst e5_3
  refine ⟨_, _, rfl, S', ?_⟩
  clear S S' ho hF hb
  refine Sx.G.elem 25 56 (.tmp 16) (.tmp 17) 15 184 b1 0 xs.length xs.length i rfl (by kernel_rfl) (by kernel_rfl) (by kernel_rfl) (by kernel_rfl) (by omega) ?_
  refine Sx.G.hw i [.slice A5_0 x3.prog.length c5_0, .int .i64 x3.a, .int .i64 x3.pc, .slice A5_1 x3.wr.length c5_1, .slice A5_2 x3.lv.length c5_2, .int .i64 x3.t.1, .int .i64 x3.t.2.1, .bool x3.t.2.2, .int .i64 x3.pd, .int .i64 x3.x.1, .int .i64 x3.x.2.1, .bool x3.x.2.2.1, .int .i64 x3.x.2.2.2, .bool x3.hl, .slice A5_3 x3.seen.length c5_3] .a5 (by rw [List.length_take]; omega) ?_
  refine Sx.G.nil (Sx.E.block_normal (Sx.E.next (Sx.C.region ?_)))
  refine Sx.G.q (.int .i64 (IntKind.i64.wrap ((i : Int) + 1))) (.int .i64 ((i + 1 : Nat) : Int)) (congrArg (Value.int .i64) (Sx.wrap_up i (by omega))) ?_
  refine Sx.G.p (.int .i64 ((i + 1 : Nat) : Int)) ?_
  refine Sx.G.nil ?_
  exact Sx.E.again (i + 1, max hi w5'.heap.size, _) (show i + 1 ≤ xs.length by omega) (show xs.length - (i + 1) < xs.length - i by omega) (fun a hA => (Sx.Ag.sub hA (by kernel_rfl))) (fun w' S => by
   replace S := wG_shut2 (g := x3) S
   replace S := St.pick S [2, 0] [_, _] rfl (by decide)
   have S3 := Sx.St.closeW S (by decide) xs.length xs.length (by simp [List.length_take]; omega) hmc
   rw [hx3] at S3
   rw [show xs.take i ++ xs[i] :: List.replicate (xs.length - (i + 1)) ({ prog := [], a := 0, pc := 0, wr := [], lv := [], t := (0, 0, false), pd := 0, x := (0, 0, false, 0), hl := false, seen := [] } : gT) = xs.take (i + 1) ++ List.replicate (xs.length - (i + 1)) ({ prog := [], a := 0, pc := 0, wr := [], lv := [], t := (0, 0, false), pd := 0, x := (0, 0, false, 0), hl := false, seen := [] } : gT) by rw [Kit.take_step hlt, List.append_assoc]; rfl] at S3
   exact S3
   )
theorem implx_copybare (x : bT) (cs : List Value) (w : World) (hc : wB.cap x) (h : wB.rd w 0 w.heap.size x cs) : Calls Tryz.prog 45 #[.agg cs.toArray] w (Gives rB w x) := by
 obtain ⟨hcap0, hcap1, hcap2, hcap3⟩ := hc
 have hlo : x.outs.length ≤ 1048576 := hcap2.1
 have hR := h
 obtain ⟨hP0, hP1, hP2, rfl, hf0, hf1, hf2⟩ := wB_rd h
 obtain ⟨hA0, hK0, he0, -⟩ := lst_val hf0
 subst he0
 obtain ⟨hA1, hK1, he1, -⟩ := lst_val hf1
 subst he1
 obtain ⟨hA2, hK2, he2, -⟩ := lst_val hf2
 subst he2
 refine Sx.enter (args := [.agg #[.slice hA0 x.mem.length hK0, .slice hA1 x.gs.length hK1, .slice hA2 x.outs.length hK2, .int .i64 x.pd]]) Tryz.func45 rfl Tryz.ntmps45 rfl ?_
 refine Sx.C.seq (Sx.C.region ?_)
 refine Sx.G.b [.slice hA0 x.mem.length hK0, .slice hA1 x.gs.length hK1, .slice hA2 x.outs.length hK2, .int .i64 x.pd] (fun b1 => ?_)
 refine Sx.G.ar [.slice none 0 0, .slice none 0 0, .slice none 0 0, .int .i64 0] (fun b2 => ?_)
 refine Sx.G.nil (Sx.E.next (Sx.C.seq ?_))
 refine Sx.C.draw (.take 0 (.take 1 (.take 3 (.take 4 (.take 6 (.take 7 (.take 9 (.take 10 (.alone 2 (.alone 5 (.alone 8 (.take 11 (.alone 12 .nil))))))))))))) [vr b1 [.slice hA0 x.mem.length hK0, .slice hA1 x.gs.length hK1, .slice hA2 x.outs.length hK2, .int .i64 x.pd]] (fun w S => St.pick S [1] _ rfl (by decide)) (by kernel_rfl) (by kernel_rfl) (by kernel_rfl) ?_
 refine Sx.GT.p (.pointer (some ⟨b1, 0, none⟩)) ?_
 refine Sx.GT.g (.slice hA0 x.mem.length hK0) .m0 .m0 ?_
 refine Sx.GT.p (.pointer (some ⟨b1, 1, none⟩)) ?_
 refine Sx.GT.g (.slice hA1 x.gs.length hK1) .m0 .m1 ?_
 refine Sx.GT.p (.pointer (some ⟨b1, 2, none⟩)) ?_
 refine Sx.GT.g (.slice hA2 x.outs.length hK2) .m0 .m2 ?_
 refine Sx.GT.p (.pointer (some ⟨b1, 3, none⟩)) ?_
 refine Sx.GT.g (.int .i64 x.pd) .m0 .m3 ?_
 refine Sx.GT.alone (Sx.Alone.c 100 #[.slice hA0 x.mem.length hK0] (fun w3 S => (implx_copymem x.mem hA0 hK0 _ hcap0 (St.old (r := (rLsw (rLsw rInt))) S hf0)).mono fun e w3' hp => ?_))
 obtain ⟨cs, F, rfl, ho, hF, hb⟩ := hp
 obtain ⟨u3, rfl⟩ := lsw_own ho
 obtain ⟨A3, c3, e3, -⟩ := lst_val ((rLsw _).reads ho)
 subst e3
 generalize F = F3 at ho hF
 refine ⟨_, _, rfl, (St.got S hb ho hF), (fun w S => St.pick S [2] _ rfl (by decide)), ?_⟩
 clear S hb ho hF
 refine Sx.GT.alone (Sx.Alone.c 101 #[.slice hA1 x.gs.length hK1] (fun w4 S => (implx_copyguests x.gs hA1 hK1 _ hcap1 (St.old (r := (rLsw wG)) S hf1)).mono fun e w4' hp => ?_))
 obtain ⟨cs, F, rfl, ho, hF, hb⟩ := hp
 obtain ⟨u4, rfl⟩ := lsw_own ho
 obtain ⟨A4, c4, e4, -⟩ := lst_val ((rLsw _).reads ho)
 subst e4
 generalize F = F4 at ho hF
 refine ⟨_, _, rfl, (St.got S hb ho hF), (fun w S => St.pick S [3] _ rfl (by decide)), ?_⟩
 clear S hb ho hF
 refine Sx.GT.alone (Sx.Alone.c 102 #[.slice hA2 x.outs.length hK2] (fun w5 S => (Guests.lib_cloneInt x.outs hA2 hK2 _ hlo (St.old (r := (rLsw rInt)) S hf2)).mono fun e w5' hp => ?_))
 obtain ⟨cs, F, rfl, ho, hF, hb⟩ := hp
 obtain ⟨u5, rfl⟩ := lst_own ho
 obtain ⟨A5, c5, e5, -⟩ := lst_val ((St.got S hb ho hF).reads 0 rfl)
 subst e5
 generalize F = F5 at ho hF
 refine ⟨_, _, rfl, (St.got S hb ho hF), (fun w S => St.pick S [4] _ rfl (by decide)), ?_⟩
 clear S hb ho hF
 refine Sx.GT.p (.agg #[.slice A3 x.mem.length c3, .slice A4 x.gs.length c4, .slice A5 x.outs.length c5, .int .i64 x.pd]) ?_
 refine Sx.GT.alone (Sx.Alone.sw [.slice A3 x.mem.length c3, .slice A4 x.gs.length c4, .slice A5 x.outs.length c5, .int .i64 x.pd] .a3 (fun w S => St.pick S [4] _ rfl (by decide)) ?_)
 refine Sx.GT.nil (Sx.E.next (Sx.C.ret ?_))
 refine Sx.E.retc b2 3 [.slice A3 x.mem.length c3, .slice A4 x.gs.length c4, .slice A5 x.outs.length c5, .int .i64 x.pd] rfl (by kernel_rfl) rfl (by kernel_rfl) (by kernel_rfl) (fun w S => ?_)
 obtain ⟨ho, hF⟩ := rB_shut (g := x) S 2 rfl 1 rfl 0 rfl (by decide) (by decide) (by decide)
 exact ⟨_, _, rfl, ho, hF, S.below⟩
theorem implx_bI (A : Option Addr) (n c : Nat) (w : World)  : Calls Tryz.prog 150 #[.slice A n c] w (fun e w' => e = .returned (.agg #[.slice A n c, .int .i64 40]) ∧ Below w.heap.size w w') := by
 refine Sx.enter (args := [.slice A n c]) Tryz.func150 rfl Tryz.ntmps150 rfl ?_
 refine Sx.C.seq (Sx.C.region ?_)
 refine Sx.G.ar [.slice none 0 0, .int .i64 0] (fun b1 => ?_)
 refine Sx.G.nil (Sx.E.next (Sx.C.seq (Sx.C.region ?_)))
 refine Sx.G.p (.slice A n c) ?_
 refine Sx.G.p (.agg #[.slice A n c, .int .i64 40]) ?_
 refine Sx.G.sw [.slice A n c, .int .i64 40] .a0 ?_
 refine Sx.G.nil (Sx.E.next (Sx.C.ret ?_))
 refine Sx.E.retc b1 0 [.slice A n c, .int .i64 40] rfl (by kernel_rfl) rfl (by kernel_rfl) (by kernel_rfl) (fun w S => ?_)
 exact ⟨rfl, S.below⟩
theorem implx_okI (A : Option Addr) (n c : Nat) (m : Int) (w : World)  : Calls Tryz.prog 151 #[.agg #[.slice A n c, .int .i64 m]] w (fun e w' => e = .returned (.bool (decide (((n : Nat) : Int) ≤ m))) ∧ Below w.heap.size w w') := by
 refine Sx.enter (args := [.agg #[.slice A n c, .int .i64 m]]) Tryz.func151 rfl Tryz.ntmps151 rfl ?_
 refine Sx.C.seq (Sx.C.region ?_)
 refine Sx.G.b [.slice A n c, .int .i64 m] (fun b1 => ?_)
 refine Sx.G.p (.bool false) ?_
 refine Sx.G.nil (Sx.E.next (Sx.C.seq (Sx.C.region ?_)))
 refine Sx.G.p (.pointer (some ⟨b1, 0, none⟩)) ?_
 refine Sx.G.g (.slice A n c) .m0 .m0 ?_
 refine Sx.G.p (.int .i64 ((n : Nat) : Int)) ?_
 refine Sx.G.p (.pointer (some ⟨b1, 1, none⟩)) ?_
 refine Sx.G.g (.int .i64 m) .m0 .m1 ?_
 refine Sx.G.p (.bool (decide (((n : Nat) : Int) ≤ m))) ?_
 refine Sx.G.p (.bool (decide (((n : Nat) : Int) ≤ m))) ?_
 refine Sx.G.nil (Sx.E.next (Sx.C.ret ?_))
 refine Sx.E.ret1 (.bool (decide (((n : Nat) : Int) ≤ m))) rfl (by kernel_rfl) (fun w S => ?_)
 exact ⟨rfl, S.below⟩
theorem implx_bG (A : Option Addr) (n c : Nat) (w : World)  : Calls Tryz.prog 197 #[.slice A n c] w (fun e w' => e = .returned (.agg #[.slice A n c, .int .i64 2]) ∧ Below w.heap.size w w') := by
 refine Sx.enter (args := [.slice A n c]) Tryz.func197 rfl Tryz.ntmps197 rfl ?_
 refine Sx.C.seq (Sx.C.region ?_)
 refine Sx.G.ar [.slice none 0 0, .int .i64 0] (fun b1 => ?_)
 refine Sx.G.nil (Sx.E.next (Sx.C.seq (Sx.C.region ?_)))
 refine Sx.G.p (.slice A n c) ?_
 refine Sx.G.p (.agg #[.slice A n c, .int .i64 2]) ?_
 refine Sx.G.sw [.slice A n c, .int .i64 2] .a0 ?_
 refine Sx.G.nil (Sx.E.next (Sx.C.ret ?_))
 refine Sx.E.retc b1 0 [.slice A n c, .int .i64 2] rfl (by kernel_rfl) rfl (by kernel_rfl) (by kernel_rfl) (fun w S => ?_)
 exact ⟨rfl, S.below⟩
theorem implx_okG (A : Option Addr) (n c : Nat) (m : Int) (w : World)  : Calls Tryz.prog 198 #[.agg #[.slice A n c, .int .i64 m]] w (fun e w' => e = .returned (.bool (decide (((n : Nat) : Int) ≤ m))) ∧ Below w.heap.size w w') := by
 refine Sx.enter (args := [.agg #[.slice A n c, .int .i64 m]]) Tryz.func198 rfl Tryz.ntmps198 rfl ?_
 refine Sx.C.seq (Sx.C.region ?_)
 refine Sx.G.b [.slice A n c, .int .i64 m] (fun b1 => ?_)
 refine Sx.G.p (.bool false) ?_
 refine Sx.G.nil (Sx.E.next (Sx.C.seq (Sx.C.region ?_)))
 refine Sx.G.p (.pointer (some ⟨b1, 0, none⟩)) ?_
 refine Sx.G.g (.slice A n c) .m0 .m0 ?_
 refine Sx.G.p (.int .i64 ((n : Nat) : Int)) ?_
 refine Sx.G.p (.pointer (some ⟨b1, 1, none⟩)) ?_
 refine Sx.G.g (.int .i64 m) .m0 .m1 ?_
 refine Sx.G.p (.bool (decide (((n : Nat) : Int) ≤ m))) ?_
 refine Sx.G.p (.bool (decide (((n : Nat) : Int) ≤ m))) ?_
 refine Sx.G.nil (Sx.E.next (Sx.C.ret ?_))
 refine Sx.E.ret1 (.bool (decide (((n : Nat) : Int) ≤ m))) rfl (by kernel_rfl) (fun w S => ?_)
 exact ⟨rfl, S.below⟩
def addB {α : Type} (xs : List α) (m : Int) (x : α) : List α := if ((xs.length : Nat) : Int) < m then xs ++ [x] else xs
theorem implx_addI {w0 w : World} {b : Nat} {R : List Res} (xs : List Int) (x : Int) (m : Int) (A : Option Addr) (c lo hi : Nat) (F : List Nat) (hl : xs.length ≤ 1048577) (S : St w0 w (vr b [.slice A xs.length c, .int .i64 m] :: ow (rLst 3 rInt) lo hi xs [.slice A xs.length c] F :: R)) : Calls Tryz.prog 269 #[.pointer (some ⟨b, 0, none⟩), .int .i64 x] w fun e w' => e = .returned (.tuple #[]) ∧ ∃ A c lo hi F, St w0 w' (vr b [.slice A (addB xs m x).length c, .int .i64 m] :: ow (rLst 3 rInt) lo hi (addB xs m x) [.slice A (addB xs m x).length c] F :: R) := by
 have hlx : xs.length ≤ 1048577 := hl
 refine Sx.enterS (args := [.pointer (some ⟨b, 0, none⟩), .int .i64 x]) S Tryz.func269 rfl Tryz.ntmps269 rfl ?_
 refine Sx.C.seq ?_
 refine Sx.C.draw (.take 0 (.take 1 (.take 2 (.take 3 (.take 4 (.take 5 (.take 6 (.take 7 (.take 8 (.take 9 .nil)))))))))) [vr b [.slice A xs.length c, .int .i64 m]] (fun w S => St.pick S [0] _ rfl (by decide)) (by kernel_rfl) (by kernel_rfl) (by kernel_rfl) ?_
 refine Sx.GT.p (.pointer (some ⟨b, 0, none⟩)) ?_
 refine Sx.GT.p (.pointer (some ⟨b, 0, none⟩)) ?_
 refine Sx.GT.p (.pointer (some ⟨b, 0, none⟩)) ?_
 refine Sx.GT.g (.slice A xs.length c) .m0 .m0 ?_
 refine Sx.GT.p (.int .i64 ((xs.length : Nat) : Int)) ?_
 refine Sx.GT.p (.pointer (some ⟨b, 0, none⟩)) ?_
 refine Sx.GT.p (.pointer (some ⟨b, 0, none⟩)) ?_
 refine Sx.GT.p (.pointer (some ⟨b, 1, none⟩)) ?_
 refine Sx.GT.g (.int .i64 m) .m0 .m1 ?_
 refine Sx.GT.p (.bool (decide (((xs.length : Nat) : Int) < m))) ?_
 refine Sx.GT.nil (Sx.E.next ?_)
 cases hc21 : (decide (((xs.length : Nat) : Int) < m))
 ·
  have hb21 := hc21
  replace hc21 := of_decide_eq_false hc21
  refine Sx.C.nn ?_
  refine Sx.C.skip (Sx.E.end_ ?_)
  refine Sx.E.ret0 rfl (fun w S => ?_)
  rw [show addB xs m x = xs from if_neg (by omega)]
  exact ⟨rfl, _, _, _, _, _, Sx.St.pickT [vr b [.slice A xs.length c, .int .i64 m], ow (rLst 3 rInt) lo hi xs [.slice A xs.length c] F] [_, _] S [0, 1] rfl (by decide)⟩
 ·
  have hb21 := hc21
  replace hc21 := of_decide_eq_true hc21
  refine Sx.C.yy (Sx.C.region ?_)
  refine Sx.G.p (.pointer (some ⟨b, 0, none⟩)) ?_
  refine Sx.G.p (.pointer (some ⟨b, 0, none⟩)) ?_
  refine Sx.G.p (.pointer (some ⟨b, 0, none⟩)) ?_
  refine Sx.G.p (.pointer (some ⟨b, 0, none⟩)) ?_
  refine Sx.G.g (.slice A xs.length c) .m0 .m0 ?_
  refine Sx.G.p (.int .i64 x) ?_
  refine Sx.G.made 3 [.int .i64 x] 1 (by kernel_rfl) (fun w => by kernel_rfl) (fun b22 => ?_)
  refine Sx.G.apps 2 rfl (xs ++ [x]) (fun w S => S.box 0 rfl rfl 1 (Nat.le_refl _)) rfl ((xs ++ [x]).length) (by simp) flat_int (.tmp 18) (.tmp 20) 26 1 8 rfl rfl (by kernel_rfl) (by kernel_rfl) rfl (by kernel_rfl) (by kernel_rfl) (by simp only [maxLen, List.length_append, List.length_cons, List.length_nil]; omega) (by simp only [List.length_append, List.length_cons, List.length_nil]; omega) (fun A23 c23 F23 hi23 hm23 => ?_)
  refine Sx.G.p (.pointer (some ⟨b, 0, none⟩)) ?_
  refine Sx.G.p (.pointer (some ⟨b, 0, none⟩)) ?_
  refine Sx.G.s (.slice A23 ((xs ++ [x]).length) c23) .a1 .a0 ?_
  refine Sx.G.nil (Sx.E.end_ ?_)
  refine Sx.E.ret0 rfl (fun w S => ?_)
  rw [show addB xs m x = xs ++ [x] from if_pos (by omega)]
  exact ⟨rfl, _, _, _, _, _, Sx.St.pickT [vr b22 [.int .i64 x], vr b [.slice A23 ((xs ++ [x]).length) c23, .int .i64 m], ow (rLst 3 rInt) w0.heap.size hi23 (xs ++ [x]) [.slice A23 ((xs ++ [x]).length) c23] F23] [_, _] S [1, 2] rfl (by decide)⟩
def gsOk (xs : List gT) : Bool := inB ((xs.length : Nat) : Int) 1 2 && xs.all guestOk
theorem implx_gsok (xs : List gT) (A : Option Addr) (c : Nat) (w : World) (hn : (rLsw wG).wf xs) (hc : (rLsw wG).cap xs) (h : rdLst wG w 0 w.heap.size xs [.slice A xs.length c]) : Calls Tryz.prog 149 #[.slice A xs.length c] w (fun e w' => e = .returned (.bool (gsOk xs)) ∧ Below w.heap.size w w') := by
 obtain ⟨hl, hce⟩ := hc
 have hwe := hn.2
 refine Sx.enter (args := [.slice A xs.length c]) Tryz.func149 rfl Tryz.ntmps149 rfl ?_
 refine Sx.C.seq (Sx.C.region ?_)
 refine Sx.G.p (.bool false) ?_
 refine Sx.G.nil (Sx.E.next (Sx.C.seq (Sx.C.seq (Sx.C.region ?_))))
 refine Sx.G.p (.slice A xs.length c) ?_
 refine Sx.G.p (.int .i64 ((xs.length : Nat) : Int)) ?_
 refine Sx.G.p (.bool (((xs.length : Nat) : Int) == 0)) ?_
 refine Sx.G.p (.bool (((xs.length : Nat) : Int) == 0)) ?_
 cases hc1 : (((xs.length : Nat) : Int) == 0)
 ·
  have hb1 := hc1
  have hlz := beq_eq_false_iff_ne.1 hc1
  refine Sx.G.p (.slice A xs.length c) ?_
  refine Sx.G.cp 197 #[.slice A xs.length c] (.agg #[.slice A xs.length c, .int .i64 2]) (fun w S => by exact implx_bG A xs.length c _) ?_
  refine Sx.G.cp 198 #[.agg #[.slice A xs.length c, .int .i64 2]] (.bool (decide (((xs.length : Nat) : Int) ≤ 2))) (fun w S => by exact implx_okG A xs.length c 2 _) ?_
  refine Sx.G.p (.bool (!(decide (((xs.length : Nat) : Int) ≤ 2)))) ?_
  refine Sx.G.p (.bool (!(decide (((xs.length : Nat) : Int) ≤ 2)))) ?_
  refine Sx.G.nil (Sx.E.next ?_)
  cases hc2 : (decide (((xs.length : Nat) : Int) ≤ 2))
  ·
   have hb2 := hc2
   replace hc2 := of_decide_eq_false hc2
   refine Sx.C.yy ?_
   refine Sx.C.seq (Sx.C.region ?_)
   refine Sx.G.p (.bool false) ?_
   refine Sx.G.nil (Sx.E.next (Sx.C.ret (Sx.E.then_ret ?_)))
   refine Sx.E.ret1 (.bool false) rfl (by kernel_rfl) (fun w S => ?_)
   have hb : inB ((xs.length : Nat) : Int) 1 2 = false := by rw [inB_false]; omega
   exact ⟨by unfold gsOk; rw [hb]; rfl, S.below⟩
  ·
   have hb2 := hc2
   replace hc2 := of_decide_eq_true hc2
   refine Sx.C.nn ?_
   refine Sx.C.skip (Sx.E.next (Sx.C.seq (Sx.C.seq (Sx.C.region ?_))))
   refine Sx.G.p (.slice A xs.length c) ?_
   refine Sx.G.p (.int .i64 ((xs.length : Nat) : Int)) ?_
   refine Sx.G.p (.int .i64 0) ?_
   refine Sx.G.nil (Sx.E.next (Sx.C.block ?_))
   refine Sx.C.loop (α := Nat) (fun i => i ≤ xs.length ∧ (xs.take i).all guestOk = true) (fun i => [(16, .int .i64 (i : Int)), (2, .bool false), (14, .slice A xs.length c), (15, .int .i64 ((xs.length : Nat) : Int))]) (fun i => []) (fun i => xs.length - i) 0 ⟨Nat.zero_le _, rfl⟩ (fun a hA => (Sx.Ag.sub hA (by kernel_rfl))) (fun w S => S) (fun i hx => ?_)
   have hxi := hx.1
   refine Sx.C.seq (Sx.C.region ?_)
   refine Sx.G.p (.bool (decide ((i : Int) < ((xs.length : Nat) : Int)))) ?_
   refine Sx.G.nil (Sx.E.next (Sx.C.seq ?_))
   cases hc3 : (decide ((i : Int) < ((xs.length : Nat) : Int)))
   ·
    have hb3 := hc3
    replace hc3 := of_decide_eq_false hc3
    refine Sx.C.nn ?_
    refine Sx.C.exit (Sx.E.then_exit (Sx.E.then_exit (Sx.E.block_hit (Sx.E.next (Sx.C.seq (Sx.C.region ?_))))))
    refine Sx.G.p (.bool true) ?_
    refine Sx.G.nil (Sx.E.next (Sx.C.ret ?_))
    refine Sx.E.ret1 (.bool true) rfl (by kernel_rfl) (fun w S => ?_)
    have hall : xs.all guestOk = true := by have h2 := hx.2; rwa [List.take_of_length_le (by omega)] at h2
    have hb : inB ((xs.length : Nat) : Int) 1 2 = true := by rw [inB_iff]; omega
    exact ⟨by unfold gsOk; rw [hall, hb]; rfl, S.below⟩
   ·
    have hb3 := hc3
    replace hc3 := of_decide_eq_true hc3
    refine Sx.C.yy ?_
    refine Sx.C.skip (Sx.E.next (Sx.C.seq (Sx.C.block (Sx.C.seq (Sx.C.region ?_)))))
    obtain ⟨b4, f4, es4, eA4, hr4, hl4, hm4⟩ := Sx.old_elem (by decide) h i (by omega)
    subst eA4
    obtain ⟨x4, hx4⟩ : ∃ z_, z_ = (xs[i]'(by omega)) := ⟨_, rfl⟩
    rw [← hx4] at hr4
    have hR4 := hr4
    obtain ⟨P4_0, P4_1, P4_2, P4_3, rfl, hf4_0, hf4_1, hf4_2, hf4_3⟩ := wG_rd hr4
    obtain ⟨A4_0, c4_0, e4_0, -⟩ := lst_val hf4_0
    subst e4_0
    obtain ⟨A4_1, c4_1, e4_1, -⟩ := lst_val hf4_1
    subst e4_1
    obtain ⟨A4_2, c4_2, e4_2, -⟩ := lst_val hf4_2
    subst e4_2
    obtain ⟨A4_3, c4_3, e4_3, -⟩ := lst_val hf4_3
    subst e4_3
    refine Sx.G.elem 25 56 (.tmp 14) (.tmp 16) 15 184 b4 f4 xs.length c i rfl (by kernel_rfl) (by kernel_rfl) (by kernel_rfl) (by kernel_rfl) (by omega) ?_
    refine Sx.G.ldr 56 (.tmp 18) b4 (f4 + i * 15) [.slice A4_0 x4.prog.length c4_0, .int .i64 x4.a, .int .i64 x4.pc, .slice A4_1 x4.wr.length c4_1, .slice A4_2 x4.lv.length c4_2, .int .i64 x4.t.1, .int .i64 x4.t.2.1, .bool x4.t.2.2, .int .i64 x4.pd, .int .i64 x4.x.1, .int .i64 x4.x.2.1, .bool x4.x.2.2.1, .int .i64 x4.x.2.2.2, .bool x4.hl, .slice A4_3 x4.seen.length c4_3] rfl (by kernel_rfl) (by kernel_rfl) (fun w S => hm4 w _ S) (by kernel_rfl) (by kernel_rfl) ?_
    refine Sx.G.ar [.slice none 0 0, .int .i64 0, .int .i64 0, .slice none 0 0, .slice none 0 0, .int .i64 0, .int .i64 0, .bool false, .int .i64 0, .int .i64 0, .int .i64 0, .bool false, .int .i64 0, .bool false, .slice none 0 0] (fun b5 => ?_)
    refine Sx.G.sw [.slice A4_0 x4.prog.length c4_0, .int .i64 x4.a, .int .i64 x4.pc, .slice A4_1 x4.wr.length c4_1, .slice A4_2 x4.lv.length c4_2, .int .i64 x4.t.1, .int .i64 x4.t.2.1, .bool x4.t.2.2, .int .i64 x4.pd, .int .i64 x4.x.1, .int .i64 x4.x.2.1, .bool x4.x.2.2.1, .int .i64 x4.x.2.2.2, .bool x4.hl, .slice A4_3 x4.seen.length c4_3] .a0 ?_
    refine Sx.G.nil (Sx.E.next (Sx.C.seq ?_))
    refine Sx.C.sl [(2, .bool false), (4, .pointer (some ⟨b5, 0, none⟩)), (14, .slice (some ⟨b4, f4, none⟩) xs.length c), (15, .int .i64 ((xs.length : Nat) : Int)), (16, .int .i64 (i : Int))] ?_
    refine Sx.C.region ?_
    refine Sx.G.lw .m0 ?_
    refine Sx.G.cp 199 #[.agg #[.slice A4_0 x4.prog.length c4_0, .int .i64 x4.a, .int .i64 x4.pc, .slice A4_1 x4.wr.length c4_1, .slice A4_2 x4.lv.length c4_2, .int .i64 x4.t.1, .int .i64 x4.t.2.1, .bool x4.t.2.2, .int .i64 x4.pd, .int .i64 x4.x.1, .int .i64 x4.x.2.1, .bool x4.x.2.2.1, .int .i64 x4.x.2.2.2, .bool x4.hl, .slice A4_3 x4.seen.length c4_3]] (.bool (guestOk x4)) (fun w S => by exact Guests.impl_gok x4 _ _ (hwe _ (hx4 ▸ List.getElem_mem _)) (cap_G (hce _ (hx4 ▸ List.getElem_mem _))) (rd_G (St.old S hR4))) ?_
    refine Sx.G.p (.bool (!(guestOk x4))) ?_
    refine Sx.G.nil (Sx.E.next ?_)
    cases hc6 : (guestOk x4)
    ·
     have hb6 := hc6
     refine Sx.C.yy ?_
     refine Sx.C.seq (Sx.C.region ?_)
     refine Sx.G.p (.bool false) ?_
     refine Sx.G.nil (Sx.E.next (Sx.C.ret (Sx.E.block_ret (Sx.E.then_ret (Sx.E.then_ret (Sx.E.block_ret (Sx.E.then_ret ?_)))))))
     refine Sx.E.ret1 (.bool false) rfl (by kernel_rfl) (fun w S => ?_)
     have hall : xs.all guestOk = false := by rw [Bool.eq_false_iff]; intro h2; have h3 := List.all_eq_true.1 h2 _ (List.getElem_mem (show i < xs.length by omega)); rw [← hx4, hc6] at h3; cases h3
     exact ⟨by unfold gsOk; rw [hall, Bool.and_false], S.below⟩
    ·
     have hb6 := hc6
     refine Sx.C.nn ?_
     refine Sx.C.skip (Sx.E.block_normal (Sx.E.next (Sx.C.region ?_)))
     refine Sx.G.q (.int .i64 (IntKind.i64.wrap ((i : Int) + 1))) (.int .i64 ((i + 1 : Nat) : Int)) (congrArg (Value.int .i64) (Sx.wrap_up i (by omega))) ?_
     refine Sx.G.p (.int .i64 ((i + 1 : Nat) : Int)) ?_
     refine Sx.G.nil ?_
     have hup : (xs.take (i + 1)).all guestOk = true := by rw [Kit.take_step (by omega), List.all_append, hx.2, ← hx4]; simp [hc6]
     exact Sx.E.again (i + 1) ⟨by omega, hup⟩ (by omega) (fun a hA => (Sx.Ag.sub hA (by kernel_rfl))) (fun w S => St.pick S [] _ rfl (by decide))
 ·
  have hb1 := hc1
  have hlz := beq_iff_eq.1 hc1
  refine Sx.G.k ?_
  refine Sx.G.k ?_
  refine Sx.G.k ?_
  refine Sx.G.k ?_
  refine Sx.G.p (.bool true) ?_
  refine Sx.G.nil (Sx.E.next ?_)
  refine Sx.C.yy ?_
  refine Sx.C.seq (Sx.C.region ?_)
  refine Sx.G.p (.bool false) ?_
  refine Sx.G.nil (Sx.E.next (Sx.C.ret (Sx.E.then_ret ?_)))
  refine Sx.E.ret1 (.bool false) rfl (by kernel_rfl) (fun w S => ?_)
  have hb : inB ((xs.length : Nat) : Int) 1 2 = false := by rw [inB_false]; omega
  exact ⟨by unfold gsOk; rw [hb]; rfl, S.below⟩
theorem inB_dec (g n : Int) : inB g 0 (n - 1) = (decide (g ≥ 0) && decide (g < n)) := by
 rw [Bool.eq_iff_iff, inB_iff]; simp; omega
theorem implx_has (A : Option Addr) (n c : Nat) (g : Int) (w : World)  : Calls Tryz.prog 98 #[.slice A n c, .int .i64 g] w (fun e w' => e = .returned (.bool (inB g 0 (((n : Nat) : Int) - 1))) ∧ Below w.heap.size w w') := by
 refine Sx.enter (args := [.slice A n c, .int .i64 g]) Tryz.func98 rfl Tryz.ntmps98 rfl ?_
 refine Sx.C.seq (Sx.C.region ?_)
 refine Sx.G.p (.bool false) ?_
 refine Sx.G.nil (Sx.E.next (Sx.C.seq (Sx.C.region ?_)))
 refine Sx.G.p (.int .i64 g) ?_
 refine Sx.G.p (.bool (decide (g ≥ 0))) ?_
 refine Sx.G.p (.bool (decide (g ≥ 0))) ?_
 cases hc1 : (decide (g ≥ 0))
 ·
  have hb1 := hc1
  replace hc1 := of_decide_eq_false hc1
  refine Sx.G.k ?_
  refine Sx.G.k ?_
  refine Sx.G.k ?_
  refine Sx.G.k ?_
  refine Sx.G.p (.bool false) ?_
  refine Sx.G.p (.bool false) ?_
  refine Sx.G.nil (Sx.E.next (Sx.C.ret ?_))
  refine Sx.E.ret1 (.bool false) rfl (by kernel_rfl) (fun w S => ?_)
  exact ⟨congrArg Ending.returned (congrArg Value.bool (by rw [inB_dec]; simp only [hb1, Bool.true_and, Bool.false_and])), S.below⟩
 ·
  have hb1 := hc1
  replace hc1 := of_decide_eq_true hc1
  refine Sx.G.p (.int .i64 g) ?_
  refine Sx.G.p (.slice A n c) ?_
  refine Sx.G.p (.int .i64 ((n : Nat) : Int)) ?_
  refine Sx.G.p (.bool (decide (g < ((n : Nat) : Int)))) ?_
  refine Sx.G.p (.bool (decide (g < ((n : Nat) : Int)))) ?_
  refine Sx.G.p (.bool (decide (g < ((n : Nat) : Int)))) ?_
  refine Sx.G.nil (Sx.E.next (Sx.C.ret ?_))
  refine Sx.E.ret1 (.bool (decide (g < ((n : Nat) : Int)))) rfl (by kernel_rfl) (fun w S => ?_)
  exact ⟨congrArg Ending.returned (congrArg Value.bool (by rw [inB_dec]; simp only [hb1, Bool.true_and, Bool.false_and])), S.below⟩
theorem implx_memok (xs : List (List Int)) (A : Option Addr) (c : Nat) (p : Int) (w : World) (hc : (rLsw (rLsw rInt)).cap xs) (h : rdLst (rLsw rInt) w 0 w.heap.size xs [.slice A xs.length c]) : Calls Tryz.prog 148 #[.slice A xs.length c, .int .i64 p] w (fun e w' => e = .returned (.bool (Grid.memB xs p)) ∧ Below w.heap.size w w') := by
 obtain ⟨hl, hce⟩ := hc
 refine Sx.enter (args := [.slice A xs.length c, .int .i64 p]) Tryz.func148 rfl Tryz.ntmps148 rfl ?_
 refine Sx.C.seq (Sx.C.region ?_)
 refine Sx.G.p (.bool false) ?_
 refine Sx.G.nil (Sx.E.next (Sx.C.seq (Sx.C.seq (Sx.C.region ?_))))
 refine Sx.G.p (.slice A xs.length c) ?_
 refine Sx.G.p (.int .i64 ((xs.length : Nat) : Int)) ?_
 refine Sx.G.p (.int .i64 p) ?_
 refine Sx.G.p (.bool (((xs.length : Nat) : Int) != p)) ?_
 refine Sx.G.nil (Sx.E.next ?_)
 cases hc1 : (((xs.length : Nat) : Int) != p)
 ·
  have hb1 := hc1
  refine Sx.C.nn ?_
  refine Sx.C.skip (Sx.E.next (Sx.C.seq (Sx.C.seq (Sx.C.region ?_))))
  refine Sx.G.p (.slice A xs.length c) ?_
  refine Sx.G.p (.int .i64 ((xs.length : Nat) : Int)) ?_
  refine Sx.G.p (.int .i64 0) ?_
  refine Sx.G.nil (Sx.E.next (Sx.C.block ?_))
  refine Sx.C.loop (α := Nat) (fun i => i ≤ xs.length ∧ (xs.take i).all Grid.pageB = true) (fun i => [(13, .int .i64 (i : Int)), (4, .bool false), (11, .slice A xs.length c), (12, .int .i64 ((xs.length : Nat) : Int))]) (fun i => []) (fun i => xs.length - i) 0 ⟨Nat.zero_le _, rfl⟩ (fun a hA => (Sx.Ag.sub hA (by kernel_rfl))) (fun w S => S) (fun i hx => ?_)
  have hxi := hx.1
  refine Sx.C.seq (Sx.C.region ?_)
  refine Sx.G.p (.bool (decide ((i : Int) < ((xs.length : Nat) : Int)))) ?_
  refine Sx.G.nil (Sx.E.next (Sx.C.seq ?_))
  cases hc2 : (decide ((i : Int) < ((xs.length : Nat) : Int)))
  ·
   have hb2 := hc2
   replace hc2 := of_decide_eq_false hc2
   refine Sx.C.nn ?_
   refine Sx.C.exit (Sx.E.then_exit (Sx.E.then_exit (Sx.E.block_hit (Sx.E.next (Sx.C.seq (Sx.C.region ?_))))))
   refine Sx.G.p (.bool true) ?_
   refine Sx.G.nil (Sx.E.next (Sx.C.ret ?_))
   refine Sx.E.ret1 (.bool true) rfl (by kernel_rfl) (fun w S => ?_)
   have hlp : (((xs.length : Nat) : Int) == p) = true := beq_iff_eq.2 (bne_eq_false_iff_eq.1 hc1)
   have hall : xs.all Grid.pageB = true := by have h2 := hx.2; rwa [List.take_of_length_le (by omega)] at h2
   exact ⟨by unfold Grid.memB Grid.pagesB; rw [← beq_dec, hlp, hall]; rfl, S.below⟩
  ·
   have hb2 := hc2
   replace hc2 := of_decide_eq_true hc2
   refine Sx.C.yy ?_
   refine Sx.C.skip (Sx.E.next (Sx.C.seq (Sx.C.block (Sx.C.seq (Sx.C.region ?_)))))
   obtain ⟨b3, f3, es3, eA3, hr3, hl3, hm3⟩ := Sx.old_elem (by decide) h i (by omega)
   subst eA3
   obtain ⟨x3, hx3⟩ : ∃ z_, z_ = (xs[i]'(by omega)) := ⟨_, rfl⟩
   rw [← hx3] at hr3
   have hle3 : x3.length ≤ 1048576 := (hce _ (hx3 ▸ List.getElem_mem _)).1
   replace hr3 : rdLst rInt w 0 w.heap.size x3 es3 := hr3
   obtain ⟨P3, rfl⟩ := lst_rd hr3
   obtain ⟨A3, c3, e3, -⟩ := lst_val hr3
   subst e3
   refine Sx.G.elem 24 26 (.tmp 11) (.tmp 13) 1 24 b3 f3 xs.length c i rfl (by kernel_rfl) (by kernel_rfl) (by kernel_rfl) (by kernel_rfl) (by omega) ?_
   refine Sx.G.ldr1 26 (.tmp 15) b3 ((f3 + i * 1) + 0) (.slice A3 x3.length c3) rfl (by kernel_rfl) (by kernel_rfl) (fun w S => hm3 w _ S 0 _ rfl) (by kernel_rfl) ?_
   refine Sx.G.p (.slice A3 x3.length c3) ?_
   refine Sx.G.nil (Sx.E.next (Sx.C.seq (Sx.C.region ?_)))
   refine Sx.G.p (.slice A3 x3.length c3) ?_
   refine Sx.G.cp 196 #[.slice A3 x3.length c3] (.bool (Grid.pageB x3)) (fun w S => by exact ((Grid.impl_pageOk A3 x3.length c3 0 _ x3 _ hle3 rfl (i1_lies (St.old (r := (rLsw rInt)) S hr3))).mono fun e w' h => And.intro h.1 (Guests.below_same h.2))) ?_
   refine Sx.G.p (.bool (!(Grid.pageB x3))) ?_
   refine Sx.G.nil (Sx.E.next ?_)
   cases hc4 : (Grid.pageB x3)
   ·
    have hb4 := hc4
    refine Sx.C.yy ?_
    refine Sx.C.seq (Sx.C.region ?_)
    refine Sx.G.p (.bool false) ?_
    refine Sx.G.nil (Sx.E.next (Sx.C.ret (Sx.E.block_ret (Sx.E.then_ret (Sx.E.then_ret (Sx.E.block_ret (Sx.E.then_ret ?_)))))))
    refine Sx.E.ret1 (.bool false) rfl (by kernel_rfl) (fun w S => ?_)
    have hlp : (((xs.length : Nat) : Int) == p) = true := beq_iff_eq.2 (bne_eq_false_iff_eq.1 hc1)
    have hall : xs.all Grid.pageB = false := by rw [Bool.eq_false_iff]; intro h2; have h3 := List.all_eq_true.1 h2 _ (List.getElem_mem (show i < xs.length by omega)); rw [← hx3, hc4] at h3; cases h3
    exact ⟨by unfold Grid.memB Grid.pagesB; rw [hall]; rfl, S.below⟩
   ·
    have hb4 := hc4
    refine Sx.C.nn ?_
    refine Sx.C.skip (Sx.E.block_normal (Sx.E.next (Sx.C.region ?_)))
    refine Sx.G.q (.int .i64 (IntKind.i64.wrap ((i : Int) + 1))) (.int .i64 ((i + 1 : Nat) : Int)) (congrArg (Value.int .i64) (Sx.wrap_up i (by omega))) ?_
    refine Sx.G.p (.int .i64 ((i + 1 : Nat) : Int)) ?_
    refine Sx.G.nil ?_
    have hup : (xs.take (i + 1)).all Grid.pageB = true := by rw [Kit.take_step (by omega), List.all_append, hx.2, ← hx3]; simp [hc4]
    exact Sx.E.again (i + 1) ⟨by omega, hup⟩ (by omega) (fun a hA => (Sx.Ag.sub hA (by kernel_rfl))) (fun w S => S)
 ·
  have hb1 := hc1
  refine Sx.C.yy ?_
  refine Sx.C.seq (Sx.C.region ?_)
  refine Sx.G.p (.bool false) ?_
  refine Sx.G.nil (Sx.E.next (Sx.C.ret (Sx.E.then_ret ?_)))
  refine Sx.E.ret1 (.bool false) rfl (by kernel_rfl) (fun w S => ?_)
  have hlp : (((xs.length : Nat) : Int) == p) = false := by rw [beq_eq_false_iff_ne]; exact bne_iff_ne.1 hc1
  exact ⟨by unfold Grid.memB Grid.pagesB; rw [← beq_dec, hlp, Bool.and_false], S.below⟩
theorem impl_bok (x : bT) (cs : List Value) (w : World) (hn : wB.wf x) (hc : wB.cap x) (h : wB.rd w 0 w.heap.size x cs) : Calls Tryz.prog 97 #[.agg cs.toArray] w (fun e w' => e = .returned (.bool (bareOk x)) ∧ Below w.heap.size w w') := by
 obtain ⟨hcap0, hcap1, hcap2, hcap3⟩ := hc
 have hR := h
 obtain ⟨hP0, hP1, hP2, rfl, hf0, hf1, hf2⟩ := wB_rd h
 obtain ⟨hA0, hK0, he0, -⟩ := lst_val hf0
 subst he0
 obtain ⟨hA1, hK1, he1, -⟩ := lst_val hf1
 subst he1
 obtain ⟨hA2, hK2, he2, -⟩ := lst_val hf2
 subst he2
 refine Sx.enter (args := [.agg #[.slice hA0 x.mem.length hK0, .slice hA1 x.gs.length hK1, .slice hA2 x.outs.length hK2, .int .i64 x.pd]]) Tryz.func97 rfl Tryz.ntmps97 rfl ?_
 refine Sx.C.seq (Sx.C.region ?_)
 refine Sx.G.b [.slice hA0 x.mem.length hK0, .slice hA1 x.gs.length hK1, .slice hA2 x.outs.length hK2, .int .i64 x.pd] (fun b1 => ?_)
 refine Sx.G.p (.bool false) ?_
 refine Sx.G.nil (Sx.E.next (Sx.C.seq (Sx.C.region ?_)))
 refine Sx.G.p (.pointer (some ⟨b1, 0, none⟩)) ?_
 refine Sx.G.g (.slice hA0 x.mem.length hK0) .m0 .m0 ?_
 refine Sx.G.cp 148 #[.slice hA0 x.mem.length hK0, .int .i64 8] (.bool (Grid.memB x.mem 8)) (fun w S => by exact implx_memok x.mem hA0 hK0 8 _ hcap0 (St.old (r := (rLsw (rLsw rInt))) S hf0)) ?_
 refine Sx.G.p (.bool (Grid.memB x.mem 8)) ?_
 cases hc2 : (Grid.memB x.mem 8)
 ·
  have hb2 := hc2
  refine Sx.G.k ?_
  refine Sx.G.k ?_
  refine Sx.G.k ?_
  refine Sx.G.p (.bool false) ?_
  refine Sx.G.p (.bool false) ?_
  refine Sx.G.k ?_
  refine Sx.G.k ?_
  refine Sx.G.k ?_
  refine Sx.G.k ?_
  refine Sx.G.p (.bool false) ?_
  refine Sx.G.p (.bool false) ?_
  refine Sx.G.k ?_
  refine Sx.G.k ?_
  refine Sx.G.k ?_
  refine Sx.G.p (.bool false) ?_
  refine Sx.G.p (.bool false) ?_
  refine Sx.G.nil (Sx.E.next (Sx.C.ret ?_))
  refine Sx.E.ret1 (.bool false) rfl (by kernel_rfl) (fun w S => ?_)
  have HBO : bareOk x = (Grid.memB x.mem 8 && gsOk x.gs && decide (((x.outs.length : Nat) : Int) ≤ 40) && Irqs.pend x.pd) := by unfold bareOk gsOk; generalize x.gs.all guestOk = a1; generalize Grid.memB x.mem 8 = a2; generalize inB ((x.gs.length : Nat) : Int) 1 2 = a3; revert a1 a2 a3; generalize decide (((x.outs.length : Nat) : Int) ≤ 40) = a4; generalize Irqs.pend x.pd = a5; revert a4 a5; decide
  exact ⟨congrArg Ending.returned (congrArg Value.bool (by simp only [HBO, hb2, Bool.and_true, Bool.and_false, Bool.false_and, Bool.true_and])), S.below⟩
 ·
  have hb2 := hc2
  refine Sx.G.p (.pointer (some ⟨b1, 1, none⟩)) ?_
  refine Sx.G.g (.slice hA1 x.gs.length hK1) .m0 .m1 ?_
  refine Sx.G.cp 149 #[.slice hA1 x.gs.length hK1] (.bool (gsOk x.gs)) (fun w S => by exact implx_gsok x.gs hA1 hK1 _ hn.2.1 hcap1 (St.old (r := (rLsw wG)) S hf1)) ?_
  refine Sx.G.p (.bool (gsOk x.gs)) ?_
  refine Sx.G.p (.bool (gsOk x.gs)) ?_
  cases hc3 : (gsOk x.gs)
  ·
   have hb3 := hc3
   refine Sx.G.k ?_
   refine Sx.G.k ?_
   refine Sx.G.k ?_
   refine Sx.G.k ?_
   refine Sx.G.p (.bool false) ?_
   refine Sx.G.p (.bool false) ?_
   refine Sx.G.k ?_
   refine Sx.G.k ?_
   refine Sx.G.k ?_
   refine Sx.G.p (.bool false) ?_
   refine Sx.G.p (.bool false) ?_
   refine Sx.G.nil (Sx.E.next (Sx.C.ret ?_))
   refine Sx.E.ret1 (.bool false) rfl (by kernel_rfl) (fun w S => ?_)
   have HBO : bareOk x = (Grid.memB x.mem 8 && gsOk x.gs && decide (((x.outs.length : Nat) : Int) ≤ 40) && Irqs.pend x.pd) := by unfold bareOk gsOk; generalize x.gs.all guestOk = a1; generalize Grid.memB x.mem 8 = a2; generalize inB ((x.gs.length : Nat) : Int) 1 2 = a3; revert a1 a2 a3; generalize decide (((x.outs.length : Nat) : Int) ≤ 40) = a4; generalize Irqs.pend x.pd = a5; revert a4 a5; decide
   exact ⟨congrArg Ending.returned (congrArg Value.bool (by simp only [HBO, hb2, hb3, Bool.and_true, Bool.and_false, Bool.false_and, Bool.true_and])), S.below⟩
  ·
   have hb3 := hc3
   refine Sx.G.p (.pointer (some ⟨b1, 2, none⟩)) ?_
   refine Sx.G.g (.slice hA2 x.outs.length hK2) .m0 .m2 ?_
   refine Sx.G.cp 150 #[.slice hA2 x.outs.length hK2] (.agg #[.slice hA2 x.outs.length hK2, .int .i64 40]) (fun w S => by exact implx_bI hA2 x.outs.length hK2 _) ?_
   refine Sx.G.cp 151 #[.agg #[.slice hA2 x.outs.length hK2, .int .i64 40]] (.bool (decide (((x.outs.length : Nat) : Int) ≤ 40))) (fun w S => by exact implx_okI hA2 x.outs.length hK2 40 _) ?_
   refine Sx.G.p (.bool (decide (((x.outs.length : Nat) : Int) ≤ 40))) ?_
   refine Sx.G.p (.bool (decide (((x.outs.length : Nat) : Int) ≤ 40))) ?_
   cases hc4 : (decide (((x.outs.length : Nat) : Int) ≤ 40))
   ·
    have hb4 := hc4
    replace hc4 := of_decide_eq_false hc4
    refine Sx.G.k ?_
    refine Sx.G.k ?_
    refine Sx.G.k ?_
    refine Sx.G.p (.bool false) ?_
    refine Sx.G.p (.bool false) ?_
    refine Sx.G.nil (Sx.E.next (Sx.C.ret ?_))
    refine Sx.E.ret1 (.bool false) rfl (by kernel_rfl) (fun w S => ?_)
    have HBO : bareOk x = (Grid.memB x.mem 8 && gsOk x.gs && decide (((x.outs.length : Nat) : Int) ≤ 40) && Irqs.pend x.pd) := by unfold bareOk gsOk; generalize x.gs.all guestOk = a1; generalize Grid.memB x.mem 8 = a2; generalize inB ((x.gs.length : Nat) : Int) 1 2 = a3; revert a1 a2 a3; generalize decide (((x.outs.length : Nat) : Int) ≤ 40) = a4; generalize Irqs.pend x.pd = a5; revert a4 a5; decide
    exact ⟨congrArg Ending.returned (congrArg Value.bool (by simp only [HBO, hb2, hb3, hb4, Bool.and_true, Bool.and_false, Bool.false_and, Bool.true_and])), S.below⟩
   ·
    have hb4 := hc4
    replace hc4 := of_decide_eq_true hc4
    refine Sx.G.p (.pointer (some ⟨b1, 3, none⟩)) ?_
    refine Sx.G.g (.int .i64 x.pd) .m0 .m3 ?_
    refine Sx.G.cp 152 #[.int .i64 x.pd] (.bool (Irqs.pend x.pd)) (fun w S => by exact Irqs.impl_pend x.pd _ hn.2.2.2) ?_
    refine Sx.G.p (.bool (Irqs.pend x.pd)) ?_
    refine Sx.G.p (.bool (Irqs.pend x.pd)) ?_
    refine Sx.G.nil (Sx.E.next (Sx.C.ret ?_))
    refine Sx.E.ret1 (.bool (Irqs.pend x.pd)) rfl (by kernel_rfl) (fun w S => ?_)
    have HBO : bareOk x = (Grid.memB x.mem 8 && gsOk x.gs && decide (((x.outs.length : Nat) : Int) ≤ 40) && Irqs.pend x.pd) := by unfold bareOk gsOk; generalize x.gs.all guestOk = a1; generalize Grid.memB x.mem 8 = a2; generalize inB ((x.gs.length : Nat) : Int) 1 2 = a3; revert a1 a2 a3; generalize decide (((x.outs.length : Nat) : Int) ≤ 40) = a4; generalize Irqs.pend x.pd = a5; revert a4 a5; decide
    exact ⟨congrArg Ending.returned (congrArg Value.bool (by simp only [HBO, hb2, hb3, hb4, Bool.and_true, Bool.and_false, Bool.false_and, Bool.true_and])), S.below⟩
theorem impl_gat (x : bT) (cs : List Value) (g : Int) (w : World) (hn : wB.wf x) (hc : wB.cap x) (h : wB.rd w 0 w.heap.size x cs) (hg : (Lit.int .i64 g).wf = true) : Calls Tryz.prog 74 #[.agg cs.toArray, .int .i64 g] w (Gives2 wG w (guestAt x g)) := by
 obtain ⟨hcap0, hcap1, hcap2, hcap3⟩ := hc
 have hgl : x.gs.length ≤ 1048576 := hcap1.1
 have hR := h
 obtain ⟨hP0, hP1, hP2, rfl, hf0, hf1, hf2⟩ := wB_rd h
 obtain ⟨hA0, hK0, he0, -⟩ := lst_val hf0
 subst he0
 obtain ⟨hA1, hK1, he1, -⟩ := lst_val hf1
 subst he1
 obtain ⟨hA2, hK2, he2, -⟩ := lst_val hf2
 subst he2
 refine Sx.enter (args := [.agg #[.slice hA0 x.mem.length hK0, .slice hA1 x.gs.length hK1, .slice hA2 x.outs.length hK2, .int .i64 x.pd], .int .i64 g]) Tryz.func74 rfl Tryz.ntmps74 rfl ?_
 refine Sx.C.seq (Sx.C.region ?_)
 refine Sx.G.b [.slice hA0 x.mem.length hK0, .slice hA1 x.gs.length hK1, .slice hA2 x.outs.length hK2, .int .i64 x.pd] (fun b1 => ?_)
 refine Sx.G.ar [.slice none 0 0, .int .i64 0, .int .i64 0, .slice none 0 0, .slice none 0 0, .int .i64 0, .int .i64 0, .bool false, .int .i64 0, .int .i64 0, .int .i64 0, .bool false, .int .i64 0, .bool false, .slice none 0 0] (fun b2 => ?_)
 refine Sx.G.p (.bool false) ?_
 refine Sx.G.nil (Sx.E.next (Sx.C.seq (Sx.C.seq (Sx.C.region ?_))))
 refine Sx.G.p (.pointer (some ⟨b1, 1, none⟩)) ?_
 refine Sx.G.g (.slice hA1 x.gs.length hK1) .m1 .m1 ?_
 refine Sx.G.p (.int .i64 g) ?_
 refine Sx.G.cp 98 #[.slice hA1 x.gs.length hK1, .int .i64 g] (.bool (inB g 0 (((x.gs.length : Nat) : Int) - 1))) (fun w S => by exact implx_has hA1 x.gs.length hK1 g _) ?_
 refine Sx.G.p (.bool (!(inB g 0 (((x.gs.length : Nat) : Int) - 1)))) ?_
 refine Sx.G.nil (Sx.E.next ?_)
 cases hc3 : (inB g 0 (((x.gs.length : Nat) : Int) - 1))
 ·
  have hb3 := hc3
  refine Sx.C.yy ?_
  refine Sx.C.seq (Sx.C.region ?_)
  refine Sx.G.p (.agg #[.slice none 0 0, .int .i64 0, .int .i64 0, .slice none 0 0, .slice none 0 0, .int .i64 0, .int .i64 0, .bool false, .int .i64 0, .int .i64 0, .int .i64 0, .bool false, .int .i64 0, .bool false, .slice none 0 0]) ?_
  refine Sx.G.sw [.slice none 0 0, .int .i64 0, .int .i64 0, .slice none 0 0, .slice none 0 0, .int .i64 0, .int .i64 0, .bool false, .int .i64 0, .int .i64 0, .int .i64 0, .bool false, .int .i64 0, .bool false, .slice none 0 0] .a0 ?_
  refine Sx.G.p (.bool false) ?_
  refine Sx.G.nil (Sx.E.next (Sx.C.ret (Sx.E.then_ret ?_)))
  refine Sx.E.retg2 (.agg #[.slice none 0 0, .int .i64 0, .int .i64 0, .slice none 0 0, .slice none 0 0, .int .i64 0, .int .i64 0, .bool false, .int .i64 0, .int .i64 0, .int .i64 0, .bool false, .int .i64 0, .bool false, .slice none 0 0]) (.bool false) rfl (Sx.IsRes.row b2 0 [.slice none 0 0, .int .i64 0, .int .i64 0, .slice none 0 0, .slice none 0 0, .int .i64 0, .int .i64 0, .bool false, .int .i64 0, .int .i64 0, .int .i64 0, .bool false, .int .i64 0, .bool false, .slice none 0 0] (by kernel_rfl) rfl (by kernel_rfl) (by kernel_rfl)) (Sx.IsRes.slot (by kernel_rfl)) (fun w S => ?_)
  rw [show guestAt x g = (zeroG, false) from if_neg (by rw [hc3]; decide)]
  exact ⟨_, [], rfl, own_zero_Guest _ _ _, List.nodup_nil, S.below⟩
 ·
  have hb3 := hc3
  have hin := inB_iff.1 hc3
  obtain ⟨j, hj⟩ : ∃ j : Nat, g = (j : Int) := ⟨g.toNat, by omega⟩
  subst hj
  have hjl : j < x.gs.length := by omega
  refine Sx.C.nn ?_
  refine Sx.C.skip (Sx.E.next (Sx.C.seq (Sx.C.region ?_)))
  refine Sx.G.p (.pointer (some ⟨b1, 1, none⟩)) ?_
  refine Sx.G.g (.slice hA1 x.gs.length hK1) .m1 .m1 ?_
  refine Sx.G.p (.int .i64 (j : Int)) ?_
  obtain ⟨b4, f4, es4, eA4, hr4, hl4, hm4⟩ := Sx.old_elem (by decide) hf1 j (by omega)
  subst eA4
  obtain ⟨x4, hx4⟩ : ∃ z_, z_ = (x.gs[j]'(by omega)) := ⟨_, rfl⟩
  rw [← hx4] at hr4
  have hR4 := hr4
  obtain ⟨P4_0, P4_1, P4_2, P4_3, rfl, hf4_0, hf4_1, hf4_2, hf4_3⟩ := wG_rd hr4
  obtain ⟨A4_0, c4_0, e4_0, -⟩ := lst_val hf4_0
  subst e4_0
  obtain ⟨A4_1, c4_1, e4_1, -⟩ := lst_val hf4_1
  subst e4_1
  obtain ⟨A4_2, c4_2, e4_2, -⟩ := lst_val hf4_2
  subst e4_2
  obtain ⟨A4_3, c4_3, e4_3, -⟩ := lst_val hf4_3
  subst e4_3
  refine Sx.G.elem 25 56 (.tmp 13) (.tmp 14) 15 184 b4 f4 x.gs.length hK1 j rfl (by kernel_rfl) (by kernel_rfl) (by kernel_rfl) (by kernel_rfl) (by omega) ?_
  refine Sx.G.ldr 56 (.tmp 15) b4 (f4 + j * 15) [.slice A4_0 x4.prog.length c4_0, .int .i64 x4.a, .int .i64 x4.pc, .slice A4_1 x4.wr.length c4_1, .slice A4_2 x4.lv.length c4_2, .int .i64 x4.t.1, .int .i64 x4.t.2.1, .bool x4.t.2.2, .int .i64 x4.pd, .int .i64 x4.x.1, .int .i64 x4.x.2.1, .bool x4.x.2.2.1, .int .i64 x4.x.2.2.2, .bool x4.hl, .slice A4_3 x4.seen.length c4_3] rfl (by kernel_rfl) (by kernel_rfl) (fun w S => hm4 w _ S) (by kernel_rfl) (by kernel_rfl) ?_
  refine Sx.G.c 112 #[.agg #[.slice A4_0 x4.prog.length c4_0, .int .i64 x4.a, .int .i64 x4.pc, .slice A4_1 x4.wr.length c4_1, .slice A4_2 x4.lv.length c4_2, .int .i64 x4.t.1, .int .i64 x4.t.2.1, .bool x4.t.2.2, .int .i64 x4.pd, .int .i64 x4.x.1, .int .i64 x4.x.2.1, .bool x4.x.2.2.1, .int .i64 x4.x.2.2.2, .bool x4.hl, .slice A4_3 x4.seen.length c4_3]] (fun w5 S => (implx_another x4 _ _ (hcap1.2 _ (hx4 ▸ List.getElem_mem _)) (St.old S hR4)).mono fun e w5' hp => ?_)
  obtain ⟨cs, F, rfl, ho, hF, hb⟩ := hp
  obtain ⟨P5_0, P5_1, P5_2, P5_3, rfl, f5_0, f5_1, f5_2, f5_3⟩ := wG_rd (wG.reads ho)
  obtain ⟨A5_0, c5_0, e5_0, -⟩ := lst_val f5_0
  subst e5_0
  obtain ⟨A5_1, c5_1, e5_1, -⟩ := lst_val f5_1
  subst e5_1
  obtain ⟨A5_2, c5_2, e5_2, -⟩ := lst_val f5_2
  subst e5_2
  obtain ⟨A5_3, c5_3, e5_3, -⟩ := lst_val f5_3
  subst e5_3
  generalize F = F5 at ho hF
  refine ⟨_, _, rfl, (St.got S hb ho hF), ?_⟩
  clear S hb ho hF f5_0 f5_1 f5_2 f5_3
  refine Sx.G.sw [.slice A5_0 x4.prog.length c5_0, .int .i64 x4.a, .int .i64 x4.pc, .slice A5_1 x4.wr.length c5_1, .slice A5_2 x4.lv.length c5_2, .int .i64 x4.t.1, .int .i64 x4.t.2.1, .bool x4.t.2.2, .int .i64 x4.pd, .int .i64 x4.x.1, .int .i64 x4.x.2.1, .bool x4.x.2.2.1, .int .i64 x4.x.2.2.2, .bool x4.hl, .slice A5_3 x4.seen.length c5_3] .a1 ?_
  refine Sx.G.p (.bool true) ?_
  refine Sx.G.nil (Sx.E.next (Sx.C.ret ?_))
  refine Sx.E.retg2 (.agg #[.slice A5_0 x4.prog.length c5_0, .int .i64 x4.a, .int .i64 x4.pc, .slice A5_1 x4.wr.length c5_1, .slice A5_2 x4.lv.length c5_2, .int .i64 x4.t.1, .int .i64 x4.t.2.1, .bool x4.t.2.2, .int .i64 x4.pd, .int .i64 x4.x.1, .int .i64 x4.x.2.1, .bool x4.x.2.2.1, .int .i64 x4.x.2.2.2, .bool x4.hl, .slice A5_3 x4.seen.length c5_3]) (.bool true) rfl (Sx.IsRes.row b2 1 [.slice A5_0 x4.prog.length c5_0, .int .i64 x4.a, .int .i64 x4.pc, .slice A5_1 x4.wr.length c5_1, .slice A5_2 x4.lv.length c5_2, .int .i64 x4.t.1, .int .i64 x4.t.2.1, .bool x4.t.2.2, .int .i64 x4.pd, .int .i64 x4.x.1, .int .i64 x4.x.2.1, .bool x4.x.2.2.1, .int .i64 x4.x.2.2.2, .bool x4.hl, .slice A5_3 x4.seen.length c5_3] (by kernel_rfl) rfl (by kernel_rfl) (by kernel_rfl)) (Sx.IsRes.slot (by kernel_rfl)) (fun w S => ?_)
  rw [show guestAt x (j : Int) = (x4, true) from by rw [hx4]; unfold guestAt; rw [hc3, if_pos rfl]; simp [List.getD_eq_getElem?_getD, hjl]]
  exact ⟨_, _, rfl, S.own 0 rfl, S.nodup 0 rfl, S.below⟩
theorem impl_withg (x : bT) (cs : List Value) (g : Int) (y : gT) (ds : List Value) (w : World) (hn : wB.wf x) (hc : wB.cap x) (h : wB.rd w 0 w.heap.size x cs) (hg : (Lit.int .i64 g).wf = true) (hy : wG.wf y) (hd : wG.cap y) (k : wG.rd w 0 w.heap.size y ds) : Calls Tryz.prog 47 #[.agg cs.toArray, .int .i64 g, .agg ds.toArray] w (Gives wB w (withG x g y)) := by
 have hgl : x.gs.length ≤ 1048576 := hc.2.1.1
 have hR := h
 obtain ⟨hP0, hP1, hP2, rfl, hf0, hf1, hf2⟩ := wB_rd h
 obtain ⟨hA0, hK0, he0, -⟩ := lst_val hf0
 subst he0
 obtain ⟨hA1, hK1, he1, -⟩ := lst_val hf1
 subst he1
 obtain ⟨hA2, hK2, he2, -⟩ := lst_val hf2
 subst he2
 have kR := k
 obtain ⟨kP0, kP1, kP2, kP3, rfl, kf0, kf1, kf2, kf3⟩ := wG_rd k
 obtain ⟨kA0, kK0, ke0, -⟩ := lst_val kf0
 subst ke0
 obtain ⟨kA1, kK1, ke1, -⟩ := lst_val kf1
 subst ke1
 obtain ⟨kA2, kK2, ke2, -⟩ := lst_val kf2
 subst ke2
 obtain ⟨kA3, kK3, ke3, -⟩ := lst_val kf3
 subst ke3
 refine Sx.enter (args := [.agg #[.slice hA0 x.mem.length hK0, .slice hA1 x.gs.length hK1, .slice hA2 x.outs.length hK2, .int .i64 x.pd], .int .i64 g, .agg #[.slice kA0 y.prog.length kK0, .int .i64 y.a, .int .i64 y.pc, .slice kA1 y.wr.length kK1, .slice kA2 y.lv.length kK2, .int .i64 y.t.1, .int .i64 y.t.2.1, .bool y.t.2.2, .int .i64 y.pd, .int .i64 y.x.1, .int .i64 y.x.2.1, .bool y.x.2.2.1, .int .i64 y.x.2.2.2, .bool y.hl, .slice kA3 y.seen.length kK3]]) Tryz.func47 rfl Tryz.ntmps47 rfl ?_
 refine Sx.C.seq (Sx.C.region ?_)
 refine Sx.G.b [.slice hA0 x.mem.length hK0, .slice hA1 x.gs.length hK1, .slice hA2 x.outs.length hK2, .int .i64 x.pd] (fun b1 => ?_)
 refine Sx.G.b [.slice kA0 y.prog.length kK0, .int .i64 y.a, .int .i64 y.pc, .slice kA1 y.wr.length kK1, .slice kA2 y.lv.length kK2, .int .i64 y.t.1, .int .i64 y.t.2.1, .bool y.t.2.2, .int .i64 y.pd, .int .i64 y.x.1, .int .i64 y.x.2.1, .bool y.x.2.2.1, .int .i64 y.x.2.2.2, .bool y.hl, .slice kA3 y.seen.length kK3] (fun b2 => ?_)
 refine Sx.G.ar [.slice none 0 0, .slice none 0 0, .slice none 0 0, .int .i64 0] (fun b3 => ?_)
 refine Sx.G.nil (Sx.E.next (Sx.C.seq (Sx.C.region ?_)))
 refine Sx.G.lw .m2 ?_
 refine Sx.G.c 45 #[.agg #[.slice hA0 x.mem.length hK0, .slice hA1 x.gs.length hK1, .slice hA2 x.outs.length hK2, .int .i64 x.pd]] (fun w4 S => (implx_copybare x _ _ hc (St.old S hR)).mono fun e w4' hp => ?_)
 obtain ⟨cs, F, rfl, ho, hF, hb⟩ := hp
 obtain ⟨P4_0, P4_1, P4_2, G4_0, G4_1, G4_2, rfl, S'⟩ := rB_open (St.got S hb ho hF)
 obtain ⟨A4_0, c4_0, e4_0, -⟩ := lst_val (S'.reads 0 rfl)
 subst e4_0
 obtain ⟨A4_1, c4_1, e4_1, -⟩ := lst_val (S'.reads 1 rfl)
 subst e4_1
 obtain ⟨A4_2, c4_2, e4_2, -⟩ := lst_val (S'.reads 2 rfl)
 subst e4_2
 refine ⟨_, _, rfl, S', ?_⟩
 clear S S' ho hF hb
 refine Sx.G.ar [.slice none 0 0, .slice none 0 0, .slice none 0 0, .int .i64 0] (fun b5 => ?_)
 refine Sx.G.sw [.slice A4_0 x.mem.length c4_0, .slice A4_1 x.gs.length c4_1, .slice A4_2 x.outs.length c4_2, .int .i64 x.pd] .a0 ?_
 refine Sx.G.nil (Sx.E.next (Sx.C.seq (Sx.C.seq (Sx.C.region ?_))))
 refine Sx.G.p (.pointer (some ⟨b5, 1, none⟩)) ?_
 refine Sx.G.g (.slice A4_1 x.gs.length c4_1) .m0 .m1 ?_
 refine Sx.G.p (.int .i64 g) ?_
 refine Sx.G.cp 98 #[.slice A4_1 x.gs.length c4_1, .int .i64 g] (.bool (inB g 0 (((x.gs.length : Nat) : Int) - 1))) (fun w S => by exact implx_has A4_1 x.gs.length c4_1 g _) ?_
 refine Sx.G.nil (Sx.E.next ?_)
 cases hc6 : (inB g 0 (((x.gs.length : Nat) : Int) - 1))
 ·
  have hb6 := hc6
  refine Sx.C.nn ?_
  refine Sx.C.skip (Sx.E.next (Sx.C.seq (Sx.C.region ?_)))
  refine Sx.G.lw .m0 ?_
  refine Sx.G.sw [.slice A4_0 x.mem.length c4_0, .slice A4_1 x.gs.length c4_1, .slice A4_2 x.outs.length c4_2, .int .i64 x.pd] .a4 ?_
  refine Sx.G.nil (Sx.E.next (Sx.C.ret ?_))
  refine Sx.E.retc b3 4 [.slice A4_0 x.mem.length c4_0, .slice A4_1 x.gs.length c4_1, .slice A4_2 x.outs.length c4_2, .int .i64 x.pd] rfl (by kernel_rfl) rfl (by kernel_rfl) (by kernel_rfl) (fun w S => ?_)
  rw [show withG x g y = x from if_neg (by rw [hc6]; decide)]
  obtain ⟨ho, hF⟩ := rB_shut (g := x) S 1 rfl 2 rfl 3 rfl (by decide) (by decide) (by decide)
  exact weak_B _ _ ⟨_, _, rfl, ho, hF, S.below⟩
 ·
  have hb6 := hc6
  have hin := inB_iff.1 hc6
  obtain ⟨j, hj⟩ : ∃ j : Nat, g = (j : Int) := ⟨g.toNat, by omega⟩
  subst hj
  have hjl : j < x.gs.length := by omega
  refine Sx.C.yy ?_
  refine Sx.C.pk (.c .m2 (.c .m0 (.c .m1 (.c .m3 (.c .m4 (.c .m5 (.c .m6 .n))))))) ?_
  have hjk7 : j < x.gs.length := hjl
  refine Sx.C.open (r := wG) (pre := x.gs.take j) (x := x.gs[j]'(hjl)) (post := x.gs.drop (j + 1)) (by rw [← Kit.drop_step (hjl), List.take_append_drop]) (by decide) (fun b7 o7 es G17 Gi7 G27 eA eF hes hm hmc7 => ?_)
  subst eA eF
  refine Sx.C.know (p := ∃ P7_0 P7_1 P7_2 P7_3, es = [P7_0, .int .i64 (x.gs[j]'(hjl)).a, .int .i64 (x.gs[j]'(hjl)).pc, P7_1, P7_2, .int .i64 (x.gs[j]'(hjl)).t.1, .int .i64 (x.gs[j]'(hjl)).t.2.1, .bool (x.gs[j]'(hjl)).t.2.2, .int .i64 (x.gs[j]'(hjl)).pd, .int .i64 (x.gs[j]'(hjl)).x.1, .int .i64 (x.gs[j]'(hjl)).x.2.1, .bool (x.gs[j]'(hjl)).x.2.2.1, .int .i64 (x.gs[j]'(hjl)).x.2.2.2, .bool (x.gs[j]'(hjl)).hl, P7_3]) (fun w S => by obtain ⟨P7_0, P7_1, P7_2, P7_3, e, -⟩ := wG_rd ((wG).reads (St.at_ S 1 rfl).1); exact ⟨P7_0, P7_1, P7_2, P7_3, e⟩) ?_
  rintro ⟨P7_0, P7_1, P7_2, P7_3, rfl⟩
  refine Sx.C.draw (.take 0 (.take 1 (.take 2 (.take 3 (.alone 4 (.take 5 (.alone 6 .nil))))))) [vr b5 [.slice A4_0 x.mem.length c4_0, .slice (some ⟨b7, o7, none⟩) x.gs.length c4_1, .slice A4_2 x.outs.length c4_2, .int .i64 x.pd], vr b2 [.slice kA0 y.prog.length kK0, .int .i64 y.a, .int .i64 y.pc, .slice kA1 y.wr.length kK1, .slice kA2 y.lv.length kK2, .int .i64 y.t.1, .int .i64 y.t.2.1, .bool y.t.2.2, .int .i64 y.pd, .int .i64 y.x.1, .int .i64 y.x.2.1, .bool y.x.2.2.1, .int .i64 y.x.2.2.2, .bool y.hl, .slice kA3 y.seen.length kK3]] (fun w S => St.pick S [2, 6] _ rfl (by decide)) (by kernel_rfl) (by kernel_rfl) (by kernel_rfl) ?_
  refine Sx.GT.p (.pointer (some ⟨b5, 1, none⟩)) ?_
  refine Sx.GT.g (.slice (some ⟨b7, o7, none⟩) x.gs.length c4_1) .m0 .m1 ?_
  refine Sx.GT.p (.int .i64 (j : Int)) ?_
  refine Sx.GT.lw .m1 ?_
  refine Sx.GT.alone (Sx.Alone.c 112 #[.agg #[.slice kA0 y.prog.length kK0, .int .i64 y.a, .int .i64 y.pc, .slice kA1 y.wr.length kK1, .slice kA2 y.lv.length kK2, .int .i64 y.t.1, .int .i64 y.t.2.1, .bool y.t.2.2, .int .i64 y.pd, .int .i64 y.x.1, .int .i64 y.x.2.1, .bool y.x.2.2.1, .int .i64 y.x.2.2.2, .bool y.hl, .slice kA3 y.seen.length kK3]] (fun w8 S => (implx_another y _ _ hd (St.old S kR)).mono fun e w8' hp => ?_))
  obtain ⟨cs, F, rfl, ho, hF, hb⟩ := hp
  obtain ⟨P8_0, P8_1, P8_2, P8_3, rfl, f8_0, f8_1, f8_2, f8_3⟩ := wG_rd (wG.reads ho)
  obtain ⟨A8_0, c8_0, e8_0, -⟩ := lst_val f8_0
  subst e8_0
  obtain ⟨A8_1, c8_1, e8_1, -⟩ := lst_val f8_1
  subst e8_1
  obtain ⟨A8_2, c8_2, e8_2, -⟩ := lst_val f8_2
  subst e8_2
  obtain ⟨A8_3, c8_3, e8_3, -⟩ := lst_val f8_3
  subst e8_3
  generalize F = F8 at ho hF
  refine ⟨_, _, rfl, (St.got S hb ho hF), (fun w S => St.pick S [3, 7] _ rfl (by decide)), ?_⟩
  clear S hb ho hF f8_0 f8_1 f8_2 f8_3
  refine Sx.GT.elem 25 56 (.tmp 15) (.tmp 16) 15 184 b7 o7 x.gs.length c4_1 j 5 (by rfl) (by rfl) (by kernel_rfl) (by kernel_rfl) (by kernel_rfl) (by kernel_rfl) (by omega) ?_
  refine Sx.GT.alone (Sx.Alone.hw j [.slice A8_0 y.prog.length c8_0, .int .i64 y.a, .int .i64 y.pc, .slice A8_1 y.wr.length c8_1, .slice A8_2 y.lv.length c8_2, .int .i64 y.t.1, .int .i64 y.t.2.1, .bool y.t.2.2, .int .i64 y.pd, .int .i64 y.x.1, .int .i64 y.x.2.1, .bool y.x.2.2.1, .int .i64 y.x.2.2.2, .bool y.hl, .slice A8_3 y.seen.length c8_3] .a1 (by rw [List.length_take]; have : j < x.gs.length := hjl; omega) (fun w S => St.pick S [3, 7] _ rfl (by decide)) ?_)
  refine Sx.GT.nil (Sx.E.next ?_)
  refine Sx.C.claims (L' := [ow (rLsw wG) w.heap.size (max w4'.heap.size w8'.heap.size) (x.gs.set j y) [.slice (some ⟨b7, o7, none⟩) x.gs.length c4_1] (b7 :: (G17 ++ (F8 ++ G27))), vr b5 [.slice A4_0 x.mem.length c4_0, .slice (some ⟨b7, o7, none⟩) x.gs.length c4_1, .slice A4_2 x.outs.length c4_2, .int .i64 x.pd], ow (rLsw (rLsw rInt)) w4.heap.size w4'.heap.size x.mem [.slice A4_0 x.mem.length c4_0] G4_0, ow (rLst 3 rInt) w4.heap.size (w4'.heap.size) x.outs [.slice A4_2 x.outs.length c4_2] G4_2, vr b3 [.slice none 0 0, .slice none 0 0, .slice none 0 0, .int .i64 0], vr b2 [.slice kA0 y.prog.length kK0, .int .i64 y.a, .int .i64 y.pc, .slice kA1 y.wr.length kK1, .slice kA2 y.lv.length kK2, .int .i64 y.t.1, .int .i64 y.t.2.1, .bool y.t.2.2, .int .i64 y.pd, .int .i64 y.x.1, .int .i64 y.x.2.1, .bool y.x.2.2.1, .int .i64 y.x.2.2.2, .bool y.hl, .slice kA3 y.seen.length kK3], vr b1 [.slice hA0 x.mem.length hK0, .slice hA1 x.gs.length hK1, .slice hA2 x.outs.length hK2, .int .i64 x.pd]]) (fun w' S => by
   have S2 := St.pick S [1, 0, 3, 4, 5, 6, 7, 8] (_ :: _ :: [vr b5 [.slice A4_0 x.mem.length c4_0, .slice (some ⟨b7, o7, none⟩) x.gs.length c4_1, .slice A4_2 x.outs.length c4_2, .int .i64 x.pd], ow (rLsw (rLsw rInt)) w4.heap.size w4'.heap.size x.mem [.slice A4_0 x.mem.length c4_0] G4_0, ow (rLst 3 rInt) w4.heap.size (w4'.heap.size) x.outs [.slice A4_2 x.outs.length c4_2] G4_2, vr b3 [.slice none 0 0, .slice none 0 0, .slice none 0 0, .int .i64 0], vr b2 [.slice kA0 y.prog.length kK0, .int .i64 y.a, .int .i64 y.pc, .slice kA1 y.wr.length kK1, .slice kA2 y.lv.length kK2, .int .i64 y.t.1, .int .i64 y.t.2.1, .bool y.t.2.2, .int .i64 y.pd, .int .i64 y.x.1, .int .i64 y.x.2.1, .bool y.x.2.2.1, .int .i64 y.x.2.2.2, .bool y.hl, .slice kA3 y.seen.length kK3], vr b1 [.slice hA0 x.mem.length hK0, .slice hA1 x.gs.length hK1, .slice hA2 x.outs.length hK2, .int .i64 x.pd]]) rfl (by decide)
   have S3 := Sx.St.closeW S2 (by decide) x.gs.length _ (by rw [List.length_append, List.length_cons, List.length_take, List.length_drop]; have : j < x.gs.length := hjl; omega) hmc7
   rw [← set_at (hjl)] at S3
   exact S3) ?_
  refine Sx.C.seq ?_
  refine Sx.C.sl [(6, .pointer (some ⟨b3, 0, none⟩)), (7, .pointer (some ⟨b5, 0, none⟩))] ?_
  refine Sx.C.region ?_
  refine Sx.G.lw .m1 ?_
  refine Sx.G.sw [.slice A4_0 x.mem.length c4_0, .slice (some ⟨b7, o7, none⟩) x.gs.length c4_1, .slice A4_2 x.outs.length c4_2, .int .i64 x.pd] .a4 ?_
  refine Sx.G.nil (Sx.E.next (Sx.C.ret ?_))
  refine Sx.E.retc b3 4 [.slice A4_0 x.mem.length c4_0, .slice (some ⟨b7, o7, none⟩) x.gs.length c4_1, .slice A4_2 x.outs.length c4_2, .int .i64 x.pd] rfl (by kernel_rfl) rfl (by kernel_rfl) (by kernel_rfl) (fun w S => ?_)
  rw [show withG x (j : Int) y = ({ x with gs := x.gs.set j y } : bT) from by unfold withG; rw [hc6, if_pos rfl]; rfl]
  obtain ⟨ho, hF⟩ := rB_shut (g := ({ x with gs := x.gs.set j y } : bT)) S 2 rfl 0 rfl 3 rfl (by decide) (by decide) (by decide)
  exact weak_B _ _ ⟨_, _, rfl, ho, hF, S.below⟩
theorem impl_putout (x : bT) (cs : List Value) (n : Int) (w : World) (hn : wB.wf x) (hc : wB.cap x) (h : wB.rd w 0 w.heap.size x cs) (hg : (Lit.int .i64 n).wf = true) : Calls Tryz.prog 263 #[.agg cs.toArray, .int .i64 n] w (Gives wB w (putB x n)) := by
 have hlo : x.outs.length ≤ 1048576 := hc.2.2.1.1
 have hR := h
 obtain ⟨hP0, hP1, hP2, rfl, hf0, hf1, hf2⟩ := wB_rd h
 obtain ⟨hA0, hK0, he0, -⟩ := lst_val hf0
 subst he0
 obtain ⟨hA1, hK1, he1, -⟩ := lst_val hf1
 subst he1
 obtain ⟨hA2, hK2, he2, -⟩ := lst_val hf2
 subst he2
 refine Sx.enter (args := [.agg #[.slice hA0 x.mem.length hK0, .slice hA1 x.gs.length hK1, .slice hA2 x.outs.length hK2, .int .i64 x.pd], .int .i64 n]) Tryz.func263 rfl Tryz.ntmps263 rfl ?_
 refine Sx.C.seq (Sx.C.region ?_)
 refine Sx.G.b [.slice hA0 x.mem.length hK0, .slice hA1 x.gs.length hK1, .slice hA2 x.outs.length hK2, .int .i64 x.pd] (fun b1 => ?_)
 refine Sx.G.ar [.slice none 0 0, .slice none 0 0, .slice none 0 0, .int .i64 0] (fun b2 => ?_)
 refine Sx.G.nil (Sx.E.next (Sx.C.seq (Sx.C.region ?_)))
 refine Sx.G.lw .m1 ?_
 refine Sx.G.c 45 #[.agg #[.slice hA0 x.mem.length hK0, .slice hA1 x.gs.length hK1, .slice hA2 x.outs.length hK2, .int .i64 x.pd]] (fun w3 S => (implx_copybare x _ _ hc (St.old S hR)).mono fun e w3' hp => ?_)
 obtain ⟨cs, F, rfl, ho, hF, hb⟩ := hp
 obtain ⟨P3_0, P3_1, P3_2, G3_0, G3_1, G3_2, rfl, S'⟩ := rB_open (St.got S hb ho hF)
 obtain ⟨A3_0, c3_0, e3_0, -⟩ := lst_val (S'.reads 0 rfl)
 subst e3_0
 obtain ⟨A3_1, c3_1, e3_1, -⟩ := lst_val (S'.reads 1 rfl)
 subst e3_1
 obtain ⟨A3_2, c3_2, e3_2, -⟩ := lst_val (S'.reads 2 rfl)
 subst e3_2
 refine ⟨_, _, rfl, S', ?_⟩
 clear S S' ho hF hb
 refine Sx.G.ar [.slice none 0 0, .slice none 0 0, .slice none 0 0, .int .i64 0] (fun b4 => ?_)
 refine Sx.G.sw [.slice A3_0 x.mem.length c3_0, .slice A3_1 x.gs.length c3_1, .slice A3_2 x.outs.length c3_2, .int .i64 x.pd] .a0 ?_
 refine Sx.G.nil (Sx.E.next (Sx.C.seq (Sx.C.region ?_)))
 refine Sx.G.p (.pointer (some ⟨b4, 2, none⟩)) ?_
 refine Sx.G.g (.slice A3_2 x.outs.length c3_2) .m0 .m2 ?_
 refine Sx.G.cp 150 #[.slice A3_2 x.outs.length c3_2] (.agg #[.slice A3_2 x.outs.length c3_2, .int .i64 40]) (fun w S => by exact implx_bI A3_2 x.outs.length c3_2 _) ?_
 refine Sx.G.ar [.slice none 0 0, .int .i64 0] (fun b5 => ?_)
 refine Sx.G.sw [.slice A3_2 x.outs.length c3_2, .int .i64 40] .a0 ?_
 refine Sx.G.nil (Sx.E.next (Sx.C.seq (Sx.C.region ?_)))
 refine Sx.G.p (.int .i64 n) ?_
 refine Sx.G.c 269 #[.pointer (some ⟨b5, 0, none⟩), .int .i64 n] (fun w6 S => (implx_addI x.outs n 40 _ _ _ _ _ (by omega) (St.pick S [0, 4, 1, 2, 3, 5, 6] (vr b5 [.slice A3_2 x.outs.length c3_2, .int .i64 40] :: ow (rLst 3 rInt) w3.heap.size (w3'.heap.size) x.outs [.slice A3_2 x.outs.length c3_2] G3_2 :: [vr b4 [.slice A3_0 x.mem.length c3_0, .slice A3_1 x.gs.length c3_1, .slice A3_2 x.outs.length c3_2, .int .i64 x.pd], ow (rLsw (rLsw rInt)) w3.heap.size w3'.heap.size x.mem [.slice A3_0 x.mem.length c3_0] G3_0, ow (rLsw wG) w3.heap.size w3'.heap.size x.gs [.slice A3_1 x.gs.length c3_1] G3_1, vr b2 [.slice none 0 0, .slice none 0 0, .slice none 0 0, .int .i64 0], vr b1 [.slice hA0 x.mem.length hK0, .slice hA1 x.gs.length hK1, .slice hA2 x.outs.length hK2, .int .i64 x.pd]]) rfl (by decide))).mono fun e w6' hp => ?_)
 obtain ⟨rfl, A6, c6, l6, h6, F6, S'⟩ := hp
 refine ⟨_, _, rfl, S', ?_⟩
 clear S S'
 refine Sx.G.nil (Sx.E.next (Sx.C.seq (Sx.C.region ?_)))
 refine Sx.G.p (.pointer (some ⟨b5, 0, none⟩)) ?_
 refine Sx.G.g (.slice A6 (addB x.outs 40 n).length c6) .m0 .m0 ?_
 refine Sx.G.p (.pointer (some ⟨b4, 2, none⟩)) ?_
 refine Sx.G.s (.slice A6 (addB x.outs 40 n).length c6) .a2 .a2 ?_
 refine Sx.G.nil (Sx.E.next (Sx.C.seq ?_))
 refine Sx.C.sl [(4, .pointer (some ⟨b2, 0, none⟩)), (5, .pointer (some ⟨b4, 0, none⟩))] ?_
 refine Sx.C.region ?_
 refine Sx.G.lw .m2 ?_
 refine Sx.G.sw [.slice A3_0 x.mem.length c3_0, .slice A3_1 x.gs.length c3_1, .slice A6 (addB x.outs 40 n).length c6, .int .i64 x.pd] .a5 ?_
 refine Sx.G.nil (Sx.E.next (Sx.C.ret ?_))
 refine Sx.E.retc b2 5 [.slice A3_0 x.mem.length c3_0, .slice A3_1 x.gs.length c3_1, .slice A6 (addB x.outs 40 n).length c6, .int .i64 x.pd] rfl (by kernel_rfl) rfl (by kernel_rfl) (by kernel_rfl) (fun w S => ?_)
 rw [show putB x n = ({ x with outs := addB x.outs 40 n } : bT) by unfold putB addB; by_cases hh : x.outs.length < 40; rw [if_pos hh, if_pos (by omega)]; rw [if_neg hh, if_neg (by omega)]]
 obtain ⟨ho, hF⟩ := rB_shut (g := ({ x with outs := addB x.outs 40 n } : bT)) S 3 rfl 4 rfl 1 rfl (by decide) (by decide) (by decide)
 exact weak_B _ _ ⟨_, _, rfl, ho, hF, S.below⟩
end Go.Proofs.YtmiokacihcpepaaGreat.Kit
