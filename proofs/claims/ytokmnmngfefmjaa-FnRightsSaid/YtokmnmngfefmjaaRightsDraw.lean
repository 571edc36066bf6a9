/-
  The given model's draws of access rights: numbers of an int's range, in new memory; no statement about the project's code stands here. No condition.
-/
import Derived.Test.YtokmnmngfefmjaaPick
namespace Go.Proofs.Ytokmnmngfefmjaa.Draw
open Go.ChangeShapes Go.WideShapes Go.ChangeAt Go.RowKit
open Go.Proofs.Ytokmnmngfefmjaa.Base

def WfPost (w0 : World) (A : Option Addr) (n c : Nat) (w : World) (g : Nat) (e : Ending) (w' : World) : Prop :=
  ∃ x : Int, e = .returned (.int .i64 x) ∧ (Lit.int .i64 x).wf = true ∧ Cur w0 A n c w' g ∧ w.grownBy w' (some g)

def rightsList : List Int := [3, 3, 1, 2, 0, 3, 1, -1, 4, 9223372036854775807]
theorem rightsList_wf : ∀ x ∈ rightsList, (Lit.int .i64 x).wf = true := by decide

set_option maxHeartbeats 1000000 in
theorem rights_any (w0 : World) (A : Option Addr) (n c g : Nat) (w : World) (hn : n ≤ 1048576) (hcode : CodeAt w0 A n) (hcur : Cur w0 A n c w g) :
    Calls Try.prog 29 #[.pointer (some ⟨g, 0, none⟩)] w (WfPost w0 A n c w g) := by
  have HC := Lib.hid hcode
  have HU := Lib.hid hcur
  have hlt := hcur.lt
  clear hcode hcur
  go_enter Try.func29, Try.ntmps29
  go_wp2_with fail
  refine (pick_any w0 A n c g _ w.heap.size 10 rightsList (by decide) (by decide) hn HC.out (HU.out.alloc _) (by omega) rfl (heap_alloc_new w _)).mono ?_
  rintro e w1 ⟨x, rfl, hx, hc1, hg1⟩
  have HF := Lib.hid (And.intro (rightsList_wf x hx) (And.intro hc1 (grown_trans (World.grownBy_alloc w _ _) hg1)))
  clear hx hc1 hg1
  go_wp2_with fail
  go_ret
  exact ⟨x, rfl, HF.out.1, HF.out.2.1, HF.out.2.2⟩

/-- Two numbers. -/
def TwoPost (w : World) (e : Ending) (w' : World) : Prop :=
  ∃ x y : Int, e = .returned (.tuple #[.int .i64 x, .int .i64 y]) ∧ (Lit.int .i64 x).wf = true ∧ (Lit.int .i64 y).wf = true ∧ Below w.heap.size w w'
def OnePost (w : World) (e : Ending) (w' : World) : Prop :=
  ∃ x : Int, e = .returned (.int .i64 x) ∧ (Lit.int .i64 x).wf = true ∧ Below w.heap.size w w'
def BoolPost (w : World) (e : Ending) (w' : World) : Prop :=
  ∃ x : Bool, e = .returned (.bool x) ∧ Below w.heap.size w w'

set_option maxHeartbeats 1000000 in
theorem two_any (A : Option Addr) (n c : Nat) (w : World) (hn : n ≤ 1048576) (hcode : CodeAt w A n) :
    Calls Try.prog 26 #[.slice A n c] w (TwoPost w) := by
  have HC := Lib.hid hcode
  clear hcode
  go_enter Try.func26, Try.ntmps26
  go_wp2_with fail
  refine (new_any A n c _ hn HC.out).mono ?_
  rintro e w0 ⟨rfl, hcur, _⟩
  have HU := Lib.hid hcur
  clear hcur
  go_wp2_with fail
  refine (rights_any w A n c _ _ hn HC.out HU.out).mono ?_
  rintro e w1 ⟨x, rfl, hx, hc1, hg1⟩
  have H1 := Lib.hid (And.intro hx hc1)
  clear hx hc1 hg1
  go_wp2_with fail
  refine (rights_any w A n c _ _ hn HC.out H1.out.2).mono ?_
  rintro e w2 ⟨y, rfl, hy, hc2, hg2⟩
  have H2 := Lib.hid (And.intro hy hc2)
  clear hy hc2 hg2
  go_wp2_with fail
  go_ret2
  exact ⟨x, y, rfl, H1.out.1, H2.out.1, H2.out.2.1⟩

theorem drawBoth_any (A : Option Addr) (n c : Nat) (w : World) (hn : n ≤ 1048576) (hcode : CodeAt w A n) :
    Calls Try.prog 11 #[.slice A n c] w (TwoPost w) := by
  have HC := Lib.hid hcode
  clear hcode
  go_enter Try.func11, Try.ntmps11
  go_wp2_with fail
  refine (two_any A n c _ hn HC.out).mono ?_
  rintro e w1 ⟨x, y, rfl, hx, hy, hb⟩
  have H := Lib.hid (And.intro hx (And.intro hy hb))
  clear hx hy hb
  go_wp2_with fail
  go_ret2
  exact ⟨x, y, rfl, H.out.1, H.out.2.1, H.out.2.2⟩
theorem drawEnough_any (A : Option Addr) (n c : Nat) (w : World) (hn : n ≤ 1048576) (hcode : CodeAt w A n) :
    Calls Try.prog 13 #[.slice A n c] w (TwoPost w) := by
  have HC := Lib.hid hcode
  clear hcode
  go_enter Try.func13, Try.ntmps13
  go_wp2_with fail
  refine (two_any A n c _ hn HC.out).mono ?_
  rintro e w1 ⟨x, y, rfl, hx, hy, hb⟩
  have H := Lib.hid (And.intro hx (And.intro hy hb))
  clear hx hy hb
  go_wp2_with fail
  go_ret2
  exact ⟨x, y, rfl, H.out.1, H.out.2.1, H.out.2.2⟩

theorem drawNeed_any (A : Option Addr) (n c : Nat) (w : World) (hn : n ≤ 1048576) (hcode : CodeAt w A n) :
    Calls Try.prog 14 #[.slice A n c] w (BoolPost w) := by
  have HC := Lib.hid hcode
  clear hcode
  go_enter Try.func14, Try.ntmps14
  go_wp2_with fail
  refine (new_any A n c _ hn HC.out).mono ?_
  rintro e w0 ⟨rfl, hcur, _⟩
  have HU := Lib.hid hcur
  clear hcur
  go_wp2_with fail
  refine (once_any w A n c _ _ 2 (by omega) (by omega) hn HC.out HU.out).mono ?_
  rintro e w1 ⟨x, rfl, hc1, hg1⟩
  have H1 := Lib.hid hc1
  clear hc1 hg1
  go_wp2_with fail
  go_ret
  exact ⟨x, rfl, H1.out.1⟩
theorem drawText_any (A : Option Addr) (n c : Nat) (w : World) (hn : n ≤ 1048576) (hcode : CodeAt w A n) :
    Calls Try.prog 15 #[.slice A n c] w (OnePost w) := by
  have HC := Lib.hid hcode
  clear hcode
  go_enter Try.func15, Try.ntmps15
  go_wp2_with fail
  refine (new_any A n c _ hn HC.out).mono ?_
  rintro e w0 ⟨rfl, hcur, _⟩
  have HU := Lib.hid hcur
  clear hcur
  go_wp2_with fail
  refine (rights_any w A n c _ _ hn HC.out HU.out).mono ?_
  rintro e w1 ⟨x, rfl, hx, hc1, hg1⟩
  have H1 := Lib.hid (And.intro hx hc1)
  clear hx hc1 hg1
  go_wp2_with fail
  go_ret
  exact ⟨x, rfl, H1.out.1, H1.out.2.1⟩
end Go.Proofs.Ytokmnmngfefmjaa.Draw
