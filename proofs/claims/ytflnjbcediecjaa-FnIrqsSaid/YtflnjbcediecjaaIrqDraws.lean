/-
  The draws of chapter 14: what is drawn is within its range; no statement about the project's code stands here. No condition beyond the length of the code.
-/
import Derived.Test.YtflnjbcediecjaaSlotDraws
namespace Go.Proofs.Ytflnjbcediecjaa.Irqs
set_option maxRecDepth 100000
open Go.ChangeShapes Go.WideShapes Go.ChangeAt Go.RowKit
open Go.Proofs.Ytflnjbcediecjaa.Base Go.Proofs.Ytflnjbcediecjaa.Mem Go.Proofs.Ytflnjbcediecjaa.Draw Go.Proofs.Ytflnjbcediecjaa.SDraw
set_option linter.unusedVariables false
set_option linter.unusedSimpArgs false

theorem wf_of {l : List Int} (h : l.all (fun x => (Lit.int .i64 x).wf) = true) {x : Int} (hx : x ∈ l) : (Lit.int .i64 x).wf = true := List.all_eq_true.1 h x hx
def NPost (w0 : World) (A : Option Addr) (n c : Nat) (w : World) (g : Nat) (e : Ending) (w' : World) : Prop :=
  ∃ x, e = .returned (.int .i64 x) ∧ (Lit.int .i64 x).wf = true ∧ Cur w0 A n c w' g ∧ w.grownBy w' (some g)
def OneB (w : World) (e : Ending) (w' : World) : Prop := ∃ x, e = .returned (.int .i64 x) ∧ (Lit.int .i64 x).wf = true ∧ Below w.heap.size w w'
def TwoB (w : World) (e : Ending) (w' : World) : Prop := ∃ x y, e = .returned (.tuple #[.int .i64 x, .int .i64 y]) ∧ (Lit.int .i64 x).wf = true ∧ (Lit.int .i64 y).wf = true ∧ Below w.heap.size w w'

set_option maxHeartbeats 4000000 in
theorem pend_any (w0 : World) (A : Option Addr) (n c g : Nat) (w : World) (hn : n ≤ 1048576) (hcode : CodeAt w0 A n) (hcur : Cur w0 A n c w g) :
    Calls Try.prog 29 #[.pointer (some ⟨g, 0, none⟩)] w (NPost w0 A n c w g) := by
  have HC := Lib.hid hcode
  have HU := Lib.hid hcur
  clear hcode hcur
  go_enter Try.func29, Try.ntmps29
  go_wp2_with fail
  refine (below_any w0 A n c g _ 256 (by omega) (by omega) hn HC.out HU.out).mono ?_
  rintro e w1 ⟨x, rfl, hx0, hx1, hc1, hg1⟩
  have Hx := Lib.hid (wf_small hx0 hx1 (by omega))
  have HU1 := Lib.hid (And.intro hc1 hg1)
  clear hx0 hx1 hc1 hg1 HU
  go_wp2_with fail
  refine (below_any w0 A n c g _ 256 (by omega) (by omega) hn HC.out HU1.out.1).mono ?_
  rintro e w2 ⟨y, rfl, hy0, hy1, hc2, hg2⟩
  have Hy := Lib.hid (wf_small hy0 hy1 (by omega))
  have HU2 := Lib.hid (And.intro hc2 (gtr HU1.out.2 hg2))
  have hlt := hc2.lt
  clear hy0 hy1 hc2 hg2 HU1
  go_wp2_with fail
  refine (pick_any w0 A n c g _ w2.heap.size 9 [0, 1, 128, 255, x, y, -1, 256, 9223372036854775807] (by decide) (by decide) hn HC.out (HU2.out.1.alloc _) (by omega) rfl (heap_alloc_new w2 _)).mono ?_
  rintro e w3 ⟨z, rfl, hz, hc3, hg3⟩
  have HF := Lib.hid (And.intro (wf_of (by simp only [List.all_cons, List.all_nil, Hx.out, Hy.out]; decide) hz) (And.intro hc3 (gtr (gtr HU2.out.2 (grown_new w2 _ _)) hg3)))
  clear hz hc3 hg3 HU2
  go_wp2_with fail
  go_ret
  exact ⟨z, rfl, HF.out.1, HF.out.2.1, HF.out.2.2⟩

set_option maxHeartbeats 4000000 in
theorem drawTake_any (A : Option Addr) (n c : Nat) (w : World) (hn : n ≤ 1048576) (hcode : CodeAt w A n) :
    Calls Try.prog 15 #[.slice A n c] w (OneB w) := by
  have HC := Lib.hid hcode
  clear hcode
  go_enter Try.func15, Try.ntmps15
  go_wp2_with fail
  refine (new_any A n c _ hn HC.out).mono ?_
  rintro e w0 ⟨rfl, hcur, hsz0⟩
  clear hsz0
  have HU0 := Lib.hid hcur
  clear hcur
  go_wp2_with fail
  refine (pend_any w A n c _ _ hn HC.out HU0.out).mono ?_
  rintro e w1 ⟨x, rfl, hx, hc1, hg1⟩
  have HF := Lib.hid (And.intro hx hc1.1)
  clear hx hc1 hg1 HU0
  go_wp2_with fail
  go_ret
  exact ⟨x, rfl, HF.out.1, HF.out.2⟩

set_option maxHeartbeats 4000000 in
theorem drawSplit_any (A : Option Addr) (n c : Nat) (w : World) (hn : n ≤ 1048576) (hcode : CodeAt w A n) :
    Calls Try.prog 18 #[.slice A n c] w (TwoB w) := by
  have HC := Lib.hid hcode
  clear hcode
  go_enter Try.func18, Try.ntmps18
  go_wp2_with fail
  refine (new_any A n c _ hn HC.out).mono ?_
  rintro e w0 ⟨rfl, hcur, hsz0⟩
  clear hsz0
  have HU0 := Lib.hid hcur
  clear hcur
  go_wp2_with fail
  refine (pend_any w A n c _ _ hn HC.out HU0.out).mono ?_
  rintro e w1 ⟨x, rfl, hx, hc1, hg1⟩
  have Hx := Lib.hid hx
  have HU1 := Lib.hid hc1
  have hlt := hc1.lt
  clear hx hc1 hg1 HU0
  go_wp2_with fail
  refine (pend_any w A n c _ _ hn HC.out HU1.out).mono ?_
  rintro e w2 ⟨y, rfl, hy, hc2, hg2⟩
  have HF := Lib.hid (And.intro hy hc2.1)
  clear hy hc2 hg2 HU1
  go_wp2_with fail
  exact bodyPost_ret (v := .tuple #[.int .i64 x, .int .i64 y]) (by simp [results, Try.results18, go_sem]) rfl ⟨x, y, rfl, Hx.out, HF.out.1, HF.out.2⟩

set_option maxHeartbeats 4000000 in
theorem drawPost_any (A : Option Addr) (n c : Nat) (w : World) (hn : n ≤ 1048576) (hcode : CodeAt w A n) :
    Calls Try.prog 12 #[.slice A n c] w (TwoB w) := by
  have HC := Lib.hid hcode
  clear hcode
  go_enter Try.func12, Try.ntmps12
  go_wp2_with fail
  refine (new_any A n c _ hn HC.out).mono ?_
  rintro e w0 ⟨rfl, hcur, hsz0⟩
  clear hsz0
  have HU0 := Lib.hid hcur
  clear hcur
  go_wp2_with fail
  refine (pend_any w A n c _ _ hn HC.out HU0.out).mono ?_
  rintro e w1 ⟨x, rfl, hx, hc1, hg1⟩
  have Hx := Lib.hid hx
  have HU1 := Lib.hid hc1
  have hlt := hc1.lt
  clear hx hc1 hg1 HU0
  go_wp2_with fail
  refine (pick_any w A n c _ _ w1.heap.size 7 [0, 1, 5, 7, 8, -1, 9223372036854775807] (by decide) (by decide) hn HC.out (HU1.out.alloc _) (by omega) rfl (heap_alloc_new w1 _)).mono ?_
  rintro e w2 ⟨y, rfl, hy, hc2, hg2⟩
  have HF := Lib.hid (And.intro (wf_of (by decide) hy) hc2.1)
  clear hy hc2 hg2 HU1
  go_wp2_with fail
  exact bodyPost_ret (v := .tuple #[.int .i64 x, .int .i64 y]) (by simp [results, Try.results12, go_sem]) rfl ⟨x, y, rfl, Hx.out, HF.out.1, HF.out.2⟩

end Go.Proofs.Ytflnjbcediecjaa.Irqs
