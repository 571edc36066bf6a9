/-
  The draws of chapter 9: what they draw lies in memory and is within its range; no statement about the project's code stands here. No condition beyond the length of the code.
-/
import Derived.Test.YteoddppeajlekaaEntDraws
namespace Go.Proofs.Yteoddppeajlekaa.Tags
set_option maxRecDepth 100000
open Go.ChangeShapes Go.WideShapes Go.ChangeAt Go.RowKit
open Go.Proofs.Yteoddppeajlekaa.Base Go.Proofs.Yteoddppeajlekaa.Mem Go.Proofs.Yteoddppeajlekaa.Data Go.Proofs.Yteoddppeajlekaa.Ints Go.Proofs.Yteoddppeajlekaa.Slots Go.Proofs.Yteoddppeajlekaa.Draw Go.Proofs.Yteoddppeajlekaa.SDraw Go.Proofs.Yteoddppeajlekaa.Ents
set_option linter.unusedVariables false
set_option linter.unusedSimpArgs false

theorem wf_of {l : List Int} (h : l.all (fun x => (Lit.int .i64 x).wf) = true) {x : Int} (hx : x ∈ l) : (Lit.int .i64 x).wf = true := List.all_eq_true.1 h x hx
def TwoInts (w : World) (e : Ending) (w' : World) : Prop :=
  ∃ x y, e = .returned (.tuple #[.int .i64 x, .int .i64 y]) ∧ (Lit.int .i64 x).wf = true ∧ (Lit.int .i64 y).wf = true ∧ Below w.heap.size w w'
def OneInt (w : World) (e : Ending) (w' : World) : Prop :=
  ∃ x, e = .returned (.int .i64 x) ∧ (Lit.int .i64 x).wf = true ∧ Below w.heap.size w w'

set_option maxHeartbeats 4000000 in
theorem drawTagOf_any (A : Option Addr) (n c : Nat) (w : World) (hn : n ≤ 1048576) (hcode : CodeAt w A n) :
    Calls Try.prog 11 #[.slice A n c] w (TwoInts w) := by
  have HC := Lib.hid hcode
  clear hcode
  go_enter Try.func11, Try.ntmps11
  go_wp2_with fail
  refine (new_any A n c _ hn HC.out).mono ?_
  rintro e w0 ⟨rfl, hcur, hsz0⟩
  have HU := Lib.hid hcur
  have hlt := hcur.lt
  clear hcur hsz0
  go_wp2_with fail
  refine (pick_any w A n c _ _ w0.heap.size 6 [0, 1, 2, 3, -1, 9223372036854775807] (by decide) (by decide) hn HC.out (HU.out.alloc _) (by omega) rfl (heap_alloc_new w0 _)).mono ?_
  rintro e w1 ⟨x, rfl, hx, hc1, hg1⟩
  have HX := Lib.hid (wf_of (by decide) hx)
  have HU1 := Lib.hid hc1
  have hlt1 := hc1.lt
  have hs1 := hg1.size
  simp at hs1
  clear hx hc1 hg1 HU
  go_wp2_with fail
  refine (pick_any w A n c _ _ w1.heap.size 5 [0, 1, 2, -1, 9223372036854775807] (by decide) (by decide) hn HC.out (HU1.out.alloc _) (by omega) rfl (heap_alloc_new w1 _)).mono ?_
  rintro e w2 ⟨y, rfl, hy, hc2, hg2⟩
  have HY := Lib.hid (wf_of (by decide) hy)
  have HB := Lib.hid hc2.1
  clear hy hc2 hg2 HU1
  go_wp2_with fail
  exact bodyPost_ret (v := .tuple #[.int .i64 x, .int .i64 y]) (by simp [results, Try.results11, go_sem]) rfl ⟨x, y, rfl, HX.out, HY.out, HB.out⟩
set_option maxHeartbeats 4000000 in
theorem l09Tag_any (A : Option Addr) (n c : Nat) (w : World) (hn : n ≤ 1048576) (hcode : CodeAt w A n) :
    Calls Try.prog 38 #[.slice A n c] w (OneInt w) := by
  have HC := Lib.hid hcode
  clear hcode
  go_enter Try.func38, Try.ntmps38
  go_wp2_with fail
  refine (new_any A n c _ hn HC.out).mono ?_
  rintro e w0 ⟨rfl, hcur, hsz0⟩
  have HU := Lib.hid hcur
  have hlt := hcur.lt
  clear hcur hsz0
  go_wp2_with fail
  refine (pick_any w A n c _ _ w0.heap.size 11 [1, 2, 3, 4, 5, 6, 7, 0, -1, 9223372036854775807, -9223372036854775808] (by decide) (by decide) hn HC.out (HU.out.alloc _) (by omega) rfl (heap_alloc_new w0 _)).mono ?_
  rintro e w1 ⟨x, rfl, hx, hc1, hg1⟩
  have HX := Lib.hid (wf_of (by decide) hx)
  have HB := Lib.hid hc1.1
  clear hx hc1 hg1 HU
  go_wp2_with fail
  go_ret
  exact ⟨x, rfl, HX.out, HB.out⟩
theorem drawTagMon_any (A : Option Addr) (n c : Nat) (w : World) (hn : n ≤ 1048576) (hcode : CodeAt w A n) :
    Calls Try.prog 13 #[.slice A n c] w (OneInt w) := by
  have HC := Lib.hid hcode
  clear hcode
  go_enter Try.func13, Try.ntmps13
  go_wp2_with fail
  refine (l09Tag_any A n c _ hn HC.out).mono ?_
  rintro e w1 ⟨x, rfl, hx, hb⟩
  have HF := Lib.hid (And.intro hx hb)
  clear hx hb
  go_wp2_with fail
  go_ret
  exact ⟨x, rfl, HF.out.1, HF.out.2⟩
theorem drawTagsOf_any (A : Option Addr) (n c : Nat) (w : World) (hn : n ≤ 1048576) (hcode : CodeAt w A n) :
    Calls Try.prog 14 #[.slice A n c] w (OneInt w) := by
  have HC := Lib.hid hcode
  clear hcode
  go_enter Try.func14, Try.ntmps14
  go_wp2_with fail
  refine (drawTagOf_any A n c _ hn HC.out).mono ?_
  rintro e w1 ⟨x, y, rfl, hx, hy, hb⟩
  have HF := Lib.hid (And.intro hx hb)
  clear hx hy hb
  go_wp2_with fail
  go_ret
  exact ⟨x, rfl, HF.out.1, HF.out.2⟩
set_option maxHeartbeats 4000000 in
theorem drawFlushM_any (A : Option Addr) (n c : Nat) (w : World) (hn : n ≤ 1048576) (hcode : CodeAt w A n) :
    Calls Try.prog 15 #[.slice A n c] w (BufInt w) := by
  have HC := Lib.hid hcode
  clear hcode
  go_enter Try.func15, Try.ntmps15
  go_wp2_with fail
  refine (new_any A n c _ hn HC.out).mono ?_
  rintro e w0 ⟨rfl, hcur, hsz0⟩
  clear hsz0
  have HU := Lib.hid hcur
  have hs := hcur.lt
  clear hcur
  go_wp2_with fail
  refine (buffer_any w A n c _ _ hn HC.out HU.out).mono ?_
  rintro e w1 ⟨b, m, cap, l, rfl, hl, hm, hwf, hown, hc1, hg1⟩
  have HT := Lib.hid (show EB w1 w0.heap.size ⟨b, 0, none⟩ m l from ⟨hm, hl, hwf, (Owned.of_row hown).1⟩)
  have HU1 := Lib.hid hc1
  clear hm hl hwf hown hc1 hg1 HU
  go_wp2_with fail
  refine (below_any w A n c _ _ 5 (by omega) (by omega) hn HC.out HU1.out).mono ?_
  rintro e w2 ⟨y, rfl, hy0, hy1, hc3, hg3⟩
  have HF := Lib.hid (And.intro ((HT.out.grown hg3 hs).low (Nat.le_of_lt hs)) (And.intro hc3.1 (wf_less hy0 (by omega))))
  clear hc3 hg3 HU1 HT
  go_wp2_with fail
  exact bodyPost_ret (v := .tuple #[.slice (some ⟨b, 0, none⟩) m cap, .int .i64 (y - 1)]) (by simp [results, Try.results15, go_sem]) rfl ⟨_, m, cap, l, y - 1, rfl, HF.out.2.2, HF.out.1, HF.out.2.1⟩
end Go.Proofs.Yteoddppeajlekaa.Tags
