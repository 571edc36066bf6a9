/-
  The given model's draws of arguments for chapter 6's functions: tables and numbers of an int's range, in new memory; no statement about the project's code stands here. No condition.
-/
import Derived.Test.YtilgkknmldlklaaDoorSlotDraws
namespace Go.Proofs.YtilgkknmldlklaaDoor.SDraw
set_option maxRecDepth 100000
open Go.ChangeShapes Go.WideShapes Go.ChangeAt Go.RowKit
open Go.Proofs.YtilgkknmldlklaaDoor.Base Go.Proofs.YtilgkknmldlklaaDoor.Mem Go.Proofs.YtilgkknmldlklaaDoor.Slots Go.Proofs.YtilgkknmldlklaaDoor.Draw
set_option linter.unusedVariables false

def OneIntInt (w : World) (sz : Nat) (e : Ending) (w' : World) : Prop :=
  ∃ ad m cap l x y, e = .returned (.tuple #[.slice (some ad) m cap, .int .i64 x, .int .i64 y]) ∧ (Lit.int .i64 x).wf = true ∧ (Lit.int .i64 y).wf = true ∧ Tab w' w.heap.size sz ad m l ∧ Below w.heap.size w w'
def TwoIntInt (w : World) (sz sz' : Nat) (e : Ending) (w' : World) : Prop :=
  ∃ ad m cap l ad' m' cap' l' x y, e = .returned (.tuple #[.slice (some ad) m cap, .slice (some ad') m' cap', .int .i64 x, .int .i64 y]) ∧ (Lit.int .i64 x).wf = true ∧ (Lit.int .i64 y).wf = true ∧ Tab w' w.heap.size sz ad m l ∧ Tab w' w.heap.size sz' ad' m' l' ∧ Below w.heap.size w w'
def TwoInt (w : World) (sz sz' : Nat) (e : Ending) (w' : World) : Prop :=
  ∃ ad m cap l ad' m' cap' l' y, e = .returned (.tuple #[.slice (some ad) m cap, .slice (some ad') m' cap', .int .i64 y]) ∧ (Lit.int .i64 y).wf = true ∧ Tab w' w.heap.size sz ad m l ∧ Tab w' w.heap.size sz' ad' m' l' ∧ Below w.heap.size w w'
def OneNum (w : World) (e : Ending) (w' : World) : Prop := ∃ x : Int, e = .returned (.int .i64 x) ∧ (Lit.int .i64 x).wf = true ∧ Below w.heap.size w w'

def needList : List Int := [1, 1, 2, 2, 3, 0, 4, -1]
theorem needList_wf : ∀ x ∈ needList, (Lit.int .i64 x).wf = true := by decide
set_option maxHeartbeats 1000000 in
theorem need_any (w0 : World) (A : Option Addr) (n c g : Nat) (w : World) (hn : n ≤ 1048576) (hcode : CodeAt w0 A n) (hcur : Cur w0 A n c w g) :
    Calls Tryd.prog 37 #[.pointer (some ⟨g, 0, none⟩)] w (NumPost w0 A n c w g) := by
  have HC := Lib.hid hcode
  have HU := Lib.hid hcur
  have hlt := hcur.lt
  clear hcode hcur
  go_enter Tryd.func37, Tryd.ntmps37
  go_wp2_with fail
  refine (pick_any w0 A n c g _ w.heap.size 8 needList (by decide) (by decide) hn HC.out (HU.out.alloc _) (by omega) rfl (heap_alloc_new w _)).mono ?_
  rintro e w1 ⟨x, rfl, hx, hc1, hg1⟩
  have HF := Lib.hid (And.intro (needList_wf x hx) (And.intro hc1 (gtr (grown_new w _ _) hg1)))
  clear hx hc1 hg1
  go_wp2_with fail
  go_ret
  exact ⟨x, rfl, HF.out.1, HF.out.2.1, HF.out.2.2⟩

def addrList : List Int := [0, 1, 5, 11, 15, 16, -1, 9223372036854775807, -9223372036854775808]
theorem addrList_wf : ∀ x ∈ addrList, (Lit.int .i64 x).wf = true := by decide
set_option maxHeartbeats 1000000 in
theorem addr_any (w0 : World) (A : Option Addr) (n c g : Nat) (w : World) (hn : n ≤ 1048576) (hcode : CodeAt w0 A n) (hcur : Cur w0 A n c w g) :
    Calls Tryd.prog 45 #[.pointer (some ⟨g, 0, none⟩)] w (NumPost w0 A n c w g) := by
  have HC := Lib.hid hcode
  have HU := Lib.hid hcur
  have hlt := hcur.lt
  clear hcode hcur
  go_enter Tryd.func45, Tryd.ntmps45
  go_wp2_with fail
  refine (pick_any w0 A n c g _ w.heap.size 9 addrList (by decide) (by decide) hn HC.out (HU.out.alloc _) (by omega) rfl (heap_alloc_new w _)).mono ?_
  rintro e w1 ⟨x, rfl, hx, hc1, hg1⟩
  have HF := Lib.hid (And.intro (addrList_wf x hx) (And.intro hc1 (gtr (grown_new w _ _) hg1)))
  clear hx hc1 hg1
  go_wp2_with fail
  go_ret
  exact ⟨x, rfl, HF.out.1, HF.out.2.1, HF.out.2.2⟩

set_option maxHeartbeats 2000000 in
theorem drawWalkInner_any (A : Option Addr) (n c : Nat) (w : World) (hn : n ≤ 1048576) (hcode : CodeAt w A n) :
    Calls Tryd.prog 11 #[.slice A n c] w (OneIntInt w 4) := by
  have HC := Lib.hid hcode
  clear hcode
  go_enter Tryd.func11, Tryd.ntmps11
  go_wp2_with fail
  refine (new_any A n c _ hn HC.out).mono ?_
  rintro e w0 ⟨rfl, hcur, hsz0⟩
  clear hsz0
  have HU0 := Lib.hid hcur
  have hs := hcur.lt
  clear hcur
  go_wp2_with fail
  refine (anyTable_any w A n c _ 4 _ 8 (by omega) (by omega) (by omega) (by omega) hn HC.out HU0.out).mono ?_
  rintro e w1 ⟨ada, ma, capa, la, rfl, hm, hl, hwf, hli, hc1, hg1⟩
  have HTa1 := Lib.hid (show Tab w1 w0.heap.size 4 ada ma la from ⟨hm, hl, hwf, hli⟩)
  have HU1 := Lib.hid hc1
  have hs1 := hc1.lt
  clear hm hl hwf hli hc1 hg1 HU0
  go_wp2_with fail
  refine (page_any w A n c _ _ hn HC.out HU1.out).mono ?_
  rintro e w2 ⟨x, rfl, hx, hc2, hg2⟩
  have HWx := Lib.hid hx
  have HU2 := Lib.hid hc2
  have hs2 := hc2.lt
  have HTa2 := Lib.hid (HTa1.out.grown hg2 (by omega))
  clear HTa1
  clear hx hc2 hg2 HU1
  go_wp2_with fail
  refine (need_any w A n c _ _ hn HC.out HU2.out).mono ?_
  rintro e w3 ⟨y, rfl, hx, hc3, hg3⟩
  have HWy := Lib.hid hx
  have HU3 := Lib.hid hc3
  have hs3 := hc3.lt
  have HTa3 := Lib.hid (HTa2.out.grown hg3 (by omega))
  clear HTa2
  clear hx hc3 hg3 HU2
  have HF := Lib.hid (And.intro (HTa3.out.low (lo' := w.heap.size) (by omega)) HU3.out.1)
  clear HTa3 HU3
  go_wp2_with fail
  go_ret3
  exact ⟨_, _, _, _, _, _, rfl, HWx.out, HWy.out, HF.out.1, HF.out.2⟩

set_option maxHeartbeats 2000000 in
theorem drawWalk_any (A : Option Addr) (n c : Nat) (w : World) (hn : n ≤ 1048576) (hcode : CodeAt w A n) :
    Calls Tryd.prog 8 #[.slice A n c] w (TwoIntInt w 4 8) := by
  have HC := Lib.hid hcode
  clear hcode
  go_enter Tryd.func8, Tryd.ntmps8
  go_wp2_with fail
  refine (new_any A n c _ hn HC.out).mono ?_
  rintro e w0 ⟨rfl, hcur, hsz0⟩
  clear hsz0
  have HU0 := Lib.hid hcur
  have hs := hcur.lt
  clear hcur
  go_wp2_with fail
  refine (anyTable_any w A n c _ 4 _ 8 (by omega) (by omega) (by omega) (by omega) hn HC.out HU0.out).mono ?_
  rintro e w1 ⟨ada, ma, capa, la, rfl, hm, hl, hwf, hli, hc1, hg1⟩
  have HTa1 := Lib.hid (show Tab w1 w0.heap.size 4 ada ma la from ⟨hm, hl, hwf, hli⟩)
  have HU1 := Lib.hid hc1
  have hs1 := hc1.lt
  clear hm hl hwf hli hc1 hg1 HU0
  go_wp2_with fail
  refine (anyTable_any w A n c _ 8 _ 24 (by omega) (by omega) (by omega) (by omega) hn HC.out HU1.out).mono ?_
  rintro e w2 ⟨adb, mb, capb, lb, rfl, hm, hl, hwf, hli, hc2, hg2⟩
  have HTb2 := Lib.hid (show Tab w2 w1.heap.size 8 adb mb lb from ⟨hm, hl, hwf, hli⟩)
  have HU2 := Lib.hid hc2
  have hs2 := hc2.lt
  have HTa2 := Lib.hid (HTa1.out.grown hg2 (by omega))
  clear HTa1
  clear hm hl hwf hli hc2 hg2 HU1
  go_wp2_with fail
  refine (page_any w A n c _ _ hn HC.out HU2.out).mono ?_
  rintro e w3 ⟨x, rfl, hx, hc3, hg3⟩
  have HWx := Lib.hid hx
  have HU3 := Lib.hid hc3
  have hs3 := hc3.lt
  have HTa3 := Lib.hid (HTa2.out.grown hg3 (by omega))
  clear HTa2
  have HTb3 := Lib.hid (HTb2.out.grown hg3 (by omega))
  clear HTb2
  clear hx hc3 hg3 HU2
  go_wp2_with fail
  refine (need_any w A n c _ _ hn HC.out HU3.out).mono ?_
  rintro e w4 ⟨y, rfl, hx, hc4, hg4⟩
  have HWy := Lib.hid hx
  have HU4 := Lib.hid hc4
  have hs4 := hc4.lt
  have HTa4 := Lib.hid (HTa3.out.grown hg4 (by omega))
  clear HTa3
  have HTb4 := Lib.hid (HTb3.out.grown hg4 (by omega))
  clear HTb3
  clear hx hc4 hg4 HU3
  have HF := Lib.hid (And.intro (HTa4.out.low (lo' := w.heap.size) (by omega)) (And.intro (HTb4.out.low (lo' := w.heap.size) (by omega)) HU4.out.1))
  clear HTa4 HTb4 HU4
  go_wp2_with fail
  exact bodyPost_ret (v := .tuple #[.slice (some ada) ma capa, .slice (some adb) mb capb, .int .i64 x, .int .i64 y]) (by simp [results, Tryd.results8, go_sem]) rfl ⟨_, _, _, _, _, _, _, _, _, _, rfl, HWx.out, HWy.out, HF.out.1, HF.out.2.1, HF.out.2.2⟩

set_option maxHeartbeats 2000000 in
theorem drawFaults_any (A : Option Addr) (n c : Nat) (w : World) (hn : n ≤ 1048576) (hcode : CodeAt w A n) :
    Calls Tryd.prog 14 #[.slice A n c] w (TwoInt w 4 8) := by
  have HC := Lib.hid hcode
  clear hcode
  go_enter Tryd.func14, Tryd.ntmps14
  go_wp2_with fail
  refine (new_any A n c _ hn HC.out).mono ?_
  rintro e w0 ⟨rfl, hcur, hsz0⟩
  clear hsz0
  have HU0 := Lib.hid hcur
  have hs := hcur.lt
  clear hcur
  go_wp2_with fail
  refine (anyTable_any w A n c _ 4 _ 8 (by omega) (by omega) (by omega) (by omega) hn HC.out HU0.out).mono ?_
  rintro e w1 ⟨ada, ma, capa, la, rfl, hm, hl, hwf, hli, hc1, hg1⟩
  have HTa1 := Lib.hid (show Tab w1 w0.heap.size 4 ada ma la from ⟨hm, hl, hwf, hli⟩)
  have HU1 := Lib.hid hc1
  have hs1 := hc1.lt
  clear hm hl hwf hli hc1 hg1 HU0
  go_wp2_with fail
  refine (anyTable_any w A n c _ 8 _ 24 (by omega) (by omega) (by omega) (by omega) hn HC.out HU1.out).mono ?_
  rintro e w2 ⟨adb, mb, capb, lb, rfl, hm, hl, hwf, hli, hc2, hg2⟩
  have HTb2 := Lib.hid (show Tab w2 w1.heap.size 8 adb mb lb from ⟨hm, hl, hwf, hli⟩)
  have HU2 := Lib.hid hc2
  have hs2 := hc2.lt
  have HTa2 := Lib.hid (HTa1.out.grown hg2 (by omega))
  clear HTa1
  clear hm hl hwf hli hc2 hg2 HU1
  go_wp2_with fail
  refine (need_any w A n c _ _ hn HC.out HU2.out).mono ?_
  rintro e w3 ⟨y, rfl, hx, hc3, hg3⟩
  have HWy := Lib.hid hx
  have HU3 := Lib.hid hc3
  have hs3 := hc3.lt
  have HTa3 := Lib.hid (HTa2.out.grown hg3 (by omega))
  clear HTa2
  have HTb3 := Lib.hid (HTb2.out.grown hg3 (by omega))
  clear HTb2
  clear hx hc3 hg3 HU2
  have HF := Lib.hid (And.intro (HTa3.out.low (lo' := w.heap.size) (by omega)) (And.intro (HTb3.out.low (lo' := w.heap.size) (by omega)) HU3.out.1))
  clear HTa3 HTb3 HU3
  go_wp2_with fail
  go_ret3
  exact ⟨_, _, _, _, _, _, _, _, _, rfl, HWy.out, HF.out.1, HF.out.2.1, HF.out.2.2⟩

set_option maxHeartbeats 2000000 in
theorem drawAddrPage_any (A : Option Addr) (n c : Nat) (w : World) (hn : n ≤ 1048576) (hcode : CodeAt w A n) :
    Calls Tryd.prog 21 #[.slice A n c] w (OneNum w) := by
  have HC := Lib.hid hcode
  clear hcode
  go_enter Tryd.func21, Tryd.ntmps21
  go_wp2_with fail
  refine (new_any A n c _ hn HC.out).mono ?_
  rintro e w0 ⟨rfl, hcur, hsz0⟩
  clear hsz0
  have HU0 := Lib.hid hcur
  have hs := hcur.lt
  clear hcur
  go_wp2_with fail
  refine (addr_any w A n c _ _ hn HC.out HU0.out).mono ?_
  rintro e w1 ⟨x, rfl, hx, hc1, hg1⟩
  have HWx := Lib.hid hx
  have HU1 := Lib.hid hc1
  have hs1 := hc1.lt
  clear hx hc1 hg1 HU0
  have HF := Lib.hid HU1.out.1
  clear HU1
  go_wp2_with fail
  go_ret
  exact ⟨_, rfl, HWx.out, HF.out⟩

set_option maxHeartbeats 2000000 in
theorem drawAddrCell_any (A : Option Addr) (n c : Nat) (w : World) (hn : n ≤ 1048576) (hcode : CodeAt w A n) :
    Calls Tryd.prog 22 #[.slice A n c] w (OneNum w) := by
  have HC := Lib.hid hcode
  clear hcode
  go_enter Tryd.func22, Tryd.ntmps22
  go_wp2_with fail
  refine (new_any A n c _ hn HC.out).mono ?_
  rintro e w0 ⟨rfl, hcur, hsz0⟩
  clear hsz0
  have HU0 := Lib.hid hcur
  have hs := hcur.lt
  clear hcur
  go_wp2_with fail
  refine (addr_any w A n c _ _ hn HC.out HU0.out).mono ?_
  rintro e w1 ⟨x, rfl, hx, hc1, hg1⟩
  have HWx := Lib.hid hx
  have HU1 := Lib.hid hc1
  have hs1 := hc1.lt
  clear hx hc1 hg1 HU0
  have HF := Lib.hid HU1.out.1
  clear HU1
  go_wp2_with fail
  go_ret
  exact ⟨_, rfl, HWx.out, HF.out⟩
end Go.Proofs.YtilgkknmldlklaaDoor.SDraw
