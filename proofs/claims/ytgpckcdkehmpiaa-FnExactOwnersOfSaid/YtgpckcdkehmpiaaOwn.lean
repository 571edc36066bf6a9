/-
  Merged control blocks: what chapter 12 computes, and the given model's MergeTraps, MergedCtl, OwnerOf, OwnersOf and GrantsMore; no statement about the project's code stands here. No condition.
-/
import Derived.Test.YtgpckcdkehmpiaaCtl2
namespace Go.Proofs.Ytgpckcdkehmpiaa.Owns
set_option maxRecDepth 100000
open Go.ChangeShapes Go.WideShapes Go.ChangeAt Go.RowKit
open Go.Proofs.Ytgpckcdkehmpiaa.Base Go.Proofs.Ytgpckcdkehmpiaa.Mem Go.Proofs.Ytgpckcdkehmpiaa.Data Go.Proofs.Ytgpckcdkehmpiaa.Ints Go.Proofs.Ytgpckcdkehmpiaa.Slots Go.Proofs.Ytgpckcdkehmpiaa.Ctls
set_option linter.unusedVariables false
set_option linter.unusedSimpArgs false

def mergeT (a b : Int) : Int := if (inB a 0 3 && inB b 0 3) = true then bits .or .i64 a b else -1
def ownerOf (o i t : Int) : Int := if hasTrap i t = true then 1 else if hasTrap o t = true then 2 else 0
def ownersOf (o i : Int) : List Int := [ownerOf o i 1, ownerOf o i 2]
def within (n m : Int) : Int := if inB n 0 m = true then n else 0
def grants (s u : CT) : Bool := (bits .and .i64 (within u.1 3) (bits .xor .i64 3 (within s.1 3)) != 0) || (bits .and .i64 (within s.2.1 255) (bits .xor .i64 255 (within u.2.1 255)) != 0) || (s.2.2 && !u.2.2)
theorem own_block (w : World) (cs : List Value) (T : TypeId) : Owned (w.alloc (.cells cs.toArray T)) w.heap.size (w.alloc (.cells cs.toArray T)).heap.size (some ⟨w.heap.size, 0, none⟩) cs :=
  ⟨fun j u hu => ⟨w.heap.size, 0, rfl, Nat.le_refl _, by simp, by have h := World.news_of_block (heap_alloc_new w (.cells cs.toArray T)) j u hu; rwa [Addr.add_lit] at h⟩,
    fun b off e _ k => by cases e; exact frozen_of_row _ _ _ _ _ (heap_alloc_new w (.cells cs.toArray T))⟩

set_option maxHeartbeats 1000000 in
theorem spec_mergeT (a b : Int) (w : World) :
    Calls Try.prog 26 #[.int .i64 a, .int .i64 b] w fun e w' => e = .returned (.int .i64 (mergeT a b)) ∧ w = w' := by
  have K1 := Lib.hid (fun V : World => spec_in a 0 3 V)
  have K2 := Lib.hid (fun V : World => spec_in b 0 3 V)
  have hv : mergeT a b = if (inB a 0 3 && inB b 0 3) = true then bits .or .i64 a b else -1 := rfl
  generalize inB a 0 3 = x at K1 hv
  generalize inB b 0 3 = y at K2 hv
  cases x
  · simp only [Bool.false_and, if_neg (Bool.false_ne_true)] at hv
    have HV := Lib.hid hv
    clear hv
    go_enter Try.func26, Try.ntmps26
    go_wp2_with fail
    refine (K1.out _).mono ?_
    rintro e w' ⟨rfl, rfl⟩
    go_wp2_with fail
    go_ret
    exact ⟨by rw [HV.out]; rfl, rfl⟩
  · cases y
    · simp only [Bool.and_false, if_neg (Bool.false_ne_true)] at hv
      have HV := Lib.hid hv
      clear hv
      go_enter Try.func26, Try.ntmps26
      go_wp2_with fail
      refine (K1.out _).mono ?_
      rintro e w' ⟨rfl, rfl⟩
      go_wp2_with fail
      refine (K2.out _).mono ?_
      rintro e w' ⟨rfl, rfl⟩
      go_wp2_with fail
      go_ret
      exact ⟨by rw [HV.out]; rfl, rfl⟩
    · simp only [Bool.and_true, if_true] at hv
      have HV := Lib.hid hv
      clear hv
      go_enter Try.func26, Try.ntmps26
      go_wp2_with fail
      refine (K1.out _).mono ?_
      rintro e w' ⟨rfl, rfl⟩
      go_wp2_with fail
      refine (K2.out _).mono ?_
      rintro e w' ⟨rfl, rfl⟩
      go_wp2_with fail
      go_ret
      exact ⟨by rw [HV.out]; rfl, rfl⟩

theorem spec_within (n m : Int) (w : World) :
    Calls Try.prog 43 #[.int .i64 n, .int .i64 m] w fun e w' => e = .returned (.int .i64 (within n m)) ∧ w = w' := by
  have K1 := Lib.hid (fun V : World => spec_in n 0 m V)
  have hv : within n m = if inB n 0 m = true then n else 0 := rfl
  generalize inB n 0 m = x at K1 hv
  cases x
  all_goals
    first | simp only [if_neg (Bool.false_ne_true)] at hv | simp only [if_true] at hv
    have HV := Lib.hid hv
    clear hv
    go_enter Try.func43, Try.ntmps43
    go_wp2_with fail
    refine (K1.out _).mono ?_
    rintro e w' ⟨rfl, rfl⟩
    go_wp2_with fail
    go_ret
    exact ⟨by rw [HV.out]; rfl, rfl⟩

theorem spec_ownerOf (o i t : Int) (w : World) :
    Calls Try.prog 19 #[.int .i64 o, .int .i64 i, .int .i64 t] w fun e w' => e = .returned (.int .i64 (ownerOf o i t)) ∧ w = w' := by
  have K1 := Lib.hid (fun V : World => spec_hasTrap i t V)
  have K2 := Lib.hid (fun V : World => spec_hasTrap o t V)
  have hv : ownerOf o i t = if hasTrap i t = true then 1 else if hasTrap o t = true then 2 else 0 := rfl
  generalize hasTrap i t = x at K1 hv
  generalize hasTrap o t = y at K2 hv
  cases x
  · simp only [if_neg (Bool.false_ne_true)] at hv
    cases y
    all_goals
      first | simp only [if_neg (Bool.false_ne_true)] at hv | simp only [if_true] at hv
      have HV := Lib.hid hv
      clear hv
      go_enter Try.func19, Try.ntmps19
      go_wp2_with fail
      refine (K1.out _).mono ?_
      rintro e w' ⟨rfl, rfl⟩
      go_wp2_with fail
      refine (K2.out _).mono ?_
      rintro e w' ⟨rfl, rfl⟩
      go_wp2_with fail
      go_ret
      exact ⟨by rw [HV.out]; rfl, rfl⟩
  · simp only [if_true] at hv
    have HV := Lib.hid hv
    clear hv
    go_enter Try.func19, Try.ntmps19
    go_wp2_with fail
    refine (K1.out _).mono ?_
    rintro e w' ⟨rfl, rfl⟩
    go_wp2_with fail
    go_ret
    exact ⟨by rw [HV.out]; rfl, rfl⟩

theorem spec_ownersOf (o i : Int) (w : World) :
    Calls Try.prog 22 #[.int .i64 o, .int .i64 i] w (UsesPost w (ownersOf o i)) := by
  have h1 := fun V : World => spec_ownerOf o i 1 V
  have h2 := fun V : World => spec_ownerOf o i 2 V
  have hv : ownersOf o i = [ownerOf o i 1, ownerOf o i 2] := rfl
  generalize ownerOf o i 1 = x at h1 hv
  generalize ownerOf o i 2 = y at h2 hv
  have H1 := Lib.hid h1
  have H2 := Lib.hid h2
  have HV := Lib.hid hv
  clear h1 h2 hv
  go_enter Try.func22, Try.ntmps22
  go_wp2_with fail
  refine (H1.out _).mono ?_
  rintro e w' ⟨rfl, rfl⟩
  go_wp2_with fail
  refine (H2.out _).mono ?_
  rintro e w' ⟨rfl, rfl⟩
  go_wp2_with fail
  go_ret
  rw [HV.out]
  exact ⟨_, 2, _, rfl, rfl, own_block w [.int .i64 x, .int .i64 y] 3, (Below.refl _ _).alloc (Nat.le_refl _) _⟩

def CtlP (w : World) (s : CT) (e : Ending) (w' : World) : Prop := e = .returned (.agg #[.int .i64 s.1, .int .i64 s.2.1, .bool s.2.2]) ∧ Below w.heap.size w w'
def mergedC (o : Int) (s : CT) : CT := (mergeT o s.1, s.2.1, s.2.2)
set_option maxHeartbeats 2000000 in
theorem spec_mergedC (o a b : Int) (q : Bool) (w : World) :
    Calls Try.prog 18 #[.int .i64 o, .agg #[.int .i64 a, .int .i64 b, .bool q]] w (CtlP w (mergedC o (a, b, q))) := by
  have h1 := fun V : World => spec_mergeT o a V
  have hv : mergedC o (a, b, q) = (mergeT o a, b, q) := rfl
  generalize mergeT o a = m at h1 hv
  have H1 := Lib.hid h1
  have HV := Lib.hid hv
  have HB := Lib.hid (((Below.refl w.heap.size w).alloc (Nat.le_refl _) (.cells #[.int .i64 a, .int .i64 b, .bool q] 25)).alloc (by simp) (.cells #[.int .i64 0, .int .i64 0, .bool false] 25))
  clear h1 hv
  go_enter Try.func18, Try.ntmps18
  go_wp2_with fail
  refine (H1.out _).mono ?_
  rintro e w' ⟨rfl, rfl⟩
  go_wp2_with fail
  exact bodyPost_ret (v := .agg #[.int .i64 m, .int .i64 b, .bool q]) (by simp [results, Try.results18, go_sem]) rfl ⟨by rw [HV.out], ((Below.refl _ _).alloc (Nat.le_refl _) _).alloc (by simp) _⟩

set_option maxRecDepth 100000 in
set_option maxHeartbeats 8000000 in
theorem spec_grants (a b : Int) (q : Bool) (a' b' : Int) (q' : Bool) (w : World) :
    Calls Try.prog 24 #[.agg #[.int .i64 a, .int .i64 b, .bool q], .agg #[.int .i64 a', .int .i64 b', .bool q']] w fun e w' => e = .returned (.bool (grants (a, b, q) (a', b', q'))) ∧ Below w.heap.size w w' := by
  have h1 := fun V : World => spec_within a 3 V
  have h2 := fun V : World => spec_within a' 3 V
  have h3 := fun V : World => spec_within b 255 V
  have h4 := fun V : World => spec_within b' 255 V
  have hv : grants (a, b, q) (a', b', q') = ((bits .and .i64 (within a' 3) (bits .xor .i64 3 (within a 3)) != 0) || (bits .and .i64 (within b 255) (bits .xor .i64 255 (within b' 255)) != 0) || (q && !q')) := rfl
  generalize within a 3 = x at h1 hv
  generalize within a' 3 = x' at h2 hv
  generalize within b 255 = y at h3 hv
  generalize within b' 255 = y' at h4 hv
  obtain ⟨c1, hc1⟩ : ∃ c, (bits .and .i64 x' (bits .xor .i64 3 x) != 0) = c := ⟨_, rfl⟩
  obtain ⟨c2, hc2⟩ : ∃ c, (bits .and .i64 y (bits .xor .i64 255 y') != 0) = c := ⟨_, rfl⟩
  rw [hc1, hc2] at hv
  have H1 := Lib.hid h1
  have H2 := Lib.hid h2
  have H3 := Lib.hid h3
  have H4 := Lib.hid h4
  have HV := Lib.hid hv
  have HB := Lib.hid (((Below.refl w.heap.size w).alloc (Nat.le_refl _) (.cells #[.int .i64 a, .int .i64 b, .bool q] 25)).alloc (by simp) (.cells #[.int .i64 a', .int .i64 b', .bool q'] 25))
  clear h1 h2 h3 h4 hv
  go_enter Try.func24, Try.ntmps24
  go_wp2_with fail
  refine (H1.out _).mono ?_
  rintro e w' ⟨rfl, rfl⟩
  go_wp2_with fail
  refine (H2.out _).mono ?_
  rintro e w' ⟨rfl, rfl⟩
  go_wp2_with fail
  refine (H3.out _).mono ?_
  rintro e w' ⟨rfl, rfl⟩
  go_wp2_with fail
  refine (H4.out _).mono ?_
  rintro e w' ⟨rfl, rfl⟩
  cases c1 <;> cases c2 <;> cases q
  all_goals
    go_wp2_with fail
    go_ret
    exact ⟨by rw [HV.out]; rfl, HB.out⟩
end Go.Proofs.Ytgpckcdkehmpiaa.Owns
