/-
  Control blocks: what chapter 11 computes, and the given model's CtlFaults, CtlOk, HasTrap and Posts; no statement about the project's code stands here. No condition.
-/
import Derived.Test.YteopkcndkcciaaaCtlH
import Derived.Test.YteopkcndkcciaaaIn
import Derived.Test.YteopkcndkcciaaaVar
import Derived.Test.YteopkcndkcciaaaUses
namespace Go.Proofs.Yteopkcndkcciaaa.Ctls
set_option maxRecDepth 100000
open Go.ChangeShapes Go.WideShapes Go.ChangeAt Go.RowKit
open Go.Proofs.Yteopkcndkcciaaa.Base Go.Proofs.Yteopkcndkcciaaa.Mem Go.Proofs.Yteopkcndkcciaaa.Data Go.Proofs.Yteopkcndkcciaaa.Ints Go.Proofs.Yteopkcndkcciaaa.Slots
set_option linter.unusedVariables false
set_option linter.unusedSimpArgs false

def ctlF (s : CT) : List Int :=
  (if inB s.1 0 3 = true then [] else [1]) ++ ((if inB s.2.1 0 255 = true then [] else [2]) ++ ((if s.2.1 ≠ 0 ∧ s.2.2 = false then [3] else []) ++ (if s.1 = 2 ∧ s.2.1 ≠ 0 then [4] else [])))
def ctlOk (s : CT) : Bool := (ctlF s).length == 0
def hasTrap (a b : Int) : Bool := inB a 0 3 && inB b 1 2 && (bits .and .i64 a b != 0)
/-- Bit n of a number (n from 0 to 7). -/
def bitAt (x n : Int) : Bool := bits .and .i64 (x / 2 ^ n.toNat) 1 == 1
def posts (s : CT) (n : Int) : Bool := ctlOk s && inB n 0 7 && bitAt s.2.1 n
theorem ctlF_le (s : CT) : (ctlF s).length ≤ 4 := by
  unfold ctlF
  simp only [List.length_append]
  split <;> split <;> split <;> split <;> simp

set_option maxRecDepth 100000 in
set_option maxHeartbeats 16000000 in
theorem spec_ctlF (a b : Int) (o : Bool) (w : World) :
    Calls Try.prog 96 #[.agg #[.int .i64 a, .int .i64 b, .bool o]] w (UsesPost w (ctlF (a, b, o))) := by
  obtain ⟨i0, hi0, hz0, hz1, hz2⟩ := info_parts Try.infoNum
  have hb0 : Below w.heap.size w (w.alloc (.cells #[.int .i64 a, .int .i64 b, .bool o] 29)) := (Below.refl _ _).alloc (Nat.le_refl _) _
  have t0 := Var.new w [.int .i64 a, .int .i64 b, .bool o] 29
  change Var (w.alloc (.cells #[.int .i64 a, .int .i64 b, .bool o] 29)) w.heap.size [.int .i64 a, .int .i64 b, .bool o] at t0
  have hz : w.heap.size + 1 ≤ (w.alloc (.cells #[.int .i64 a, .int .i64 b, .bool o] 29)).heap.size := by simp
  have K0 := fun V : World => spec_in a 0 3 V
  have K1 := fun V : World => spec_in b 0 255 V
  have hq : w.heap.size + 1 = (w.alloc (.cells #[.int .i64 a, .int .i64 b, .bool o] 29)).heap.size := by simp
  have HQ := Lib.hid hq
  clear hq
  by_cases ha2 : a = 2
  · subst ha2
    have h0 : inB 2 0 3 = true := rfl
    have ha : (2 : Int) = 2 := rfl
    by_cases hb2 : b = 0
    · subst hb2
      have h1 : inB 0 0 255 = true := rfl
      have hb : (0 : Int) = 0 := rfl
      have HL := Lib.hid (show ctlF (2, 0, o) = [] from by unfold ctlF; dsimp only; rw [h0, h1]; simp [hb, ha])
      rw [h0] at K0
      rw [h1] at K1
      have HK0 := Lib.hid K0
      have HK1 := Lib.hid K1
      clear K0 K1 h0 h1
      go_enter Try.func96, Try.ntmps96
      go_wp2_with fail
      rw [HQ.out]
      clear HQ
      generalize w.alloc (.cells #[.int .i64 2, .int .i64 0, .bool o] 29) = W0 at t0 hb0 hz ⊢
      have HO0 := Lib.hid (World.ownsRow_made (e := 3) (size := 1) W0 #[] 0 (Nat.le_refl _) (Nat.zero_le _) rfl : (W0.alloc (.cells #[] 3)).ownsRow W0.heap.size 3 1 (.slice (some ⟨W0.heap.size, 0, none⟩) 0 0) 0 (ncells []))
      have HB0 := Lib.hid (show Below W0.heap.size W0 (W0.alloc (.cells #[] 3)) from (Below.refl _ _).alloc (Nat.le_refl _) _)
      generalize W0.alloc (.cells #[] 3) = w0 at HO0 HB0 ⊢
      have v0 := (Var.below t0 HB0.out hz).cell 0 (v := .int .i64 2) rfl
      have v1 := (Var.below t0 HB0.out hz).cell 1 (v := .int .i64 0) rfl
      have v2 := (Var.below t0 HB0.out hz).cell 2 (v := .bool o) rfl
      refine (HK0.out _).mono ?_
      rintro e w' ⟨rfl, rfl⟩
      go_wp2_with fail
      refine (HK1.out _).mono ?_
      rintro e w' ⟨rfl, rfl⟩
      go_wp2_with fail
      go_ret
      rw [HL.out]
      exact ⟨_, 0, _, rfl, rfl, ⟨(Owned.of_row HO0.out).1.wide (by omega) (Nat.le_refl _), (Owned.of_row HO0.out).2⟩, btr hb0 HB0.out⟩
    · have hb : ¬ b = 0 := hb2
      have hb' : (b != 0) = true := by simpa using hb2
      cases h1 : inB b 0 255 <;> cases o
      · have HL := Lib.hid (show ctlF (2, b, false) = [2, 3, 4] from by unfold ctlF; dsimp only; rw [h0, h1]; simp [hb, ha])
        rw [h0] at K0
        rw [h1] at K1
        have HK0 := Lib.hid K0
        have HK1 := Lib.hid K1
        clear K0 K1 h0 h1
        go_enter Try.func96, Try.ntmps96
        go_wp2_with fail
        rw [HQ.out]
        clear HQ
        generalize w.alloc (.cells #[.int .i64 2, .int .i64 b, .bool false] 29) = W0 at t0 hb0 hz ⊢
        have HO0 := Lib.hid (World.ownsRow_made (e := 3) (size := 1) W0 #[] 0 (Nat.le_refl _) (Nat.zero_le _) rfl : (W0.alloc (.cells #[] 3)).ownsRow W0.heap.size 3 1 (.slice (some ⟨W0.heap.size, 0, none⟩) 0 0) 0 (ncells []))
        have HB0 := Lib.hid (show Below W0.heap.size W0 (W0.alloc (.cells #[] 3)) from (Below.refl _ _).alloc (Nat.le_refl _) _)
        generalize W0.alloc (.cells #[] 3) = w0 at HO0 HB0 ⊢
        have v0 := (Var.below t0 HB0.out hz).cell 0 (v := .int .i64 2) rfl
        have v1 := (Var.below t0 HB0.out hz).cell 1 (v := .int .i64 b) rfl
        have v2 := (Var.below t0 HB0.out hz).cell 2 (v := .bool false) rfl
        refine (HK0.out _).mono ?_
        rintro e w' ⟨rfl, rfl⟩
        go_wp2_with fail
        refine (HK1.out _).mono ?_
        rintro e w' ⟨rfl, rfl⟩
        go_wp2_with (first | (at_builtin; have hbs := HB0.out.size; have hown := HO0.out; refine wpList_append_lies _ rfl _ _ 24 rfl W0.heap.size 3 i0 _ 1 8 Try.underlying24 hi0 hz0 hz1 hz2 rfl (by omega) (.slice (some ⟨W0.heap.size, 0, none⟩) 0 0) 0 _ rfl (hown.alloc _) ⟨w0.heap.size, 0, none⟩ 1 1 [.int .i64 2] rfl rfl (World.news_of_block (heap_alloc_new w0 _)) (by simp [Value.oneCell']) (by omega) (by simp only [maxLen]; omega) (by omega) (by simp; omega) (w0.heap.size + 1) (by simp) ?_; intro g1 cap1 w1 hown2 hgrow hat hg2; have HO1 := Lib.hid (show w1.ownsRow W0.heap.size 3 1 (.slice (some ⟨g1, 0, none⟩) 1 cap1) 1 (ncells [2]) from by simpa [ncells] using hown2); have HB1 := Lib.hid (show Below W0.heap.size W0 w1 from (HB0.out.alloc hbs _).grown hgrow (by first | omega | (simp; omega)) (fun j hj => (hown.lt j hj).1)); clear hown2 hgrow hat hg2 hown hbs v0 v1 v2 HO0 HB0; have v0 := (Var.below t0 HB1.out hz).cell 0 (v := .int .i64 2) rfl; have v1 := (Var.below t0 HB1.out hz).cell 1 (v := .int .i64 b) rfl; have v2 := (Var.below t0 HB1.out hz).cell 2 (v := .bool false) rfl) | (at_builtin; have hbs := HB1.out.size; have hown := HO1.out; refine wpList_append_lies _ rfl _ _ 24 rfl W0.heap.size 3 i0 _ 1 8 Try.underlying24 hi0 hz0 hz1 hz2 rfl (by omega) (.slice (some ⟨g1, 0, none⟩) 1 cap1) 1 _ rfl (hown.alloc _) ⟨w1.heap.size, 0, none⟩ 1 1 [.int .i64 3] rfl rfl (World.news_of_block (heap_alloc_new w1 _)) (by simp [Value.oneCell']) (by omega) (by simp only [maxLen]; omega) (by omega) (by simp; omega) (w1.heap.size + 1) (by simp) ?_; intro g2 cap2 w2 hown2 hgrow hat hg2; have HO2 := Lib.hid (show w2.ownsRow W0.heap.size 3 1 (.slice (some ⟨g2, 0, none⟩) 2 cap2) 2 (ncells [2, 3]) from by simpa [ncells] using hown2); have HB2 := Lib.hid (show Below W0.heap.size W0 w2 from (HB1.out.alloc hbs _).grown hgrow (by first | omega | (simp; omega)) (fun j hj => (hown.lt j hj).1)); clear hown2 hgrow hat hg2 hown hbs v0 v1 v2 HO1 HB1; have v0 := (Var.below t0 HB2.out hz).cell 0 (v := .int .i64 2) rfl; have v1 := (Var.below t0 HB2.out hz).cell 1 (v := .int .i64 b) rfl; have v2 := (Var.below t0 HB2.out hz).cell 2 (v := .bool false) rfl) | (at_builtin; have hbs := HB2.out.size; have hown := HO2.out; refine wpList_append_lies _ rfl _ _ 24 rfl W0.heap.size 3 i0 _ 1 8 Try.underlying24 hi0 hz0 hz1 hz2 rfl (by omega) (.slice (some ⟨g2, 0, none⟩) 2 cap2) 2 _ rfl (hown.alloc _) ⟨w2.heap.size, 0, none⟩ 1 1 [.int .i64 4] rfl rfl (World.news_of_block (heap_alloc_new w2 _)) (by simp [Value.oneCell']) (by omega) (by simp only [maxLen]; omega) (by omega) (by simp; omega) (w2.heap.size + 1) (by simp) ?_; intro g3 cap3 w3 hown2 hgrow hat hg2; have HO3 := Lib.hid (show w3.ownsRow W0.heap.size 3 1 (.slice (some ⟨g3, 0, none⟩) 3 cap3) 3 (ncells [2, 3, 4]) from by simpa [ncells] using hown2); have HB3 := Lib.hid (show Below W0.heap.size W0 w3 from (HB2.out.alloc hbs _).grown hgrow (by first | omega | (simp; omega)) (fun j hj => (hown.lt j hj).1)); clear hown2 hgrow hat hg2 hown hbs v0 v1 v2 HO2 HB2; have v0 := (Var.below t0 HB3.out hz).cell 0 (v := .int .i64 2) rfl; have v1 := (Var.below t0 HB3.out hz).cell 1 (v := .int .i64 b) rfl; have v2 := (Var.below t0 HB3.out hz).cell 2 (v := .bool false) rfl))
        go_ret
        rw [HL.out]
        exact ⟨_, 3, _, rfl, rfl, ⟨(Owned.of_row HO3.out).1.wide (by omega) (Nat.le_refl _), (Owned.of_row HO3.out).2⟩, btr hb0 HB3.out⟩
      · have HL := Lib.hid (show ctlF (2, b, true) = [2, 4] from by unfold ctlF; dsimp only; rw [h0, h1]; simp [hb, ha])
        rw [h0] at K0
        rw [h1] at K1
        have HK0 := Lib.hid K0
        have HK1 := Lib.hid K1
        clear K0 K1 h0 h1
        go_enter Try.func96, Try.ntmps96
        go_wp2_with fail
        rw [HQ.out]
        clear HQ
        generalize w.alloc (.cells #[.int .i64 2, .int .i64 b, .bool true] 29) = W0 at t0 hb0 hz ⊢
        have HO0 := Lib.hid (World.ownsRow_made (e := 3) (size := 1) W0 #[] 0 (Nat.le_refl _) (Nat.zero_le _) rfl : (W0.alloc (.cells #[] 3)).ownsRow W0.heap.size 3 1 (.slice (some ⟨W0.heap.size, 0, none⟩) 0 0) 0 (ncells []))
        have HB0 := Lib.hid (show Below W0.heap.size W0 (W0.alloc (.cells #[] 3)) from (Below.refl _ _).alloc (Nat.le_refl _) _)
        generalize W0.alloc (.cells #[] 3) = w0 at HO0 HB0 ⊢
        have v0 := (Var.below t0 HB0.out hz).cell 0 (v := .int .i64 2) rfl
        have v1 := (Var.below t0 HB0.out hz).cell 1 (v := .int .i64 b) rfl
        have v2 := (Var.below t0 HB0.out hz).cell 2 (v := .bool true) rfl
        refine (HK0.out _).mono ?_
        rintro e w' ⟨rfl, rfl⟩
        go_wp2_with fail
        refine (HK1.out _).mono ?_
        rintro e w' ⟨rfl, rfl⟩
        go_wp2_with (first | (at_builtin; have hbs := HB0.out.size; have hown := HO0.out; refine wpList_append_lies _ rfl _ _ 24 rfl W0.heap.size 3 i0 _ 1 8 Try.underlying24 hi0 hz0 hz1 hz2 rfl (by omega) (.slice (some ⟨W0.heap.size, 0, none⟩) 0 0) 0 _ rfl (hown.alloc _) ⟨w0.heap.size, 0, none⟩ 1 1 [.int .i64 2] rfl rfl (World.news_of_block (heap_alloc_new w0 _)) (by simp [Value.oneCell']) (by omega) (by simp only [maxLen]; omega) (by omega) (by simp; omega) (w0.heap.size + 1) (by simp) ?_; intro g1 cap1 w1 hown2 hgrow hat hg2; have HO1 := Lib.hid (show w1.ownsRow W0.heap.size 3 1 (.slice (some ⟨g1, 0, none⟩) 1 cap1) 1 (ncells [2]) from by simpa [ncells] using hown2); have HB1 := Lib.hid (show Below W0.heap.size W0 w1 from (HB0.out.alloc hbs _).grown hgrow (by first | omega | (simp; omega)) (fun j hj => (hown.lt j hj).1)); clear hown2 hgrow hat hg2 hown hbs v0 v1 v2 HO0 HB0; have v0 := (Var.below t0 HB1.out hz).cell 0 (v := .int .i64 2) rfl; have v1 := (Var.below t0 HB1.out hz).cell 1 (v := .int .i64 b) rfl; have v2 := (Var.below t0 HB1.out hz).cell 2 (v := .bool true) rfl) | (at_builtin; have hbs := HB1.out.size; have hown := HO1.out; refine wpList_append_lies _ rfl _ _ 24 rfl W0.heap.size 3 i0 _ 1 8 Try.underlying24 hi0 hz0 hz1 hz2 rfl (by omega) (.slice (some ⟨g1, 0, none⟩) 1 cap1) 1 _ rfl (hown.alloc _) ⟨w1.heap.size, 0, none⟩ 1 1 [.int .i64 4] rfl rfl (World.news_of_block (heap_alloc_new w1 _)) (by simp [Value.oneCell']) (by omega) (by simp only [maxLen]; omega) (by omega) (by simp; omega) (w1.heap.size + 1) (by simp) ?_; intro g2 cap2 w2 hown2 hgrow hat hg2; have HO2 := Lib.hid (show w2.ownsRow W0.heap.size 3 1 (.slice (some ⟨g2, 0, none⟩) 2 cap2) 2 (ncells [2, 4]) from by simpa [ncells] using hown2); have HB2 := Lib.hid (show Below W0.heap.size W0 w2 from (HB1.out.alloc hbs _).grown hgrow (by first | omega | (simp; omega)) (fun j hj => (hown.lt j hj).1)); clear hown2 hgrow hat hg2 hown hbs v0 v1 v2 HO1 HB1; have v0 := (Var.below t0 HB2.out hz).cell 0 (v := .int .i64 2) rfl; have v1 := (Var.below t0 HB2.out hz).cell 1 (v := .int .i64 b) rfl; have v2 := (Var.below t0 HB2.out hz).cell 2 (v := .bool true) rfl))
        go_ret
        rw [HL.out]
        exact ⟨_, 2, _, rfl, rfl, ⟨(Owned.of_row HO2.out).1.wide (by omega) (Nat.le_refl _), (Owned.of_row HO2.out).2⟩, btr hb0 HB2.out⟩
      · have HL := Lib.hid (show ctlF (2, b, false) = [3, 4] from by unfold ctlF; dsimp only; rw [h0, h1]; simp [hb, ha])
        rw [h0] at K0
        rw [h1] at K1
        have HK0 := Lib.hid K0
        have HK1 := Lib.hid K1
        clear K0 K1 h0 h1
        go_enter Try.func96, Try.ntmps96
        go_wp2_with fail
        rw [HQ.out]
        clear HQ
        generalize w.alloc (.cells #[.int .i64 2, .int .i64 b, .bool false] 29) = W0 at t0 hb0 hz ⊢
        have HO0 := Lib.hid (World.ownsRow_made (e := 3) (size := 1) W0 #[] 0 (Nat.le_refl _) (Nat.zero_le _) rfl : (W0.alloc (.cells #[] 3)).ownsRow W0.heap.size 3 1 (.slice (some ⟨W0.heap.size, 0, none⟩) 0 0) 0 (ncells []))
        have HB0 := Lib.hid (show Below W0.heap.size W0 (W0.alloc (.cells #[] 3)) from (Below.refl _ _).alloc (Nat.le_refl _) _)
        generalize W0.alloc (.cells #[] 3) = w0 at HO0 HB0 ⊢
        have v0 := (Var.below t0 HB0.out hz).cell 0 (v := .int .i64 2) rfl
        have v1 := (Var.below t0 HB0.out hz).cell 1 (v := .int .i64 b) rfl
        have v2 := (Var.below t0 HB0.out hz).cell 2 (v := .bool false) rfl
        refine (HK0.out _).mono ?_
        rintro e w' ⟨rfl, rfl⟩
        go_wp2_with fail
        refine (HK1.out _).mono ?_
        rintro e w' ⟨rfl, rfl⟩
        go_wp2_with (first | (at_builtin; have hbs := HB0.out.size; have hown := HO0.out; refine wpList_append_lies _ rfl _ _ 24 rfl W0.heap.size 3 i0 _ 1 8 Try.underlying24 hi0 hz0 hz1 hz2 rfl (by omega) (.slice (some ⟨W0.heap.size, 0, none⟩) 0 0) 0 _ rfl (hown.alloc _) ⟨w0.heap.size, 0, none⟩ 1 1 [.int .i64 3] rfl rfl (World.news_of_block (heap_alloc_new w0 _)) (by simp [Value.oneCell']) (by omega) (by simp only [maxLen]; omega) (by omega) (by simp; omega) (w0.heap.size + 1) (by simp) ?_; intro g1 cap1 w1 hown2 hgrow hat hg2; have HO1 := Lib.hid (show w1.ownsRow W0.heap.size 3 1 (.slice (some ⟨g1, 0, none⟩) 1 cap1) 1 (ncells [3]) from by simpa [ncells] using hown2); have HB1 := Lib.hid (show Below W0.heap.size W0 w1 from (HB0.out.alloc hbs _).grown hgrow (by first | omega | (simp; omega)) (fun j hj => (hown.lt j hj).1)); clear hown2 hgrow hat hg2 hown hbs v0 v1 v2 HO0 HB0; have v0 := (Var.below t0 HB1.out hz).cell 0 (v := .int .i64 2) rfl; have v1 := (Var.below t0 HB1.out hz).cell 1 (v := .int .i64 b) rfl; have v2 := (Var.below t0 HB1.out hz).cell 2 (v := .bool false) rfl) | (at_builtin; have hbs := HB1.out.size; have hown := HO1.out; refine wpList_append_lies _ rfl _ _ 24 rfl W0.heap.size 3 i0 _ 1 8 Try.underlying24 hi0 hz0 hz1 hz2 rfl (by omega) (.slice (some ⟨g1, 0, none⟩) 1 cap1) 1 _ rfl (hown.alloc _) ⟨w1.heap.size, 0, none⟩ 1 1 [.int .i64 4] rfl rfl (World.news_of_block (heap_alloc_new w1 _)) (by simp [Value.oneCell']) (by omega) (by simp only [maxLen]; omega) (by omega) (by simp; omega) (w1.heap.size + 1) (by simp) ?_; intro g2 cap2 w2 hown2 hgrow hat hg2; have HO2 := Lib.hid (show w2.ownsRow W0.heap.size 3 1 (.slice (some ⟨g2, 0, none⟩) 2 cap2) 2 (ncells [3, 4]) from by simpa [ncells] using hown2); have HB2 := Lib.hid (show Below W0.heap.size W0 w2 from (HB1.out.alloc hbs _).grown hgrow (by first | omega | (simp; omega)) (fun j hj => (hown.lt j hj).1)); clear hown2 hgrow hat hg2 hown hbs v0 v1 v2 HO1 HB1; have v0 := (Var.below t0 HB2.out hz).cell 0 (v := .int .i64 2) rfl; have v1 := (Var.below t0 HB2.out hz).cell 1 (v := .int .i64 b) rfl; have v2 := (Var.below t0 HB2.out hz).cell 2 (v := .bool false) rfl))
        go_ret
        rw [HL.out]
        exact ⟨_, 2, _, rfl, rfl, ⟨(Owned.of_row HO2.out).1.wide (by omega) (Nat.le_refl _), (Owned.of_row HO2.out).2⟩, btr hb0 HB2.out⟩
      · have HL := Lib.hid (show ctlF (2, b, true) = [4] from by unfold ctlF; dsimp only; rw [h0, h1]; simp [hb, ha])
        rw [h0] at K0
        rw [h1] at K1
        have HK0 := Lib.hid K0
        have HK1 := Lib.hid K1
        clear K0 K1 h0 h1
        go_enter Try.func96, Try.ntmps96
        go_wp2_with fail
        rw [HQ.out]
        clear HQ
        generalize w.alloc (.cells #[.int .i64 2, .int .i64 b, .bool true] 29) = W0 at t0 hb0 hz ⊢
        have HO0 := Lib.hid (World.ownsRow_made (e := 3) (size := 1) W0 #[] 0 (Nat.le_refl _) (Nat.zero_le _) rfl : (W0.alloc (.cells #[] 3)).ownsRow W0.heap.size 3 1 (.slice (some ⟨W0.heap.size, 0, none⟩) 0 0) 0 (ncells []))
        have HB0 := Lib.hid (show Below W0.heap.size W0 (W0.alloc (.cells #[] 3)) from (Below.refl _ _).alloc (Nat.le_refl _) _)
        generalize W0.alloc (.cells #[] 3) = w0 at HO0 HB0 ⊢
        have v0 := (Var.below t0 HB0.out hz).cell 0 (v := .int .i64 2) rfl
        have v1 := (Var.below t0 HB0.out hz).cell 1 (v := .int .i64 b) rfl
        have v2 := (Var.below t0 HB0.out hz).cell 2 (v := .bool true) rfl
        refine (HK0.out _).mono ?_
        rintro e w' ⟨rfl, rfl⟩
        go_wp2_with fail
        refine (HK1.out _).mono ?_
        rintro e w' ⟨rfl, rfl⟩
        go_wp2_with ((at_builtin; have hbs := HB0.out.size; have hown := HO0.out; refine wpList_append_lies _ rfl _ _ 24 rfl W0.heap.size 3 i0 _ 1 8 Try.underlying24 hi0 hz0 hz1 hz2 rfl (by omega) (.slice (some ⟨W0.heap.size, 0, none⟩) 0 0) 0 _ rfl (hown.alloc _) ⟨w0.heap.size, 0, none⟩ 1 1 [.int .i64 4] rfl rfl (World.news_of_block (heap_alloc_new w0 _)) (by simp [Value.oneCell']) (by omega) (by simp only [maxLen]; omega) (by omega) (by simp; omega) (w0.heap.size + 1) (by simp) ?_; intro g1 cap1 w1 hown2 hgrow hat hg2; have HO1 := Lib.hid (show w1.ownsRow W0.heap.size 3 1 (.slice (some ⟨g1, 0, none⟩) 1 cap1) 1 (ncells [4]) from by simpa [ncells] using hown2); have HB1 := Lib.hid (show Below W0.heap.size W0 w1 from (HB0.out.alloc hbs _).grown hgrow (by first | omega | (simp; omega)) (fun j hj => (hown.lt j hj).1)); clear hown2 hgrow hat hg2 hown hbs v0 v1 v2 HO0 HB0; have v0 := (Var.below t0 HB1.out hz).cell 0 (v := .int .i64 2) rfl; have v1 := (Var.below t0 HB1.out hz).cell 1 (v := .int .i64 b) rfl; have v2 := (Var.below t0 HB1.out hz).cell 2 (v := .bool true) rfl))
        go_ret
        rw [HL.out]
        exact ⟨_, 1, _, rfl, rfl, ⟨(Owned.of_row HO1.out).1.wide (by omega) (Nat.le_refl _), (Owned.of_row HO1.out).2⟩, btr hb0 HB1.out⟩
  · have ha : ¬ a = 2 := ha2
    have ha' : (a == 2) = false := by simpa using ha2
    cases h0 : inB a 0 3
    · by_cases hb2 : b = 0
      · subst hb2
        have h1 : inB 0 0 255 = true := rfl
        have hb : (0 : Int) = 0 := rfl
        have HL := Lib.hid (show ctlF (a, 0, o) = [1] from by unfold ctlF; dsimp only; rw [h0, h1]; simp [hb, ha])
        rw [h0] at K0
        rw [h1] at K1
        have HK0 := Lib.hid K0
        have HK1 := Lib.hid K1
        clear K0 K1 h0 h1
        go_enter Try.func96, Try.ntmps96
        go_wp2_with fail
        rw [HQ.out]
        clear HQ
        generalize w.alloc (.cells #[.int .i64 a, .int .i64 0, .bool o] 29) = W0 at t0 hb0 hz ⊢
        have HO0 := Lib.hid (World.ownsRow_made (e := 3) (size := 1) W0 #[] 0 (Nat.le_refl _) (Nat.zero_le _) rfl : (W0.alloc (.cells #[] 3)).ownsRow W0.heap.size 3 1 (.slice (some ⟨W0.heap.size, 0, none⟩) 0 0) 0 (ncells []))
        have HB0 := Lib.hid (show Below W0.heap.size W0 (W0.alloc (.cells #[] 3)) from (Below.refl _ _).alloc (Nat.le_refl _) _)
        generalize W0.alloc (.cells #[] 3) = w0 at HO0 HB0 ⊢
        have v0 := (Var.below t0 HB0.out hz).cell 0 (v := .int .i64 a) rfl
        have v1 := (Var.below t0 HB0.out hz).cell 1 (v := .int .i64 0) rfl
        have v2 := (Var.below t0 HB0.out hz).cell 2 (v := .bool o) rfl
        refine (HK0.out _).mono ?_
        rintro e w' ⟨rfl, rfl⟩
        go_wp2_with ((at_builtin; have hbs := HB0.out.size; have hown := HO0.out; refine wpList_append_lies _ rfl _ _ 24 rfl W0.heap.size 3 i0 _ 1 8 Try.underlying24 hi0 hz0 hz1 hz2 rfl (by omega) (.slice (some ⟨W0.heap.size, 0, none⟩) 0 0) 0 _ rfl (hown.alloc _) ⟨w0.heap.size, 0, none⟩ 1 1 [.int .i64 1] rfl rfl (World.news_of_block (heap_alloc_new w0 _)) (by simp [Value.oneCell']) (by omega) (by simp only [maxLen]; omega) (by omega) (by simp; omega) (w0.heap.size + 1) (by simp) ?_; intro g1 cap1 w1 hown2 hgrow hat hg2; have HO1 := Lib.hid (show w1.ownsRow W0.heap.size 3 1 (.slice (some ⟨g1, 0, none⟩) 1 cap1) 1 (ncells [1]) from by simpa [ncells] using hown2); have HB1 := Lib.hid (show Below W0.heap.size W0 w1 from (HB0.out.alloc hbs _).grown hgrow (by first | omega | (simp; omega)) (fun j hj => (hown.lt j hj).1)); clear hown2 hgrow hat hg2 hown hbs v0 v1 v2 HO0 HB0; have v0 := (Var.below t0 HB1.out hz).cell 0 (v := .int .i64 a) rfl; have v1 := (Var.below t0 HB1.out hz).cell 1 (v := .int .i64 0) rfl; have v2 := (Var.below t0 HB1.out hz).cell 2 (v := .bool o) rfl))
        refine (HK1.out _).mono ?_
        rintro e w' ⟨rfl, rfl⟩
        go_wp2_with fail
        go_ret
        rw [HL.out]
        exact ⟨_, 1, _, rfl, rfl, ⟨(Owned.of_row HO1.out).1.wide (by omega) (Nat.le_refl _), (Owned.of_row HO1.out).2⟩, btr hb0 HB1.out⟩
      · have hb : ¬ b = 0 := hb2
        have hb' : (b != 0) = true := by simpa using hb2
        cases h1 : inB b 0 255 <;> cases o
        · have HL := Lib.hid (show ctlF (a, b, false) = [1, 2, 3] from by unfold ctlF; dsimp only; rw [h0, h1]; simp [hb, ha])
          rw [h0] at K0
          rw [h1] at K1
          have HK0 := Lib.hid K0
          have HK1 := Lib.hid K1
          clear K0 K1 h0 h1
          go_enter Try.func96, Try.ntmps96
          go_wp2_with fail
          rw [HQ.out]
          clear HQ
          generalize w.alloc (.cells #[.int .i64 a, .int .i64 b, .bool false] 29) = W0 at t0 hb0 hz ⊢
          have HO0 := Lib.hid (World.ownsRow_made (e := 3) (size := 1) W0 #[] 0 (Nat.le_refl _) (Nat.zero_le _) rfl : (W0.alloc (.cells #[] 3)).ownsRow W0.heap.size 3 1 (.slice (some ⟨W0.heap.size, 0, none⟩) 0 0) 0 (ncells []))
          have HB0 := Lib.hid (show Below W0.heap.size W0 (W0.alloc (.cells #[] 3)) from (Below.refl _ _).alloc (Nat.le_refl _) _)
          generalize W0.alloc (.cells #[] 3) = w0 at HO0 HB0 ⊢
          have v0 := (Var.below t0 HB0.out hz).cell 0 (v := .int .i64 a) rfl
          have v1 := (Var.below t0 HB0.out hz).cell 1 (v := .int .i64 b) rfl
          have v2 := (Var.below t0 HB0.out hz).cell 2 (v := .bool false) rfl
          refine (HK0.out _).mono ?_
          rintro e w' ⟨rfl, rfl⟩
          go_wp2_with ((at_builtin; have hbs := HB0.out.size; have hown := HO0.out; refine wpList_append_lies _ rfl _ _ 24 rfl W0.heap.size 3 i0 _ 1 8 Try.underlying24 hi0 hz0 hz1 hz2 rfl (by omega) (.slice (some ⟨W0.heap.size, 0, none⟩) 0 0) 0 _ rfl (hown.alloc _) ⟨w0.heap.size, 0, none⟩ 1 1 [.int .i64 1] rfl rfl (World.news_of_block (heap_alloc_new w0 _)) (by simp [Value.oneCell']) (by omega) (by simp only [maxLen]; omega) (by omega) (by simp; omega) (w0.heap.size + 1) (by simp) ?_; intro g1 cap1 w1 hown2 hgrow hat hg2; have HO1 := Lib.hid (show w1.ownsRow W0.heap.size 3 1 (.slice (some ⟨g1, 0, none⟩) 1 cap1) 1 (ncells [1]) from by simpa [ncells] using hown2); have HB1 := Lib.hid (show Below W0.heap.size W0 w1 from (HB0.out.alloc hbs _).grown hgrow (by first | omega | (simp; omega)) (fun j hj => (hown.lt j hj).1)); clear hown2 hgrow hat hg2 hown hbs v0 v1 v2 HO0 HB0; have v0 := (Var.below t0 HB1.out hz).cell 0 (v := .int .i64 a) rfl; have v1 := (Var.below t0 HB1.out hz).cell 1 (v := .int .i64 b) rfl; have v2 := (Var.below t0 HB1.out hz).cell 2 (v := .bool false) rfl))
          refine (HK1.out _).mono ?_
          rintro e w' ⟨rfl, rfl⟩
          go_wp2_with (first | (at_builtin; have hbs := HB1.out.size; have hown := HO1.out; refine wpList_append_lies _ rfl _ _ 24 rfl W0.heap.size 3 i0 _ 1 8 Try.underlying24 hi0 hz0 hz1 hz2 rfl (by omega) (.slice (some ⟨g1, 0, none⟩) 1 cap1) 1 _ rfl (hown.alloc _) ⟨w1.heap.size, 0, none⟩ 1 1 [.int .i64 2] rfl rfl (World.news_of_block (heap_alloc_new w1 _)) (by simp [Value.oneCell']) (by omega) (by simp only [maxLen]; omega) (by omega) (by simp; omega) (w1.heap.size + 1) (by simp) ?_; intro g2 cap2 w2 hown2 hgrow hat hg2; have HO2 := Lib.hid (show w2.ownsRow W0.heap.size 3 1 (.slice (some ⟨g2, 0, none⟩) 2 cap2) 2 (ncells [1, 2]) from by simpa [ncells] using hown2); have HB2 := Lib.hid (show Below W0.heap.size W0 w2 from (HB1.out.alloc hbs _).grown hgrow (by first | omega | (simp; omega)) (fun j hj => (hown.lt j hj).1)); clear hown2 hgrow hat hg2 hown hbs v0 v1 v2 HO1 HB1; have v0 := (Var.below t0 HB2.out hz).cell 0 (v := .int .i64 a) rfl; have v1 := (Var.below t0 HB2.out hz).cell 1 (v := .int .i64 b) rfl; have v2 := (Var.below t0 HB2.out hz).cell 2 (v := .bool false) rfl) | (at_builtin; have hbs := HB2.out.size; have hown := HO2.out; refine wpList_append_lies _ rfl _ _ 24 rfl W0.heap.size 3 i0 _ 1 8 Try.underlying24 hi0 hz0 hz1 hz2 rfl (by omega) (.slice (some ⟨g2, 0, none⟩) 2 cap2) 2 _ rfl (hown.alloc _) ⟨w2.heap.size, 0, none⟩ 1 1 [.int .i64 3] rfl rfl (World.news_of_block (heap_alloc_new w2 _)) (by simp [Value.oneCell']) (by omega) (by simp only [maxLen]; omega) (by omega) (by simp; omega) (w2.heap.size + 1) (by simp) ?_; intro g3 cap3 w3 hown2 hgrow hat hg2; have HO3 := Lib.hid (show w3.ownsRow W0.heap.size 3 1 (.slice (some ⟨g3, 0, none⟩) 3 cap3) 3 (ncells [1, 2, 3]) from by simpa [ncells] using hown2); have HB3 := Lib.hid (show Below W0.heap.size W0 w3 from (HB2.out.alloc hbs _).grown hgrow (by first | omega | (simp; omega)) (fun j hj => (hown.lt j hj).1)); clear hown2 hgrow hat hg2 hown hbs v0 v1 v2 HO2 HB2; have v0 := (Var.below t0 HB3.out hz).cell 0 (v := .int .i64 a) rfl; have v1 := (Var.below t0 HB3.out hz).cell 1 (v := .int .i64 b) rfl; have v2 := (Var.below t0 HB3.out hz).cell 2 (v := .bool false) rfl))
          go_ret
          rw [HL.out]
          exact ⟨_, 3, _, rfl, rfl, ⟨(Owned.of_row HO3.out).1.wide (by omega) (Nat.le_refl _), (Owned.of_row HO3.out).2⟩, btr hb0 HB3.out⟩
        · have HL := Lib.hid (show ctlF (a, b, true) = [1, 2] from by unfold ctlF; dsimp only; rw [h0, h1]; simp [hb, ha])
          rw [h0] at K0
          rw [h1] at K1
          have HK0 := Lib.hid K0
          have HK1 := Lib.hid K1
          clear K0 K1 h0 h1
          go_enter Try.func96, Try.ntmps96
          go_wp2_with fail
          rw [HQ.out]
          clear HQ
          generalize w.alloc (.cells #[.int .i64 a, .int .i64 b, .bool true] 29) = W0 at t0 hb0 hz ⊢
          have HO0 := Lib.hid (World.ownsRow_made (e := 3) (size := 1) W0 #[] 0 (Nat.le_refl _) (Nat.zero_le _) rfl : (W0.alloc (.cells #[] 3)).ownsRow W0.heap.size 3 1 (.slice (some ⟨W0.heap.size, 0, none⟩) 0 0) 0 (ncells []))
          have HB0 := Lib.hid (show Below W0.heap.size W0 (W0.alloc (.cells #[] 3)) from (Below.refl _ _).alloc (Nat.le_refl _) _)
          generalize W0.alloc (.cells #[] 3) = w0 at HO0 HB0 ⊢
          have v0 := (Var.below t0 HB0.out hz).cell 0 (v := .int .i64 a) rfl
          have v1 := (Var.below t0 HB0.out hz).cell 1 (v := .int .i64 b) rfl
          have v2 := (Var.below t0 HB0.out hz).cell 2 (v := .bool true) rfl
          refine (HK0.out _).mono ?_
          rintro e w' ⟨rfl, rfl⟩
          go_wp2_with ((at_builtin; have hbs := HB0.out.size; have hown := HO0.out; refine wpList_append_lies _ rfl _ _ 24 rfl W0.heap.size 3 i0 _ 1 8 Try.underlying24 hi0 hz0 hz1 hz2 rfl (by omega) (.slice (some ⟨W0.heap.size, 0, none⟩) 0 0) 0 _ rfl (hown.alloc _) ⟨w0.heap.size, 0, none⟩ 1 1 [.int .i64 1] rfl rfl (World.news_of_block (heap_alloc_new w0 _)) (by simp [Value.oneCell']) (by omega) (by simp only [maxLen]; omega) (by omega) (by simp; omega) (w0.heap.size + 1) (by simp) ?_; intro g1 cap1 w1 hown2 hgrow hat hg2; have HO1 := Lib.hid (show w1.ownsRow W0.heap.size 3 1 (.slice (some ⟨g1, 0, none⟩) 1 cap1) 1 (ncells [1]) from by simpa [ncells] using hown2); have HB1 := Lib.hid (show Below W0.heap.size W0 w1 from (HB0.out.alloc hbs _).grown hgrow (by first | omega | (simp; omega)) (fun j hj => (hown.lt j hj).1)); clear hown2 hgrow hat hg2 hown hbs v0 v1 v2 HO0 HB0; have v0 := (Var.below t0 HB1.out hz).cell 0 (v := .int .i64 a) rfl; have v1 := (Var.below t0 HB1.out hz).cell 1 (v := .int .i64 b) rfl; have v2 := (Var.below t0 HB1.out hz).cell 2 (v := .bool true) rfl))
          refine (HK1.out _).mono ?_
          rintro e w' ⟨rfl, rfl⟩
          go_wp2_with ((at_builtin; have hbs := HB1.out.size; have hown := HO1.out; refine wpList_append_lies _ rfl _ _ 24 rfl W0.heap.size 3 i0 _ 1 8 Try.underlying24 hi0 hz0 hz1 hz2 rfl (by omega) (.slice (some ⟨g1, 0, none⟩) 1 cap1) 1 _ rfl (hown.alloc _) ⟨w1.heap.size, 0, none⟩ 1 1 [.int .i64 2] rfl rfl (World.news_of_block (heap_alloc_new w1 _)) (by simp [Value.oneCell']) (by omega) (by simp only [maxLen]; omega) (by omega) (by simp; omega) (w1.heap.size + 1) (by simp) ?_; intro g2 cap2 w2 hown2 hgrow hat hg2; have HO2 := Lib.hid (show w2.ownsRow W0.heap.size 3 1 (.slice (some ⟨g2, 0, none⟩) 2 cap2) 2 (ncells [1, 2]) from by simpa [ncells] using hown2); have HB2 := Lib.hid (show Below W0.heap.size W0 w2 from (HB1.out.alloc hbs _).grown hgrow (by first | omega | (simp; omega)) (fun j hj => (hown.lt j hj).1)); clear hown2 hgrow hat hg2 hown hbs v0 v1 v2 HO1 HB1; have v0 := (Var.below t0 HB2.out hz).cell 0 (v := .int .i64 a) rfl; have v1 := (Var.below t0 HB2.out hz).cell 1 (v := .int .i64 b) rfl; have v2 := (Var.below t0 HB2.out hz).cell 2 (v := .bool true) rfl))
          go_ret
          rw [HL.out]
          exact ⟨_, 2, _, rfl, rfl, ⟨(Owned.of_row HO2.out).1.wide (by omega) (Nat.le_refl _), (Owned.of_row HO2.out).2⟩, btr hb0 HB2.out⟩
        · have HL := Lib.hid (show ctlF (a, b, false) = [1, 3] from by unfold ctlF; dsimp only; rw [h0, h1]; simp [hb, ha])
          rw [h0] at K0
          rw [h1] at K1
          have HK0 := Lib.hid K0
          have HK1 := Lib.hid K1
          clear K0 K1 h0 h1
          go_enter Try.func96, Try.ntmps96
          go_wp2_with fail
          rw [HQ.out]
          clear HQ
          generalize w.alloc (.cells #[.int .i64 a, .int .i64 b, .bool false] 29) = W0 at t0 hb0 hz ⊢
          have HO0 := Lib.hid (World.ownsRow_made (e := 3) (size := 1) W0 #[] 0 (Nat.le_refl _) (Nat.zero_le _) rfl : (W0.alloc (.cells #[] 3)).ownsRow W0.heap.size 3 1 (.slice (some ⟨W0.heap.size, 0, none⟩) 0 0) 0 (ncells []))
          have HB0 := Lib.hid (show Below W0.heap.size W0 (W0.alloc (.cells #[] 3)) from (Below.refl _ _).alloc (Nat.le_refl _) _)
          generalize W0.alloc (.cells #[] 3) = w0 at HO0 HB0 ⊢
          have v0 := (Var.below t0 HB0.out hz).cell 0 (v := .int .i64 a) rfl
          have v1 := (Var.below t0 HB0.out hz).cell 1 (v := .int .i64 b) rfl
          have v2 := (Var.below t0 HB0.out hz).cell 2 (v := .bool false) rfl
          refine (HK0.out _).mono ?_
          rintro e w' ⟨rfl, rfl⟩
          go_wp2_with ((at_builtin; have hbs := HB0.out.size; have hown := HO0.out; refine wpList_append_lies _ rfl _ _ 24 rfl W0.heap.size 3 i0 _ 1 8 Try.underlying24 hi0 hz0 hz1 hz2 rfl (by omega) (.slice (some ⟨W0.heap.size, 0, none⟩) 0 0) 0 _ rfl (hown.alloc _) ⟨w0.heap.size, 0, none⟩ 1 1 [.int .i64 1] rfl rfl (World.news_of_block (heap_alloc_new w0 _)) (by simp [Value.oneCell']) (by omega) (by simp only [maxLen]; omega) (by omega) (by simp; omega) (w0.heap.size + 1) (by simp) ?_; intro g1 cap1 w1 hown2 hgrow hat hg2; have HO1 := Lib.hid (show w1.ownsRow W0.heap.size 3 1 (.slice (some ⟨g1, 0, none⟩) 1 cap1) 1 (ncells [1]) from by simpa [ncells] using hown2); have HB1 := Lib.hid (show Below W0.heap.size W0 w1 from (HB0.out.alloc hbs _).grown hgrow (by first | omega | (simp; omega)) (fun j hj => (hown.lt j hj).1)); clear hown2 hgrow hat hg2 hown hbs v0 v1 v2 HO0 HB0; have v0 := (Var.below t0 HB1.out hz).cell 0 (v := .int .i64 a) rfl; have v1 := (Var.below t0 HB1.out hz).cell 1 (v := .int .i64 b) rfl; have v2 := (Var.below t0 HB1.out hz).cell 2 (v := .bool false) rfl))
          refine (HK1.out _).mono ?_
          rintro e w' ⟨rfl, rfl⟩
          go_wp2_with ((at_builtin; have hbs := HB1.out.size; have hown := HO1.out; refine wpList_append_lies _ rfl _ _ 24 rfl W0.heap.size 3 i0 _ 1 8 Try.underlying24 hi0 hz0 hz1 hz2 rfl (by omega) (.slice (some ⟨g1, 0, none⟩) 1 cap1) 1 _ rfl (hown.alloc _) ⟨w1.heap.size, 0, none⟩ 1 1 [.int .i64 3] rfl rfl (World.news_of_block (heap_alloc_new w1 _)) (by simp [Value.oneCell']) (by omega) (by simp only [maxLen]; omega) (by omega) (by simp; omega) (w1.heap.size + 1) (by simp) ?_; intro g2 cap2 w2 hown2 hgrow hat hg2; have HO2 := Lib.hid (show w2.ownsRow W0.heap.size 3 1 (.slice (some ⟨g2, 0, none⟩) 2 cap2) 2 (ncells [1, 3]) from by simpa [ncells] using hown2); have HB2 := Lib.hid (show Below W0.heap.size W0 w2 from (HB1.out.alloc hbs _).grown hgrow (by first | omega | (simp; omega)) (fun j hj => (hown.lt j hj).1)); clear hown2 hgrow hat hg2 hown hbs v0 v1 v2 HO1 HB1; have v0 := (Var.below t0 HB2.out hz).cell 0 (v := .int .i64 a) rfl; have v1 := (Var.below t0 HB2.out hz).cell 1 (v := .int .i64 b) rfl; have v2 := (Var.below t0 HB2.out hz).cell 2 (v := .bool false) rfl))
          go_ret
          rw [HL.out]
          exact ⟨_, 2, _, rfl, rfl, ⟨(Owned.of_row HO2.out).1.wide (by omega) (Nat.le_refl _), (Owned.of_row HO2.out).2⟩, btr hb0 HB2.out⟩
        · have HL := Lib.hid (show ctlF (a, b, true) = [1] from by unfold ctlF; dsimp only; rw [h0, h1]; simp [hb, ha])
          rw [h0] at K0
          rw [h1] at K1
          have HK0 := Lib.hid K0
          have HK1 := Lib.hid K1
          clear K0 K1 h0 h1
          go_enter Try.func96, Try.ntmps96
          go_wp2_with fail
          rw [HQ.out]
          clear HQ
          generalize w.alloc (.cells #[.int .i64 a, .int .i64 b, .bool true] 29) = W0 at t0 hb0 hz ⊢
          have HO0 := Lib.hid (World.ownsRow_made (e := 3) (size := 1) W0 #[] 0 (Nat.le_refl _) (Nat.zero_le _) rfl : (W0.alloc (.cells #[] 3)).ownsRow W0.heap.size 3 1 (.slice (some ⟨W0.heap.size, 0, none⟩) 0 0) 0 (ncells []))
          have HB0 := Lib.hid (show Below W0.heap.size W0 (W0.alloc (.cells #[] 3)) from (Below.refl _ _).alloc (Nat.le_refl _) _)
          generalize W0.alloc (.cells #[] 3) = w0 at HO0 HB0 ⊢
          have v0 := (Var.below t0 HB0.out hz).cell 0 (v := .int .i64 a) rfl
          have v1 := (Var.below t0 HB0.out hz).cell 1 (v := .int .i64 b) rfl
          have v2 := (Var.below t0 HB0.out hz).cell 2 (v := .bool true) rfl
          refine (HK0.out _).mono ?_
          rintro e w' ⟨rfl, rfl⟩
          go_wp2_with ((at_builtin; have hbs := HB0.out.size; have hown := HO0.out; refine wpList_append_lies _ rfl _ _ 24 rfl W0.heap.size 3 i0 _ 1 8 Try.underlying24 hi0 hz0 hz1 hz2 rfl (by omega) (.slice (some ⟨W0.heap.size, 0, none⟩) 0 0) 0 _ rfl (hown.alloc _) ⟨w0.heap.size, 0, none⟩ 1 1 [.int .i64 1] rfl rfl (World.news_of_block (heap_alloc_new w0 _)) (by simp [Value.oneCell']) (by omega) (by simp only [maxLen]; omega) (by omega) (by simp; omega) (w0.heap.size + 1) (by simp) ?_; intro g1 cap1 w1 hown2 hgrow hat hg2; have HO1 := Lib.hid (show w1.ownsRow W0.heap.size 3 1 (.slice (some ⟨g1, 0, none⟩) 1 cap1) 1 (ncells [1]) from by simpa [ncells] using hown2); have HB1 := Lib.hid (show Below W0.heap.size W0 w1 from (HB0.out.alloc hbs _).grown hgrow (by first | omega | (simp; omega)) (fun j hj => (hown.lt j hj).1)); clear hown2 hgrow hat hg2 hown hbs v0 v1 v2 HO0 HB0; have v0 := (Var.below t0 HB1.out hz).cell 0 (v := .int .i64 a) rfl; have v1 := (Var.below t0 HB1.out hz).cell 1 (v := .int .i64 b) rfl; have v2 := (Var.below t0 HB1.out hz).cell 2 (v := .bool true) rfl))
          refine (HK1.out _).mono ?_
          rintro e w' ⟨rfl, rfl⟩
          go_wp2_with fail
          go_ret
          rw [HL.out]
          exact ⟨_, 1, _, rfl, rfl, ⟨(Owned.of_row HO1.out).1.wide (by omega) (Nat.le_refl _), (Owned.of_row HO1.out).2⟩, btr hb0 HB1.out⟩
    · by_cases hb2 : b = 0
      · subst hb2
        have h1 : inB 0 0 255 = true := rfl
        have hb : (0 : Int) = 0 := rfl
        have HL := Lib.hid (show ctlF (a, 0, o) = [] from by unfold ctlF; dsimp only; rw [h0, h1]; simp [hb, ha])
        rw [h0] at K0
        rw [h1] at K1
        have HK0 := Lib.hid K0
        have HK1 := Lib.hid K1
        clear K0 K1 h0 h1
        go_enter Try.func96, Try.ntmps96
        go_wp2_with fail
        rw [HQ.out]
        clear HQ
        generalize w.alloc (.cells #[.int .i64 a, .int .i64 0, .bool o] 29) = W0 at t0 hb0 hz ⊢
        have HO0 := Lib.hid (World.ownsRow_made (e := 3) (size := 1) W0 #[] 0 (Nat.le_refl _) (Nat.zero_le _) rfl : (W0.alloc (.cells #[] 3)).ownsRow W0.heap.size 3 1 (.slice (some ⟨W0.heap.size, 0, none⟩) 0 0) 0 (ncells []))
        have HB0 := Lib.hid (show Below W0.heap.size W0 (W0.alloc (.cells #[] 3)) from (Below.refl _ _).alloc (Nat.le_refl _) _)
        generalize W0.alloc (.cells #[] 3) = w0 at HO0 HB0 ⊢
        have v0 := (Var.below t0 HB0.out hz).cell 0 (v := .int .i64 a) rfl
        have v1 := (Var.below t0 HB0.out hz).cell 1 (v := .int .i64 0) rfl
        have v2 := (Var.below t0 HB0.out hz).cell 2 (v := .bool o) rfl
        refine (HK0.out _).mono ?_
        rintro e w' ⟨rfl, rfl⟩
        go_wp2_with fail
        refine (HK1.out _).mono ?_
        rintro e w' ⟨rfl, rfl⟩
        go_wp2_with fail
        go_ret
        rw [HL.out]
        exact ⟨_, 0, _, rfl, rfl, ⟨(Owned.of_row HO0.out).1.wide (by omega) (Nat.le_refl _), (Owned.of_row HO0.out).2⟩, btr hb0 HB0.out⟩
      · have hb : ¬ b = 0 := hb2
        have hb' : (b != 0) = true := by simpa using hb2
        cases h1 : inB b 0 255 <;> cases o
        · have HL := Lib.hid (show ctlF (a, b, false) = [2, 3] from by unfold ctlF; dsimp only; rw [h0, h1]; simp [hb, ha])
          rw [h0] at K0
          rw [h1] at K1
          have HK0 := Lib.hid K0
          have HK1 := Lib.hid K1
          clear K0 K1 h0 h1
          go_enter Try.func96, Try.ntmps96
          go_wp2_with fail
          rw [HQ.out]
          clear HQ
          generalize w.alloc (.cells #[.int .i64 a, .int .i64 b, .bool false] 29) = W0 at t0 hb0 hz ⊢
          have HO0 := Lib.hid (World.ownsRow_made (e := 3) (size := 1) W0 #[] 0 (Nat.le_refl _) (Nat.zero_le _) rfl : (W0.alloc (.cells #[] 3)).ownsRow W0.heap.size 3 1 (.slice (some ⟨W0.heap.size, 0, none⟩) 0 0) 0 (ncells []))
          have HB0 := Lib.hid (show Below W0.heap.size W0 (W0.alloc (.cells #[] 3)) from (Below.refl _ _).alloc (Nat.le_refl _) _)
          generalize W0.alloc (.cells #[] 3) = w0 at HO0 HB0 ⊢
          have v0 := (Var.below t0 HB0.out hz).cell 0 (v := .int .i64 a) rfl
          have v1 := (Var.below t0 HB0.out hz).cell 1 (v := .int .i64 b) rfl
          have v2 := (Var.below t0 HB0.out hz).cell 2 (v := .bool false) rfl
          refine (HK0.out _).mono ?_
          rintro e w' ⟨rfl, rfl⟩
          go_wp2_with fail
          refine (HK1.out _).mono ?_
          rintro e w' ⟨rfl, rfl⟩
          go_wp2_with (first | (at_builtin; have hbs := HB0.out.size; have hown := HO0.out; refine wpList_append_lies _ rfl _ _ 24 rfl W0.heap.size 3 i0 _ 1 8 Try.underlying24 hi0 hz0 hz1 hz2 rfl (by omega) (.slice (some ⟨W0.heap.size, 0, none⟩) 0 0) 0 _ rfl (hown.alloc _) ⟨w0.heap.size, 0, none⟩ 1 1 [.int .i64 2] rfl rfl (World.news_of_block (heap_alloc_new w0 _)) (by simp [Value.oneCell']) (by omega) (by simp only [maxLen]; omega) (by omega) (by simp; omega) (w0.heap.size + 1) (by simp) ?_; intro g1 cap1 w1 hown2 hgrow hat hg2; have HO1 := Lib.hid (show w1.ownsRow W0.heap.size 3 1 (.slice (some ⟨g1, 0, none⟩) 1 cap1) 1 (ncells [2]) from by simpa [ncells] using hown2); have HB1 := Lib.hid (show Below W0.heap.size W0 w1 from (HB0.out.alloc hbs _).grown hgrow (by first | omega | (simp; omega)) (fun j hj => (hown.lt j hj).1)); clear hown2 hgrow hat hg2 hown hbs v0 v1 v2 HO0 HB0; have v0 := (Var.below t0 HB1.out hz).cell 0 (v := .int .i64 a) rfl; have v1 := (Var.below t0 HB1.out hz).cell 1 (v := .int .i64 b) rfl; have v2 := (Var.below t0 HB1.out hz).cell 2 (v := .bool false) rfl) | (at_builtin; have hbs := HB1.out.size; have hown := HO1.out; refine wpList_append_lies _ rfl _ _ 24 rfl W0.heap.size 3 i0 _ 1 8 Try.underlying24 hi0 hz0 hz1 hz2 rfl (by omega) (.slice (some ⟨g1, 0, none⟩) 1 cap1) 1 _ rfl (hown.alloc _) ⟨w1.heap.size, 0, none⟩ 1 1 [.int .i64 3] rfl rfl (World.news_of_block (heap_alloc_new w1 _)) (by simp [Value.oneCell']) (by omega) (by simp only [maxLen]; omega) (by omega) (by simp; omega) (w1.heap.size + 1) (by simp) ?_; intro g2 cap2 w2 hown2 hgrow hat hg2; have HO2 := Lib.hid (show w2.ownsRow W0.heap.size 3 1 (.slice (some ⟨g2, 0, none⟩) 2 cap2) 2 (ncells [2, 3]) from by simpa [ncells] using hown2); have HB2 := Lib.hid (show Below W0.heap.size W0 w2 from (HB1.out.alloc hbs _).grown hgrow (by first | omega | (simp; omega)) (fun j hj => (hown.lt j hj).1)); clear hown2 hgrow hat hg2 hown hbs v0 v1 v2 HO1 HB1; have v0 := (Var.below t0 HB2.out hz).cell 0 (v := .int .i64 a) rfl; have v1 := (Var.below t0 HB2.out hz).cell 1 (v := .int .i64 b) rfl; have v2 := (Var.below t0 HB2.out hz).cell 2 (v := .bool false) rfl))
          go_ret
          rw [HL.out]
          exact ⟨_, 2, _, rfl, rfl, ⟨(Owned.of_row HO2.out).1.wide (by omega) (Nat.le_refl _), (Owned.of_row HO2.out).2⟩, btr hb0 HB2.out⟩
        · have HL := Lib.hid (show ctlF (a, b, true) = [2] from by unfold ctlF; dsimp only; rw [h0, h1]; simp [hb, ha])
          rw [h0] at K0
          rw [h1] at K1
          have HK0 := Lib.hid K0
          have HK1 := Lib.hid K1
          clear K0 K1 h0 h1
          go_enter Try.func96, Try.ntmps96
          go_wp2_with fail
          rw [HQ.out]
          clear HQ
          generalize w.alloc (.cells #[.int .i64 a, .int .i64 b, .bool true] 29) = W0 at t0 hb0 hz ⊢
          have HO0 := Lib.hid (World.ownsRow_made (e := 3) (size := 1) W0 #[] 0 (Nat.le_refl _) (Nat.zero_le _) rfl : (W0.alloc (.cells #[] 3)).ownsRow W0.heap.size 3 1 (.slice (some ⟨W0.heap.size, 0, none⟩) 0 0) 0 (ncells []))
          have HB0 := Lib.hid (show Below W0.heap.size W0 (W0.alloc (.cells #[] 3)) from (Below.refl _ _).alloc (Nat.le_refl _) _)
          generalize W0.alloc (.cells #[] 3) = w0 at HO0 HB0 ⊢
          have v0 := (Var.below t0 HB0.out hz).cell 0 (v := .int .i64 a) rfl
          have v1 := (Var.below t0 HB0.out hz).cell 1 (v := .int .i64 b) rfl
          have v2 := (Var.below t0 HB0.out hz).cell 2 (v := .bool true) rfl
          refine (HK0.out _).mono ?_
          rintro e w' ⟨rfl, rfl⟩
          go_wp2_with fail
          refine (HK1.out _).mono ?_
          rintro e w' ⟨rfl, rfl⟩
          go_wp2_with ((at_builtin; have hbs := HB0.out.size; have hown := HO0.out; refine wpList_append_lies _ rfl _ _ 24 rfl W0.heap.size 3 i0 _ 1 8 Try.underlying24 hi0 hz0 hz1 hz2 rfl (by omega) (.slice (some ⟨W0.heap.size, 0, none⟩) 0 0) 0 _ rfl (hown.alloc _) ⟨w0.heap.size, 0, none⟩ 1 1 [.int .i64 2] rfl rfl (World.news_of_block (heap_alloc_new w0 _)) (by simp [Value.oneCell']) (by omega) (by simp only [maxLen]; omega) (by omega) (by simp; omega) (w0.heap.size + 1) (by simp) ?_; intro g1 cap1 w1 hown2 hgrow hat hg2; have HO1 := Lib.hid (show w1.ownsRow W0.heap.size 3 1 (.slice (some ⟨g1, 0, none⟩) 1 cap1) 1 (ncells [2]) from by simpa [ncells] using hown2); have HB1 := Lib.hid (show Below W0.heap.size W0 w1 from (HB0.out.alloc hbs _).grown hgrow (by first | omega | (simp; omega)) (fun j hj => (hown.lt j hj).1)); clear hown2 hgrow hat hg2 hown hbs v0 v1 v2 HO0 HB0; have v0 := (Var.below t0 HB1.out hz).cell 0 (v := .int .i64 a) rfl; have v1 := (Var.below t0 HB1.out hz).cell 1 (v := .int .i64 b) rfl; have v2 := (Var.below t0 HB1.out hz).cell 2 (v := .bool true) rfl))
          go_ret
          rw [HL.out]
          exact ⟨_, 1, _, rfl, rfl, ⟨(Owned.of_row HO1.out).1.wide (by omega) (Nat.le_refl _), (Owned.of_row HO1.out).2⟩, btr hb0 HB1.out⟩
        · have HL := Lib.hid (show ctlF (a, b, false) = [3] from by unfold ctlF; dsimp only; rw [h0, h1]; simp [hb, ha])
          rw [h0] at K0
          rw [h1] at K1
          have HK0 := Lib.hid K0
          have HK1 := Lib.hid K1
          clear K0 K1 h0 h1
          go_enter Try.func96, Try.ntmps96
          go_wp2_with fail
          rw [HQ.out]
          clear HQ
          generalize w.alloc (.cells #[.int .i64 a, .int .i64 b, .bool false] 29) = W0 at t0 hb0 hz ⊢
          have HO0 := Lib.hid (World.ownsRow_made (e := 3) (size := 1) W0 #[] 0 (Nat.le_refl _) (Nat.zero_le _) rfl : (W0.alloc (.cells #[] 3)).ownsRow W0.heap.size 3 1 (.slice (some ⟨W0.heap.size, 0, none⟩) 0 0) 0 (ncells []))
          have HB0 := Lib.hid (show Below W0.heap.size W0 (W0.alloc (.cells #[] 3)) from (Below.refl _ _).alloc (Nat.le_refl _) _)
          generalize W0.alloc (.cells #[] 3) = w0 at HO0 HB0 ⊢
          have v0 := (Var.below t0 HB0.out hz).cell 0 (v := .int .i64 a) rfl
          have v1 := (Var.below t0 HB0.out hz).cell 1 (v := .int .i64 b) rfl
          have v2 := (Var.below t0 HB0.out hz).cell 2 (v := .bool false) rfl
          refine (HK0.out _).mono ?_
          rintro e w' ⟨rfl, rfl⟩
          go_wp2_with fail
          refine (HK1.out _).mono ?_
          rintro e w' ⟨rfl, rfl⟩
          go_wp2_with ((at_builtin; have hbs := HB0.out.size; have hown := HO0.out; refine wpList_append_lies _ rfl _ _ 24 rfl W0.heap.size 3 i0 _ 1 8 Try.underlying24 hi0 hz0 hz1 hz2 rfl (by omega) (.slice (some ⟨W0.heap.size, 0, none⟩) 0 0) 0 _ rfl (hown.alloc _) ⟨w0.heap.size, 0, none⟩ 1 1 [.int .i64 3] rfl rfl (World.news_of_block (heap_alloc_new w0 _)) (by simp [Value.oneCell']) (by omega) (by simp only [maxLen]; omega) (by omega) (by simp; omega) (w0.heap.size + 1) (by simp) ?_; intro g1 cap1 w1 hown2 hgrow hat hg2; have HO1 := Lib.hid (show w1.ownsRow W0.heap.size 3 1 (.slice (some ⟨g1, 0, none⟩) 1 cap1) 1 (ncells [3]) from by simpa [ncells] using hown2); have HB1 := Lib.hid (show Below W0.heap.size W0 w1 from (HB0.out.alloc hbs _).grown hgrow (by first | omega | (simp; omega)) (fun j hj => (hown.lt j hj).1)); clear hown2 hgrow hat hg2 hown hbs v0 v1 v2 HO0 HB0; have v0 := (Var.below t0 HB1.out hz).cell 0 (v := .int .i64 a) rfl; have v1 := (Var.below t0 HB1.out hz).cell 1 (v := .int .i64 b) rfl; have v2 := (Var.below t0 HB1.out hz).cell 2 (v := .bool false) rfl))
          go_ret
          rw [HL.out]
          exact ⟨_, 1, _, rfl, rfl, ⟨(Owned.of_row HO1.out).1.wide (by omega) (Nat.le_refl _), (Owned.of_row HO1.out).2⟩, btr hb0 HB1.out⟩
        · have HL := Lib.hid (show ctlF (a, b, true) = [] from by unfold ctlF; dsimp only; rw [h0, h1]; simp [hb, ha])
          rw [h0] at K0
          rw [h1] at K1
          have HK0 := Lib.hid K0
          have HK1 := Lib.hid K1
          clear K0 K1 h0 h1
          go_enter Try.func96, Try.ntmps96
          go_wp2_with fail
          rw [HQ.out]
          clear HQ
          generalize w.alloc (.cells #[.int .i64 a, .int .i64 b, .bool true] 29) = W0 at t0 hb0 hz ⊢
          have HO0 := Lib.hid (World.ownsRow_made (e := 3) (size := 1) W0 #[] 0 (Nat.le_refl _) (Nat.zero_le _) rfl : (W0.alloc (.cells #[] 3)).ownsRow W0.heap.size 3 1 (.slice (some ⟨W0.heap.size, 0, none⟩) 0 0) 0 (ncells []))
          have HB0 := Lib.hid (show Below W0.heap.size W0 (W0.alloc (.cells #[] 3)) from (Below.refl _ _).alloc (Nat.le_refl _) _)
          generalize W0.alloc (.cells #[] 3) = w0 at HO0 HB0 ⊢
          have v0 := (Var.below t0 HB0.out hz).cell 0 (v := .int .i64 a) rfl
          have v1 := (Var.below t0 HB0.out hz).cell 1 (v := .int .i64 b) rfl
          have v2 := (Var.below t0 HB0.out hz).cell 2 (v := .bool true) rfl
          refine (HK0.out _).mono ?_
          rintro e w' ⟨rfl, rfl⟩
          go_wp2_with fail
          refine (HK1.out _).mono ?_
          rintro e w' ⟨rfl, rfl⟩
          go_wp2_with fail
          go_ret
          rw [HL.out]
          exact ⟨_, 0, _, rfl, rfl, ⟨(Owned.of_row HO0.out).1.wide (by omega) (Nat.le_refl _), (Owned.of_row HO0.out).2⟩, btr hb0 HB0.out⟩
end Go.Proofs.Yteopkcndkcciaaa.Ctls
