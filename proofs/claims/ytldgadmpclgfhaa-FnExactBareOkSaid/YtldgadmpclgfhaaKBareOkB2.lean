/-
  The texts that KBareOk wants, part 2: Ctl Ctl2 Exit Guest SlotOne BroughtImpl GuestX SxA BareR KitO KitA Addrs Ins SlotOneS TabOk Page MemMake MemPut MemPutS GuestOkX BareX BareS IrqImpl. No condition.
-/
import Derived.Test.YtldgadmpclgfhaaKBareOkB1
import Derived.Deep.Cut
import Derived.Deep.RegionHeld3
import Derived.Test.YtldgadmpclgfhaaRows
import Derived.WalkKit
import Derived.ProofKit
import Derived.OpenShut
import Derived.Laws.CopyOwn
import Derived.Maps.AppendAt
import Derived.RangeFuncFrom
import Derived.RangeFuncBound
import Derived.RangeFuncCalls
import Derived.RangeFuncLeaves
import Derived.Shelf.Abstract
import Derived.OwnWalkIn
import Derived.TacticsInMore
import Derived.LoopNIn
import Derived.LoopIn
namespace Go.Proofs.Ytldgadmpclgfhaa.Ctls
set_option maxRecDepth 100000
open Go.ChangeShapes Go.WideShapes Go.ChangeAt Go.RowKit
open Go.Proofs.Ytldgadmpclgfhaa.Base Go.Proofs.Ytldgadmpclgfhaa.Mem Go.Proofs.Ytldgadmpclgfhaa.Data Go.Proofs.Ytldgadmpclgfhaa.Ints Go.Proofs.Ytldgadmpclgfhaa.Slots
set_option linter.unusedVariables false
set_option linter.unusedSimpArgs false
def ctlF (s : CT) : List Int :=
  (if inB s.1 0 3 = true then [] else [1]) ++ ((if inB s.2.1 0 255 = true then [] else [2]) ++ ((if s.2.1 ≠ 0 ∧ s.2.2 = false then [3] else []) ++ (if s.1 = 2 ∧ s.2.1 ≠ 0 then [4] else [])))
def ctlOk (s : CT) : Bool := (ctlF s).length == 0
set_option maxRecDepth 100000 in
set_option maxHeartbeats 16000000 in
theorem spec_ctlF (a b : Int) (o : Bool) (w : World) :
    Calls Try.prog 125 #[.agg #[.int .i64 a, .int .i64 b, .bool o]] w (UsesPost w (ctlF (a, b, o))) := by
  obtain ⟨i0, hi0, hz0, hz1, hz2⟩ := info_parts Try.infoNum
  have hb0 : Below w.heap.size w (w.alloc (.cells #[.int .i64 a, .int .i64 b, .bool o] 47)) := (Below.refl _ _).alloc (Nat.le_refl _) _
  have t0 := Var.new w [.int .i64 a, .int .i64 b, .bool o] 47
  change Var (w.alloc (.cells #[.int .i64 a, .int .i64 b, .bool o] 47)) w.heap.size [.int .i64 a, .int .i64 b, .bool o] at t0
  have hz : w.heap.size + 1 ≤ (w.alloc (.cells #[.int .i64 a, .int .i64 b, .bool o] 47)).heap.size := by simp
  have K0 := fun V : World => spec_in a 0 3 V
  have K1 := fun V : World => spec_in b 0 255 V
  have hq : w.heap.size + 1 = (w.alloc (.cells #[.int .i64 a, .int .i64 b, .bool o] 47)).heap.size := by simp
  have HQ := Lib.hid hq
  clear hq
  by_cases ha2 : a = 2
  · subst ha2
    have h0 : inB 2 0 3 = true := rfl
    have ha : (2 : Int) = 2 := rfl
    by_cases hb2 : b = 0
    · subst hb2
      have h1 : inB 0 0 255 = true := rfl
      have hb : (0 : Int) = 0 := rfl
      have HL := Lib.hid (show ctlF (2, 0, o) = [] from by unfold ctlF; dsimp only; rw [h0, h1]; simp [hb, ha])
      rw [h0] at K0
      rw [h1] at K1
      have HK0 := Lib.hid K0
      have HK1 := Lib.hid K1
      clear K0 K1 h0 h1
      go_enter Try.func125, Try.ntmps125
      go_wp2_with fail
      rw [HQ.out]
      clear HQ
      generalize w.alloc (.cells #[.int .i64 2, .int .i64 0, .bool o] 47) = W0 at t0 hb0 hz ⊢
      have HO0 := Lib.hid (World.ownsRow_made (e := 3) (size := 1) W0 #[] 0 (Nat.le_refl _) (Nat.zero_le _) rfl : (W0.alloc (.cells #[] 3)).ownsRow W0.heap.size 3 1 (.slice (some ⟨W0.heap.size, 0, none⟩) 0 0) 0 (ncells []))
      have HB0 := Lib.hid (show Below W0.heap.size W0 (W0.alloc (.cells #[] 3)) from (Below.refl _ _).alloc (Nat.le_refl _) _)
      generalize W0.alloc (.cells #[] 3) = w0 at HO0 HB0 ⊢
      have v0 := (Var.below t0 HB0.out hz).cell 0 (v := .int .i64 2) rfl
      have v1 := (Var.below t0 HB0.out hz).cell 1 (v := .int .i64 0) rfl
      have v2 := (Var.below t0 HB0.out hz).cell 2 (v := .bool o) rfl
      refine (HK0.out _).mono ?_
      rintro e w' ⟨rfl, rfl⟩
      go_wp2_with fail
      refine (HK1.out _).mono ?_
      rintro e w' ⟨rfl, rfl⟩
      go_wp2_with fail
      go_ret
      rw [HL.out]
      exact ⟨_, 0, _, rfl, rfl, ⟨(Owned.of_row HO0.out).1.wide (by omega) (Nat.le_refl _), (Owned.of_row HO0.out).2⟩, btr hb0 HB0.out⟩
    · have hb : ¬ b = 0 := hb2
      have hb' : (b != 0) = true := by simpa using hb2
      cases h1 : inB b 0 255 <;> cases o
      · have HL := Lib.hid (show ctlF (2, b, false) = [2, 3, 4] from by unfold ctlF; dsimp only; rw [h0, h1]; simp [hb, ha])
        rw [h0] at K0
        rw [h1] at K1
        have HK0 := Lib.hid K0
        have HK1 := Lib.hid K1
        clear K0 K1 h0 h1
        go_enter Try.func125, Try.ntmps125
        go_wp2_with fail
        rw [HQ.out]
        clear HQ
        generalize w.alloc (.cells #[.int .i64 2, .int .i64 b, .bool false] 47) = W0 at t0 hb0 hz ⊢
        have HO0 := Lib.hid (World.ownsRow_made (e := 3) (size := 1) W0 #[] 0 (Nat.le_refl _) (Nat.zero_le _) rfl : (W0.alloc (.cells #[] 3)).ownsRow W0.heap.size 3 1 (.slice (some ⟨W0.heap.size, 0, none⟩) 0 0) 0 (ncells []))
        have HB0 := Lib.hid (show Below W0.heap.size W0 (W0.alloc (.cells #[] 3)) from (Below.refl _ _).alloc (Nat.le_refl _) _)
        generalize W0.alloc (.cells #[] 3) = w0 at HO0 HB0 ⊢
        have v0 := (Var.below t0 HB0.out hz).cell 0 (v := .int .i64 2) rfl
        have v1 := (Var.below t0 HB0.out hz).cell 1 (v := .int .i64 b) rfl
        have v2 := (Var.below t0 HB0.out hz).cell 2 (v := .bool false) rfl
        refine (HK0.out _).mono ?_
        rintro e w' ⟨rfl, rfl⟩
        go_wp2_with fail
        refine (HK1.out _).mono ?_
        rintro e w' ⟨rfl, rfl⟩
        go_wp2_with (first | (at_builtin; have hbs := HB0.out.size; have hown := HO0.out; refine wpList_append_lies _ rfl _ _ 26 rfl W0.heap.size 3 i0 _ 1 8 Try.underlying26 hi0 hz0 hz1 hz2 rfl (by omega) (.slice (some ⟨W0.heap.size, 0, none⟩) 0 0) 0 _ rfl (hown.alloc _) ⟨w0.heap.size, 0, none⟩ 1 1 [.int .i64 2] rfl rfl (World.news_of_block (heap_alloc_new w0 _)) (by simp [Value.oneCell']) (by omega) (by simp only [maxLen]; omega) (by omega) (by simp; omega) (w0.heap.size + 1) (by simp) ?_; intro g1 cap1 w1 hown2 hgrow hat hg2; have HO1 := Lib.hid (show w1.ownsRow W0.heap.size 3 1 (.slice (some ⟨g1, 0, none⟩) 1 cap1) 1 (ncells [2]) from by simpa [ncells] using hown2); have HB1 := Lib.hid (show Below W0.heap.size W0 w1 from (HB0.out.alloc hbs _).grown hgrow (by first | omega | (simp; omega)) (fun j hj => (hown.lt j hj).1)); clear hown2 hgrow hat hg2 hown hbs v0 v1 v2 HO0 HB0; have v0 := (Var.below t0 HB1.out hz).cell 0 (v := .int .i64 2) rfl; have v1 := (Var.below t0 HB1.out hz).cell 1 (v := .int .i64 b) rfl; have v2 := (Var.below t0 HB1.out hz).cell 2 (v := .bool false) rfl) | (at_builtin; have hbs := HB1.out.size; have hown := HO1.out; refine wpList_append_lies _ rfl _ _ 26 rfl W0.heap.size 3 i0 _ 1 8 Try.underlying26 hi0 hz0 hz1 hz2 rfl (by omega) (.slice (some ⟨g1, 0, none⟩) 1 cap1) 1 _ rfl (hown.alloc _) ⟨w1.heap.size, 0, none⟩ 1 1 [.int .i64 3] rfl rfl (World.news_of_block (heap_alloc_new w1 _)) (by simp [Value.oneCell']) (by omega) (by simp only [maxLen]; omega) (by omega) (by simp; omega) (w1.heap.size + 1) (by simp) ?_; intro g2 cap2 w2 hown2 hgrow hat hg2; have HO2 := Lib.hid (show w2.ownsRow W0.heap.size 3 1 (.slice (some ⟨g2, 0, none⟩) 2 cap2) 2 (ncells [2, 3]) from by simpa [ncells] using hown2); have HB2 := Lib.hid (show Below W0.heap.size W0 w2 from (HB1.out.alloc hbs _).grown hgrow (by first | omega | (simp; omega)) (fun j hj => (hown.lt j hj).1)); clear hown2 hgrow hat hg2 hown hbs v0 v1 v2 HO1 HB1; have v0 := (Var.below t0 HB2.out hz).cell 0 (v := .int .i64 2) rfl; have v1 := (Var.below t0 HB2.out hz).cell 1 (v := .int .i64 b) rfl; have v2 := (Var.below t0 HB2.out hz).cell 2 (v := .bool false) rfl) | (at_builtin; have hbs := HB2.out.size; have hown := HO2.out; refine wpList_append_lies _ rfl _ _ 26 rfl W0.heap.size 3 i0 _ 1 8 Try.underlying26 hi0 hz0 hz1 hz2 rfl (by omega) (.slice (some ⟨g2, 0, none⟩) 2 cap2) 2 _ rfl (hown.alloc _) ⟨w2.heap.size, 0, none⟩ 1 1 [.int .i64 4] rfl rfl (World.news_of_block (heap_alloc_new w2 _)) (by simp [Value.oneCell']) (by omega) (by simp only [maxLen]; omega) (by omega) (by simp; omega) (w2.heap.size + 1) (by simp) ?_; intro g3 cap3 w3 hown2 hgrow hat hg2; have HO3 := Lib.hid (show w3.ownsRow W0.heap.size 3 1 (.slice (some ⟨g3, 0, none⟩) 3 cap3) 3 (ncells [2, 3, 4]) from by simpa [ncells] using hown2); have HB3 := Lib.hid (show Below W0.heap.size W0 w3 from (HB2.out.alloc hbs _).grown hgrow (by first | omega | (simp; omega)) (fun j hj => (hown.lt j hj).1)); clear hown2 hgrow hat hg2 hown hbs v0 v1 v2 HO2 HB2; have v0 := (Var.below t0 HB3.out hz).cell 0 (v := .int .i64 2) rfl; have v1 := (Var.below t0 HB3.out hz).cell 1 (v := .int .i64 b) rfl; have v2 := (Var.below t0 HB3.out hz).cell 2 (v := .bool false) rfl))
        go_ret
        rw [HL.out]
        exact ⟨_, 3, _, rfl, rfl, ⟨(Owned.of_row HO3.out).1.wide (by omega) (Nat.le_refl _), (Owned.of_row HO3.out).2⟩, btr hb0 HB3.out⟩
      · have HL := Lib.hid (show ctlF (2, b, true) = [2, 4] from by unfold ctlF; dsimp only; rw [h0, h1]; simp [hb, ha])
        rw [h0] at K0
        rw [h1] at K1
        have HK0 := Lib.hid K0
        have HK1 := Lib.hid K1
        clear K0 K1 h0 h1
        go_enter Try.func125, Try.ntmps125
        go_wp2_with fail
        rw [HQ.out]
        clear HQ
        generalize w.alloc (.cells #[.int .i64 2, .int .i64 b, .bool true] 47) = W0 at t0 hb0 hz ⊢
        have HO0 := Lib.hid (World.ownsRow_made (e := 3) (size := 1) W0 #[] 0 (Nat.le_refl _) (Nat.zero_le _) rfl : (W0.alloc (.cells #[] 3)).ownsRow W0.heap.size 3 1 (.slice (some ⟨W0.heap.size, 0, none⟩) 0 0) 0 (ncells []))
        have HB0 := Lib.hid (show Below W0.heap.size W0 (W0.alloc (.cells #[] 3)) from (Below.refl _ _).alloc (Nat.le_refl _) _)
        generalize W0.alloc (.cells #[] 3) = w0 at HO0 HB0 ⊢
        have v0 := (Var.below t0 HB0.out hz).cell 0 (v := .int .i64 2) rfl
        have v1 := (Var.below t0 HB0.out hz).cell 1 (v := .int .i64 b) rfl
        have v2 := (Var.below t0 HB0.out hz).cell 2 (v := .bool true) rfl
        refine (HK0.out _).mono ?_
        rintro e w' ⟨rfl, rfl⟩
        go_wp2_with fail
        refine (HK1.out _).mono ?_
        rintro e w' ⟨rfl, rfl⟩
        go_wp2_with (first | (at_builtin; have hbs := HB0.out.size; have hown := HO0.out; refine wpList_append_lies _ rfl _ _ 26 rfl W0.heap.size 3 i0 _ 1 8 Try.underlying26 hi0 hz0 hz1 hz2 rfl (by omega) (.slice (some ⟨W0.heap.size, 0, none⟩) 0 0) 0 _ rfl (hown.alloc _) ⟨w0.heap.size, 0, none⟩ 1 1 [.int .i64 2] rfl rfl (World.news_of_block (heap_alloc_new w0 _)) (by simp [Value.oneCell']) (by omega) (by simp only [maxLen]; omega) (by omega) (by simp; omega) (w0.heap.size + 1) (by simp) ?_; intro g1 cap1 w1 hown2 hgrow hat hg2; have HO1 := Lib.hid (show w1.ownsRow W0.heap.size 3 1 (.slice (some ⟨g1, 0, none⟩) 1 cap1) 1 (ncells [2]) from by simpa [ncells] using hown2); have HB1 := Lib.hid (show Below W0.heap.size W0 w1 from (HB0.out.alloc hbs _).grown hgrow (by first | omega | (simp; omega)) (fun j hj => (hown.lt j hj).1)); clear hown2 hgrow hat hg2 hown hbs v0 v1 v2 HO0 HB0; have v0 := (Var.below t0 HB1.out hz).cell 0 (v := .int .i64 2) rfl; have v1 := (Var.below t0 HB1.out hz).cell 1 (v := .int .i64 b) rfl; have v2 := (Var.below t0 HB1.out hz).cell 2 (v := .bool true) rfl) | (at_builtin; have hbs := HB1.out.size; have hown := HO1.out; refine wpList_append_lies _ rfl _ _ 26 rfl W0.heap.size 3 i0 _ 1 8 Try.underlying26 hi0 hz0 hz1 hz2 rfl (by omega) (.slice (some ⟨g1, 0, none⟩) 1 cap1) 1 _ rfl (hown.alloc _) ⟨w1.heap.size, 0, none⟩ 1 1 [.int .i64 4] rfl rfl (World.news_of_block (heap_alloc_new w1 _)) (by simp [Value.oneCell']) (by omega) (by simp only [maxLen]; omega) (by omega) (by simp; omega) (w1.heap.size + 1) (by simp) ?_; intro g2 cap2 w2 hown2 hgrow hat hg2; have HO2 := Lib.hid (show w2.ownsRow W0.heap.size 3 1 (.slice (some ⟨g2, 0, none⟩) 2 cap2) 2 (ncells [2, 4]) from by simpa [ncells] using hown2); have HB2 := Lib.hid (show Below W0.heap.size W0 w2 from (HB1.out.alloc hbs _).grown hgrow (by first | omega | (simp; omega)) (fun j hj => (hown.lt j hj).1)); clear hown2 hgrow hat hg2 hown hbs v0 v1 v2 HO1 HB1; have v0 := (Var.below t0 HB2.out hz).cell 0 (v := .int .i64 2) rfl; have v1 := (Var.below t0 HB2.out hz).cell 1 (v := .int .i64 b) rfl; have v2 := (Var.below t0 HB2.out hz).cell 2 (v := .bool true) rfl))
        go_ret
        rw [HL.out]
        exact ⟨_, 2, _, rfl, rfl, ⟨(Owned.of_row HO2.out).1.wide (by omega) (Nat.le_refl _), (Owned.of_row HO2.out).2⟩, btr hb0 HB2.out⟩
      · have HL := Lib.hid (show ctlF (2, b, false) = [3, 4] from by unfold ctlF; dsimp only; rw [h0, h1]; simp [hb, ha])
        rw [h0] at K0
        rw [h1] at K1
        have HK0 := Lib.hid K0
        have HK1 := Lib.hid K1
        clear K0 K1 h0 h1
        go_enter Try.func125, Try.ntmps125
        go_wp2_with fail
        rw [HQ.out]
        clear HQ
        generalize w.alloc (.cells #[.int .i64 2, .int .i64 b, .bool false] 47) = W0 at t0 hb0 hz ⊢
        have HO0 := Lib.hid (World.ownsRow_made (e := 3) (size := 1) W0 #[] 0 (Nat.le_refl _) (Nat.zero_le _) rfl : (W0.alloc (.cells #[] 3)).ownsRow W0.heap.size 3 1 (.slice (some ⟨W0.heap.size, 0, none⟩) 0 0) 0 (ncells []))
        have HB0 := Lib.hid (show Below W0.heap.size W0 (W0.alloc (.cells #[] 3)) from (Below.refl _ _).alloc (Nat.le_refl _) _)
        generalize W0.alloc (.cells #[] 3) = w0 at HO0 HB0 ⊢
        have v0 := (Var.below t0 HB0.out hz).cell 0 (v := .int .i64 2) rfl
        have v1 := (Var.below t0 HB0.out hz).cell 1 (v := .int .i64 b) rfl
        have v2 := (Var.below t0 HB0.out hz).cell 2 (v := .bool false) rfl
        refine (HK0.out _).mono ?_
        rintro e w' ⟨rfl, rfl⟩
        go_wp2_with fail
        refine (HK1.out _).mono ?_
        rintro e w' ⟨rfl, rfl⟩
        go_wp2_with (first | (at_builtin; have hbs := HB0.out.size; have hown := HO0.out; refine wpList_append_lies _ rfl _ _ 26 rfl W0.heap.size 3 i0 _ 1 8 Try.underlying26 hi0 hz0 hz1 hz2 rfl (by omega) (.slice (some ⟨W0.heap.size, 0, none⟩) 0 0) 0 _ rfl (hown.alloc _) ⟨w0.heap.size, 0, none⟩ 1 1 [.int .i64 3] rfl rfl (World.news_of_block (heap_alloc_new w0 _)) (by simp [Value.oneCell']) (by omega) (by simp only [maxLen]; omega) (by omega) (by simp; omega) (w0.heap.size + 1) (by simp) ?_; intro g1 cap1 w1 hown2 hgrow hat hg2; have HO1 := Lib.hid (show w1.ownsRow W0.heap.size 3 1 (.slice (some ⟨g1, 0, none⟩) 1 cap1) 1 (ncells [3]) from by simpa [ncells] using hown2); have HB1 := Lib.hid (show Below W0.heap.size W0 w1 from (HB0.out.alloc hbs _).grown hgrow (by first | omega | (simp; omega)) (fun j hj => (hown.lt j hj).1)); clear hown2 hgrow hat hg2 hown hbs v0 v1 v2 HO0 HB0; have v0 := (Var.below t0 HB1.out hz).cell 0 (v := .int .i64 2) rfl; have v1 := (Var.below t0 HB1.out hz).cell 1 (v := .int .i64 b) rfl; have v2 := (Var.below t0 HB1.out hz).cell 2 (v := .bool false) rfl) | (at_builtin; have hbs := HB1.out.size; have hown := HO1.out; refine wpList_append_lies _ rfl _ _ 26 rfl W0.heap.size 3 i0 _ 1 8 Try.underlying26 hi0 hz0 hz1 hz2 rfl (by omega) (.slice (some ⟨g1, 0, none⟩) 1 cap1) 1 _ rfl (hown.alloc _) ⟨w1.heap.size, 0, none⟩ 1 1 [.int .i64 4] rfl rfl (World.news_of_block (heap_alloc_new w1 _)) (by simp [Value.oneCell']) (by omega) (by simp only [maxLen]; omega) (by omega) (by simp; omega) (w1.heap.size + 1) (by simp) ?_; intro g2 cap2 w2 hown2 hgrow hat hg2; have HO2 := Lib.hid (show w2.ownsRow W0.heap.size 3 1 (.slice (some ⟨g2, 0, none⟩) 2 cap2) 2 (ncells [3, 4]) from by simpa [ncells] using hown2); have HB2 := Lib.hid (show Below W0.heap.size W0 w2 from (HB1.out.alloc hbs _).grown hgrow (by first | omega | (simp; omega)) (fun j hj => (hown.lt j hj).1)); clear hown2 hgrow hat hg2 hown hbs v0 v1 v2 HO1 HB1; have v0 := (Var.below t0 HB2.out hz).cell 0 (v := .int .i64 2) rfl; have v1 := (Var.below t0 HB2.out hz).cell 1 (v := .int .i64 b) rfl; have v2 := (Var.below t0 HB2.out hz).cell 2 (v := .bool false) rfl))
        go_ret
        rw [HL.out]
        exact ⟨_, 2, _, rfl, rfl, ⟨(Owned.of_row HO2.out).1.wide (by omega) (Nat.le_refl _), (Owned.of_row HO2.out).2⟩, btr hb0 HB2.out⟩
      · have HL := Lib.hid (show ctlF (2, b, true) = [4] from by unfold ctlF; dsimp only; rw [h0, h1]; simp [hb, ha])
        rw [h0] at K0
        rw [h1] at K1
        have HK0 := Lib.hid K0
        have HK1 := Lib.hid K1
        clear K0 K1 h0 h1
        go_enter Try.func125, Try.ntmps125
        go_wp2_with fail
        rw [HQ.out]
        clear HQ
        generalize w.alloc (.cells #[.int .i64 2, .int .i64 b, .bool true] 47) = W0 at t0 hb0 hz ⊢
        have HO0 := Lib.hid (World.ownsRow_made (e := 3) (size := 1) W0 #[] 0 (Nat.le_refl _) (Nat.zero_le _) rfl : (W0.alloc (.cells #[] 3)).ownsRow W0.heap.size 3 1 (.slice (some ⟨W0.heap.size, 0, none⟩) 0 0) 0 (ncells []))
        have HB0 := Lib.hid (show Below W0.heap.size W0 (W0.alloc (.cells #[] 3)) from (Below.refl _ _).alloc (Nat.le_refl _) _)
        generalize W0.alloc (.cells #[] 3) = w0 at HO0 HB0 ⊢
        have v0 := (Var.below t0 HB0.out hz).cell 0 (v := .int .i64 2) rfl
        have v1 := (Var.below t0 HB0.out hz).cell 1 (v := .int .i64 b) rfl
        have v2 := (Var.below t0 HB0.out hz).cell 2 (v := .bool true) rfl
        refine (HK0.out _).mono ?_
        rintro e w' ⟨rfl, rfl⟩
        go_wp2_with fail
        refine (HK1.out _).mono ?_
        rintro e w' ⟨rfl, rfl⟩
        go_wp2_with ((at_builtin; have hbs := HB0.out.size; have hown := HO0.out; refine wpList_append_lies _ rfl _ _ 26 rfl W0.heap.size 3 i0 _ 1 8 Try.underlying26 hi0 hz0 hz1 hz2 rfl (by omega) (.slice (some ⟨W0.heap.size, 0, none⟩) 0 0) 0 _ rfl (hown.alloc _) ⟨w0.heap.size, 0, none⟩ 1 1 [.int .i64 4] rfl rfl (World.news_of_block (heap_alloc_new w0 _)) (by simp [Value.oneCell']) (by omega) (by simp only [maxLen]; omega) (by omega) (by simp; omega) (w0.heap.size + 1) (by simp) ?_; intro g1 cap1 w1 hown2 hgrow hat hg2; have HO1 := Lib.hid (show w1.ownsRow W0.heap.size 3 1 (.slice (some ⟨g1, 0, none⟩) 1 cap1) 1 (ncells [4]) from by simpa [ncells] using hown2); have HB1 := Lib.hid (show Below W0.heap.size W0 w1 from (HB0.out.alloc hbs _).grown hgrow (by first | omega | (simp; omega)) (fun j hj => (hown.lt j hj).1)); clear hown2 hgrow hat hg2 hown hbs v0 v1 v2 HO0 HB0; have v0 := (Var.below t0 HB1.out hz).cell 0 (v := .int .i64 2) rfl; have v1 := (Var.below t0 HB1.out hz).cell 1 (v := .int .i64 b) rfl; have v2 := (Var.below t0 HB1.out hz).cell 2 (v := .bool true) rfl))
        go_ret
        rw [HL.out]
        exact ⟨_, 1, _, rfl, rfl, ⟨(Owned.of_row HO1.out).1.wide (by omega) (Nat.le_refl _), (Owned.of_row HO1.out).2⟩, btr hb0 HB1.out⟩
  · have ha : ¬ a = 2 := ha2
    have ha' : (a == 2) = false := by simpa using ha2
    cases h0 : inB a 0 3
    · by_cases hb2 : b = 0
      · subst hb2
        have h1 : inB 0 0 255 = true := rfl
        have hb : (0 : Int) = 0 := rfl
        have HL := Lib.hid (show ctlF (a, 0, o) = [1] from by unfold ctlF; dsimp only; rw [h0, h1]; simp [hb, ha])
        rw [h0] at K0
        rw [h1] at K1
        have HK0 := Lib.hid K0
        have HK1 := Lib.hid K1
        clear K0 K1 h0 h1
        go_enter Try.func125, Try.ntmps125
        go_wp2_with fail
        rw [HQ.out]
        clear HQ
        generalize w.alloc (.cells #[.int .i64 a, .int .i64 0, .bool o] 47) = W0 at t0 hb0 hz ⊢
        have HO0 := Lib.hid (World.ownsRow_made (e := 3) (size := 1) W0 #[] 0 (Nat.le_refl _) (Nat.zero_le _) rfl : (W0.alloc (.cells #[] 3)).ownsRow W0.heap.size 3 1 (.slice (some ⟨W0.heap.size, 0, none⟩) 0 0) 0 (ncells []))
        have HB0 := Lib.hid (show Below W0.heap.size W0 (W0.alloc (.cells #[] 3)) from (Below.refl _ _).alloc (Nat.le_refl _) _)
        generalize W0.alloc (.cells #[] 3) = w0 at HO0 HB0 ⊢
        have v0 := (Var.below t0 HB0.out hz).cell 0 (v := .int .i64 a) rfl
        have v1 := (Var.below t0 HB0.out hz).cell 1 (v := .int .i64 0) rfl
        have v2 := (Var.below t0 HB0.out hz).cell 2 (v := .bool o) rfl
        refine (HK0.out _).mono ?_
        rintro e w' ⟨rfl, rfl⟩
        go_wp2_with ((at_builtin; have hbs := HB0.out.size; have hown := HO0.out; refine wpList_append_lies _ rfl _ _ 26 rfl W0.heap.size 3 i0 _ 1 8 Try.underlying26 hi0 hz0 hz1 hz2 rfl (by omega) (.slice (some ⟨W0.heap.size, 0, none⟩) 0 0) 0 _ rfl (hown.alloc _) ⟨w0.heap.size, 0, none⟩ 1 1 [.int .i64 1] rfl rfl (World.news_of_block (heap_alloc_new w0 _)) (by simp [Value.oneCell']) (by omega) (by simp only [maxLen]; omega) (by omega) (by simp; omega) (w0.heap.size + 1) (by simp) ?_; intro g1 cap1 w1 hown2 hgrow hat hg2; have HO1 := Lib.hid (show w1.ownsRow W0.heap.size 3 1 (.slice (some ⟨g1, 0, none⟩) 1 cap1) 1 (ncells [1]) from by simpa [ncells] using hown2); have HB1 := Lib.hid (show Below W0.heap.size W0 w1 from (HB0.out.alloc hbs _).grown hgrow (by first | omega | (simp; omega)) (fun j hj => (hown.lt j hj).1)); clear hown2 hgrow hat hg2 hown hbs v0 v1 v2 HO0 HB0; have v0 := (Var.below t0 HB1.out hz).cell 0 (v := .int .i64 a) rfl; have v1 := (Var.below t0 HB1.out hz).cell 1 (v := .int .i64 0) rfl; have v2 := (Var.below t0 HB1.out hz).cell 2 (v := .bool o) rfl))
        refine (HK1.out _).mono ?_
        rintro e w' ⟨rfl, rfl⟩
        go_wp2_with fail
        go_ret
        rw [HL.out]
        exact ⟨_, 1, _, rfl, rfl, ⟨(Owned.of_row HO1.out).1.wide (by omega) (Nat.le_refl _), (Owned.of_row HO1.out).2⟩, btr hb0 HB1.out⟩
      · have hb : ¬ b = 0 := hb2
        have hb' : (b != 0) = true := by simpa using hb2
        cases h1 : inB b 0 255 <;> cases o
        · have HL := Lib.hid (show ctlF (a, b, false) = [1, 2, 3] from by unfold ctlF; dsimp only; rw [h0, h1]; simp [hb, ha])
          rw [h0] at K0
          rw [h1] at K1
          have HK0 := Lib.hid K0
          have HK1 := Lib.hid K1
          clear K0 K1 h0 h1
          go_enter Try.func125, Try.ntmps125
          go_wp2_with fail
          rw [HQ.out]
          clear HQ
          generalize w.alloc (.cells #[.int .i64 a, .int .i64 b, .bool false] 47) = W0 at t0 hb0 hz ⊢
          have HO0 := Lib.hid (World.ownsRow_made (e := 3) (size := 1) W0 #[] 0 (Nat.le_refl _) (Nat.zero_le _) rfl : (W0.alloc (.cells #[] 3)).ownsRow W0.heap.size 3 1 (.slice (some ⟨W0.heap.size, 0, none⟩) 0 0) 0 (ncells []))
          have HB0 := Lib.hid (show Below W0.heap.size W0 (W0.alloc (.cells #[] 3)) from (Below.refl _ _).alloc (Nat.le_refl _) _)
          generalize W0.alloc (.cells #[] 3) = w0 at HO0 HB0 ⊢
          have v0 := (Var.below t0 HB0.out hz).cell 0 (v := .int .i64 a) rfl
          have v1 := (Var.below t0 HB0.out hz).cell 1 (v := .int .i64 b) rfl
          have v2 := (Var.below t0 HB0.out hz).cell 2 (v := .bool false) rfl
          refine (HK0.out _).mono ?_
          rintro e w' ⟨rfl, rfl⟩
          go_wp2_with ((at_builtin; have hbs := HB0.out.size; have hown := HO0.out; refine wpList_append_lies _ rfl _ _ 26 rfl W0.heap.size 3 i0 _ 1 8 Try.underlying26 hi0 hz0 hz1 hz2 rfl (by omega) (.slice (some ⟨W0.heap.size, 0, none⟩) 0 0) 0 _ rfl (hown.alloc _) ⟨w0.heap.size, 0, none⟩ 1 1 [.int .i64 1] rfl rfl (World.news_of_block (heap_alloc_new w0 _)) (by simp [Value.oneCell']) (by omega) (by simp only [maxLen]; omega) (by omega) (by simp; omega) (w0.heap.size + 1) (by simp) ?_; intro g1 cap1 w1 hown2 hgrow hat hg2; have HO1 := Lib.hid (show w1.ownsRow W0.heap.size 3 1 (.slice (some ⟨g1, 0, none⟩) 1 cap1) 1 (ncells [1]) from by simpa [ncells] using hown2); have HB1 := Lib.hid (show Below W0.heap.size W0 w1 from (HB0.out.alloc hbs _).grown hgrow (by first | omega | (simp; omega)) (fun j hj => (hown.lt j hj).1)); clear hown2 hgrow hat hg2 hown hbs v0 v1 v2 HO0 HB0; have v0 := (Var.below t0 HB1.out hz).cell 0 (v := .int .i64 a) rfl; have v1 := (Var.below t0 HB1.out hz).cell 1 (v := .int .i64 b) rfl; have v2 := (Var.below t0 HB1.out hz).cell 2 (v := .bool false) rfl))
          refine (HK1.out _).mono ?_
          rintro e w' ⟨rfl, rfl⟩
          go_wp2_with (first | (at_builtin; have hbs := HB1.out.size; have hown := HO1.out; refine wpList_append_lies _ rfl _ _ 26 rfl W0.heap.size 3 i0 _ 1 8 Try.underlying26 hi0 hz0 hz1 hz2 rfl (by omega) (.slice (some ⟨g1, 0, none⟩) 1 cap1) 1 _ rfl (hown.alloc _) ⟨w1.heap.size, 0, none⟩ 1 1 [.int .i64 2] rfl rfl (World.news_of_block (heap_alloc_new w1 _)) (by simp [Value.oneCell']) (by omega) (by simp only [maxLen]; omega) (by omega) (by simp; omega) (w1.heap.size + 1) (by simp) ?_; intro g2 cap2 w2 hown2 hgrow hat hg2; have HO2 := Lib.hid (show w2.ownsRow W0.heap.size 3 1 (.slice (some ⟨g2, 0, none⟩) 2 cap2) 2 (ncells [1, 2]) from by simpa [ncells] using hown2); have HB2 := Lib.hid (show Below W0.heap.size W0 w2 from (HB1.out.alloc hbs _).grown hgrow (by first | omega | (simp; omega)) (fun j hj => (hown.lt j hj).1)); clear hown2 hgrow hat hg2 hown hbs v0 v1 v2 HO1 HB1; have v0 := (Var.below t0 HB2.out hz).cell 0 (v := .int .i64 a) rfl; have v1 := (Var.below t0 HB2.out hz).cell 1 (v := .int .i64 b) rfl; have v2 := (Var.below t0 HB2.out hz).cell 2 (v := .bool false) rfl) | (at_builtin; have hbs := HB2.out.size; have hown := HO2.out; refine wpList_append_lies _ rfl _ _ 26 rfl W0.heap.size 3 i0 _ 1 8 Try.underlying26 hi0 hz0 hz1 hz2 rfl (by omega) (.slice (some ⟨g2, 0, none⟩) 2 cap2) 2 _ rfl (hown.alloc _) ⟨w2.heap.size, 0, none⟩ 1 1 [.int .i64 3] rfl rfl (World.news_of_block (heap_alloc_new w2 _)) (by simp [Value.oneCell']) (by omega) (by simp only [maxLen]; omega) (by omega) (by simp; omega) (w2.heap.size + 1) (by simp) ?_; intro g3 cap3 w3 hown2 hgrow hat hg2; have HO3 := Lib.hid (show w3.ownsRow W0.heap.size 3 1 (.slice (some ⟨g3, 0, none⟩) 3 cap3) 3 (ncells [1, 2, 3]) from by simpa [ncells] using hown2); have HB3 := Lib.hid (show Below W0.heap.size W0 w3 from (HB2.out.alloc hbs _).grown hgrow (by first | omega | (simp; omega)) (fun j hj => (hown.lt j hj).1)); clear hown2 hgrow hat hg2 hown hbs v0 v1 v2 HO2 HB2; have v0 := (Var.below t0 HB3.out hz).cell 0 (v := .int .i64 a) rfl; have v1 := (Var.below t0 HB3.out hz).cell 1 (v := .int .i64 b) rfl; have v2 := (Var.below t0 HB3.out hz).cell 2 (v := .bool false) rfl))
          go_ret
          rw [HL.out]
          exact ⟨_, 3, _, rfl, rfl, ⟨(Owned.of_row HO3.out).1.wide (by omega) (Nat.le_refl _), (Owned.of_row HO3.out).2⟩, btr hb0 HB3.out⟩
        · have HL := Lib.hid (show ctlF (a, b, true) = [1, 2] from by unfold ctlF; dsimp only; rw [h0, h1]; simp [hb, ha])
          rw [h0] at K0
          rw [h1] at K1
          have HK0 := Lib.hid K0
          have HK1 := Lib.hid K1
          clear K0 K1 h0 h1
          go_enter Try.func125, Try.ntmps125
          go_wp2_with fail
          rw [HQ.out]
          clear HQ
          generalize w.alloc (.cells #[.int .i64 a, .int .i64 b, .bool true] 47) = W0 at t0 hb0 hz ⊢
          have HO0 := Lib.hid (World.ownsRow_made (e := 3) (size := 1) W0 #[] 0 (Nat.le_refl _) (Nat.zero_le _) rfl : (W0.alloc (.cells #[] 3)).ownsRow W0.heap.size 3 1 (.slice (some ⟨W0.heap.size, 0, none⟩) 0 0) 0 (ncells []))
          have HB0 := Lib.hid (show Below W0.heap.size W0 (W0.alloc (.cells #[] 3)) from (Below.refl _ _).alloc (Nat.le_refl _) _)
          generalize W0.alloc (.cells #[] 3) = w0 at HO0 HB0 ⊢
          have v0 := (Var.below t0 HB0.out hz).cell 0 (v := .int .i64 a) rfl
          have v1 := (Var.below t0 HB0.out hz).cell 1 (v := .int .i64 b) rfl
          have v2 := (Var.below t0 HB0.out hz).cell 2 (v := .bool true) rfl
          refine (HK0.out _).mono ?_
          rintro e w' ⟨rfl, rfl⟩
          go_wp2_with ((at_builtin; have hbs := HB0.out.size; have hown := HO0.out; refine wpList_append_lies _ rfl _ _ 26 rfl W0.heap.size 3 i0 _ 1 8 Try.underlying26 hi0 hz0 hz1 hz2 rfl (by omega) (.slice (some ⟨W0.heap.size, 0, none⟩) 0 0) 0 _ rfl (hown.alloc _) ⟨w0.heap.size, 0, none⟩ 1 1 [.int .i64 1] rfl rfl (World.news_of_block (heap_alloc_new w0 _)) (by simp [Value.oneCell']) (by omega) (by simp only [maxLen]; omega) (by omega) (by simp; omega) (w0.heap.size + 1) (by simp) ?_; intro g1 cap1 w1 hown2 hgrow hat hg2; have HO1 := Lib.hid (show w1.ownsRow W0.heap.size 3 1 (.slice (some ⟨g1, 0, none⟩) 1 cap1) 1 (ncells [1]) from by simpa [ncells] using hown2); have HB1 := Lib.hid (show Below W0.heap.size W0 w1 from (HB0.out.alloc hbs _).grown hgrow (by first | omega | (simp; omega)) (fun j hj => (hown.lt j hj).1)); clear hown2 hgrow hat hg2 hown hbs v0 v1 v2 HO0 HB0; have v0 := (Var.below t0 HB1.out hz).cell 0 (v := .int .i64 a) rfl; have v1 := (Var.below t0 HB1.out hz).cell 1 (v := .int .i64 b) rfl; have v2 := (Var.below t0 HB1.out hz).cell 2 (v := .bool true) rfl))
          refine (HK1.out _).mono ?_
          rintro e w' ⟨rfl, rfl⟩
          go_wp2_with ((at_builtin; have hbs := HB1.out.size; have hown := HO1.out; refine wpList_append_lies _ rfl _ _ 26 rfl W0.heap.size 3 i0 _ 1 8 Try.underlying26 hi0 hz0 hz1 hz2 rfl (by omega) (.slice (some ⟨g1, 0, none⟩) 1 cap1) 1 _ rfl (hown.alloc _) ⟨w1.heap.size, 0, none⟩ 1 1 [.int .i64 2] rfl rfl (World.news_of_block (heap_alloc_new w1 _)) (by simp [Value.oneCell']) (by omega) (by simp only [maxLen]; omega) (by omega) (by simp; omega) (w1.heap.size + 1) (by simp) ?_; intro g2 cap2 w2 hown2 hgrow hat hg2; have HO2 := Lib.hid (show w2.ownsRow W0.heap.size 3 1 (.slice (some ⟨g2, 0, none⟩) 2 cap2) 2 (ncells [1, 2]) from by simpa [ncells] using hown2); have HB2 := Lib.hid (show Below W0.heap.size W0 w2 from (HB1.out.alloc hbs _).grown hgrow (by first | omega | (simp; omega)) (fun j hj => (hown.lt j hj).1)); clear hown2 hgrow hat hg2 hown hbs v0 v1 v2 HO1 HB1; have v0 := (Var.below t0 HB2.out hz).cell 0 (v := .int .i64 a) rfl; have v1 := (Var.below t0 HB2.out hz).cell 1 (v := .int .i64 b) rfl; have v2 := (Var.below t0 HB2.out hz).cell 2 (v := .bool true) rfl))
          go_ret
          rw [HL.out]
          exact ⟨_, 2, _, rfl, rfl, ⟨(Owned.of_row HO2.out).1.wide (by omega) (Nat.le_refl _), (Owned.of_row HO2.out).2⟩, btr hb0 HB2.out⟩
        · have HL := Lib.hid (show ctlF (a, b, false) = [1, 3] from by unfold ctlF; dsimp only; rw [h0, h1]; simp [hb, ha])
          rw [h0] at K0
          rw [h1] at K1
          have HK0 := Lib.hid K0
          have HK1 := Lib.hid K1
          clear K0 K1 h0 h1
          go_enter Try.func125, Try.ntmps125
          go_wp2_with fail
          rw [HQ.out]
          clear HQ
          generalize w.alloc (.cells #[.int .i64 a, .int .i64 b, .bool false] 47) = W0 at t0 hb0 hz ⊢
          have HO0 := Lib.hid (World.ownsRow_made (e := 3) (size := 1) W0 #[] 0 (Nat.le_refl _) (Nat.zero_le _) rfl : (W0.alloc (.cells #[] 3)).ownsRow W0.heap.size 3 1 (.slice (some ⟨W0.heap.size, 0, none⟩) 0 0) 0 (ncells []))
          have HB0 := Lib.hid (show Below W0.heap.size W0 (W0.alloc (.cells #[] 3)) from (Below.refl _ _).alloc (Nat.le_refl _) _)
          generalize W0.alloc (.cells #[] 3) = w0 at HO0 HB0 ⊢
          have v0 := (Var.below t0 HB0.out hz).cell 0 (v := .int .i64 a) rfl
          have v1 := (Var.below t0 HB0.out hz).cell 1 (v := .int .i64 b) rfl
          have v2 := (Var.below t0 HB0.out hz).cell 2 (v := .bool false) rfl
          refine (HK0.out _).mono ?_
          rintro e w' ⟨rfl, rfl⟩
          go_wp2_with ((at_builtin; have hbs := HB0.out.size; have hown := HO0.out; refine wpList_append_lies _ rfl _ _ 26 rfl W0.heap.size 3 i0 _ 1 8 Try.underlying26 hi0 hz0 hz1 hz2 rfl (by omega) (.slice (some ⟨W0.heap.size, 0, none⟩) 0 0) 0 _ rfl (hown.alloc _) ⟨w0.heap.size, 0, none⟩ 1 1 [.int .i64 1] rfl rfl (World.news_of_block (heap_alloc_new w0 _)) (by simp [Value.oneCell']) (by omega) (by simp only [maxLen]; omega) (by omega) (by simp; omega) (w0.heap.size + 1) (by simp) ?_; intro g1 cap1 w1 hown2 hgrow hat hg2; have HO1 := Lib.hid (show w1.ownsRow W0.heap.size 3 1 (.slice (some ⟨g1, 0, none⟩) 1 cap1) 1 (ncells [1]) from by simpa [ncells] using hown2); have HB1 := Lib.hid (show Below W0.heap.size W0 w1 from (HB0.out.alloc hbs _).grown hgrow (by first | omega | (simp; omega)) (fun j hj => (hown.lt j hj).1)); clear hown2 hgrow hat hg2 hown hbs v0 v1 v2 HO0 HB0; have v0 := (Var.below t0 HB1.out hz).cell 0 (v := .int .i64 a) rfl; have v1 := (Var.below t0 HB1.out hz).cell 1 (v := .int .i64 b) rfl; have v2 := (Var.below t0 HB1.out hz).cell 2 (v := .bool false) rfl))
          refine (HK1.out _).mono ?_
          rintro e w' ⟨rfl, rfl⟩
          go_wp2_with ((at_builtin; have hbs := HB1.out.size; have hown := HO1.out; refine wpList_append_lies _ rfl _ _ 26 rfl W0.heap.size 3 i0 _ 1 8 Try.underlying26 hi0 hz0 hz1 hz2 rfl (by omega) (.slice (some ⟨g1, 0, none⟩) 1 cap1) 1 _ rfl (hown.alloc _) ⟨w1.heap.size, 0, none⟩ 1 1 [.int .i64 3] rfl rfl (World.news_of_block (heap_alloc_new w1 _)) (by simp [Value.oneCell']) (by omega) (by simp only [maxLen]; omega) (by omega) (by simp; omega) (w1.heap.size + 1) (by simp) ?_; intro g2 cap2 w2 hown2 hgrow hat hg2; have HO2 := Lib.hid (show w2.ownsRow W0.heap.size 3 1 (.slice (some ⟨g2, 0, none⟩) 2 cap2) 2 (ncells [1, 3]) from by simpa [ncells] using hown2); have HB2 := Lib.hid (show Below W0.heap.size W0 w2 from (HB1.out.alloc hbs _).grown hgrow (by first | omega | (simp; omega)) (fun j hj => (hown.lt j hj).1)); clear hown2 hgrow hat hg2 hown hbs v0 v1 v2 HO1 HB1; have v0 := (Var.below t0 HB2.out hz).cell 0 (v := .int .i64 a) rfl; have v1 := (Var.below t0 HB2.out hz).cell 1 (v := .int .i64 b) rfl; have v2 := (Var.below t0 HB2.out hz).cell 2 (v := .bool false) rfl))
          go_ret
          rw [HL.out]
          exact ⟨_, 2, _, rfl, rfl, ⟨(Owned.of_row HO2.out).1.wide (by omega) (Nat.le_refl _), (Owned.of_row HO2.out).2⟩, btr hb0 HB2.out⟩
        · have HL := Lib.hid (show ctlF (a, b, true) = [1] from by unfold ctlF; dsimp only; rw [h0, h1]; simp [hb, ha])
          rw [h0] at K0
          rw [h1] at K1
          have HK0 := Lib.hid K0
          have HK1 := Lib.hid K1
          clear K0 K1 h0 h1
          go_enter Try.func125, Try.ntmps125
          go_wp2_with fail
          rw [HQ.out]
          clear HQ
          generalize w.alloc (.cells #[.int .i64 a, .int .i64 b, .bool true] 47) = W0 at t0 hb0 hz ⊢
          have HO0 := Lib.hid (World.ownsRow_made (e := 3) (size := 1) W0 #[] 0 (Nat.le_refl _) (Nat.zero_le _) rfl : (W0.alloc (.cells #[] 3)).ownsRow W0.heap.size 3 1 (.slice (some ⟨W0.heap.size, 0, none⟩) 0 0) 0 (ncells []))
          have HB0 := Lib.hid (show Below W0.heap.size W0 (W0.alloc (.cells #[] 3)) from (Below.refl _ _).alloc (Nat.le_refl _) _)
          generalize W0.alloc (.cells #[] 3) = w0 at HO0 HB0 ⊢
          have v0 := (Var.below t0 HB0.out hz).cell 0 (v := .int .i64 a) rfl
          have v1 := (Var.below t0 HB0.out hz).cell 1 (v := .int .i64 b) rfl
          have v2 := (Var.below t0 HB0.out hz).cell 2 (v := .bool true) rfl
          refine (HK0.out _).mono ?_
          rintro e w' ⟨rfl, rfl⟩
          go_wp2_with ((at_builtin; have hbs := HB0.out.size; have hown := HO0.out; refine wpList_append_lies _ rfl _ _ 26 rfl W0.heap.size 3 i0 _ 1 8 Try.underlying26 hi0 hz0 hz1 hz2 rfl (by omega) (.slice (some ⟨W0.heap.size, 0, none⟩) 0 0) 0 _ rfl (hown.alloc _) ⟨w0.heap.size, 0, none⟩ 1 1 [.int .i64 1] rfl rfl (World.news_of_block (heap_alloc_new w0 _)) (by simp [Value.oneCell']) (by omega) (by simp only [maxLen]; omega) (by omega) (by simp; omega) (w0.heap.size + 1) (by simp) ?_; intro g1 cap1 w1 hown2 hgrow hat hg2; have HO1 := Lib.hid (show w1.ownsRow W0.heap.size 3 1 (.slice (some ⟨g1, 0, none⟩) 1 cap1) 1 (ncells [1]) from by simpa [ncells] using hown2); have HB1 := Lib.hid (show Below W0.heap.size W0 w1 from (HB0.out.alloc hbs _).grown hgrow (by first | omega | (simp; omega)) (fun j hj => (hown.lt j hj).1)); clear hown2 hgrow hat hg2 hown hbs v0 v1 v2 HO0 HB0; have v0 := (Var.below t0 HB1.out hz).cell 0 (v := .int .i64 a) rfl; have v1 := (Var.below t0 HB1.out hz).cell 1 (v := .int .i64 b) rfl; have v2 := (Var.below t0 HB1.out hz).cell 2 (v := .bool true) rfl))
          refine (HK1.out _).mono ?_
          rintro e w' ⟨rfl, rfl⟩
          go_wp2_with fail
          go_ret
          rw [HL.out]
          exact ⟨_, 1, _, rfl, rfl, ⟨(Owned.of_row HO1.out).1.wide (by omega) (Nat.le_refl _), (Owned.of_row HO1.out).2⟩, btr hb0 HB1.out⟩
    · by_cases hb2 : b = 0
      · subst hb2
        have h1 : inB 0 0 255 = true := rfl
        have hb : (0 : Int) = 0 := rfl
        have HL := Lib.hid (show ctlF (a, 0, o) = [] from by unfold ctlF; dsimp only; rw [h0, h1]; simp [hb, ha])
        rw [h0] at K0
        rw [h1] at K1
        have HK0 := Lib.hid K0
        have HK1 := Lib.hid K1
        clear K0 K1 h0 h1
        go_enter Try.func125, Try.ntmps125
        go_wp2_with fail
        rw [HQ.out]
        clear HQ
        generalize w.alloc (.cells #[.int .i64 a, .int .i64 0, .bool o] 47) = W0 at t0 hb0 hz ⊢
        have HO0 := Lib.hid (World.ownsRow_made (e := 3) (size := 1) W0 #[] 0 (Nat.le_refl _) (Nat.zero_le _) rfl : (W0.alloc (.cells #[] 3)).ownsRow W0.heap.size 3 1 (.slice (some ⟨W0.heap.size, 0, none⟩) 0 0) 0 (ncells []))
        have HB0 := Lib.hid (show Below W0.heap.size W0 (W0.alloc (.cells #[] 3)) from (Below.refl _ _).alloc (Nat.le_refl _) _)
        generalize W0.alloc (.cells #[] 3) = w0 at HO0 HB0 ⊢
        have v0 := (Var.below t0 HB0.out hz).cell 0 (v := .int .i64 a) rfl
        have v1 := (Var.below t0 HB0.out hz).cell 1 (v := .int .i64 0) rfl
        have v2 := (Var.below t0 HB0.out hz).cell 2 (v := .bool o) rfl
        refine (HK0.out _).mono ?_
        rintro e w' ⟨rfl, rfl⟩
        go_wp2_with fail
        refine (HK1.out _).mono ?_
        rintro e w' ⟨rfl, rfl⟩
        go_wp2_with fail
        go_ret
        rw [HL.out]
        exact ⟨_, 0, _, rfl, rfl, ⟨(Owned.of_row HO0.out).1.wide (by omega) (Nat.le_refl _), (Owned.of_row HO0.out).2⟩, btr hb0 HB0.out⟩
      · have hb : ¬ b = 0 := hb2
        have hb' : (b != 0) = true := by simpa using hb2
        cases h1 : inB b 0 255 <;> cases o
        · have HL := Lib.hid (show ctlF (a, b, false) = [2, 3] from by unfold ctlF; dsimp only; rw [h0, h1]; simp [hb, ha])
          rw [h0] at K0
          rw [h1] at K1
          have HK0 := Lib.hid K0
          have HK1 := Lib.hid K1
          clear K0 K1 h0 h1
          go_enter Try.func125, Try.ntmps125
          go_wp2_with fail
          rw [HQ.out]
          clear HQ
          generalize w.alloc (.cells #[.int .i64 a, .int .i64 b, .bool false] 47) = W0 at t0 hb0 hz ⊢
          have HO0 := Lib.hid (World.ownsRow_made (e := 3) (size := 1) W0 #[] 0 (Nat.le_refl _) (Nat.zero_le _) rfl : (W0.alloc (.cells #[] 3)).ownsRow W0.heap.size 3 1 (.slice (some ⟨W0.heap.size, 0, none⟩) 0 0) 0 (ncells []))
          have HB0 := Lib.hid (show Below W0.heap.size W0 (W0.alloc (.cells #[] 3)) from (Below.refl _ _).alloc (Nat.le_refl _) _)
          generalize W0.alloc (.cells #[] 3) = w0 at HO0 HB0 ⊢
          have v0 := (Var.below t0 HB0.out hz).cell 0 (v := .int .i64 a) rfl
          have v1 := (Var.below t0 HB0.out hz).cell 1 (v := .int .i64 b) rfl
          have v2 := (Var.below t0 HB0.out hz).cell 2 (v := .bool false) rfl
          refine (HK0.out _).mono ?_
          rintro e w' ⟨rfl, rfl⟩
          go_wp2_with fail
          refine (HK1.out _).mono ?_
          rintro e w' ⟨rfl, rfl⟩
          go_wp2_with (first | (at_builtin; have hbs := HB0.out.size; have hown := HO0.out; refine wpList_append_lies _ rfl _ _ 26 rfl W0.heap.size 3 i0 _ 1 8 Try.underlying26 hi0 hz0 hz1 hz2 rfl (by omega) (.slice (some ⟨W0.heap.size, 0, none⟩) 0 0) 0 _ rfl (hown.alloc _) ⟨w0.heap.size, 0, none⟩ 1 1 [.int .i64 2] rfl rfl (World.news_of_block (heap_alloc_new w0 _)) (by simp [Value.oneCell']) (by omega) (by simp only [maxLen]; omega) (by omega) (by simp; omega) (w0.heap.size + 1) (by simp) ?_; intro g1 cap1 w1 hown2 hgrow hat hg2; have HO1 := Lib.hid (show w1.ownsRow W0.heap.size 3 1 (.slice (some ⟨g1, 0, none⟩) 1 cap1) 1 (ncells [2]) from by simpa [ncells] using hown2); have HB1 := Lib.hid (show Below W0.heap.size W0 w1 from (HB0.out.alloc hbs _).grown hgrow (by first | omega | (simp; omega)) (fun j hj => (hown.lt j hj).1)); clear hown2 hgrow hat hg2 hown hbs v0 v1 v2 HO0 HB0; have v0 := (Var.below t0 HB1.out hz).cell 0 (v := .int .i64 a) rfl; have v1 := (Var.below t0 HB1.out hz).cell 1 (v := .int .i64 b) rfl; have v2 := (Var.below t0 HB1.out hz).cell 2 (v := .bool false) rfl) | (at_builtin; have hbs := HB1.out.size; have hown := HO1.out; refine wpList_append_lies _ rfl _ _ 26 rfl W0.heap.size 3 i0 _ 1 8 Try.underlying26 hi0 hz0 hz1 hz2 rfl (by omega) (.slice (some ⟨g1, 0, none⟩) 1 cap1) 1 _ rfl (hown.alloc _) ⟨w1.heap.size, 0, none⟩ 1 1 [.int .i64 3] rfl rfl (World.news_of_block (heap_alloc_new w1 _)) (by simp [Value.oneCell']) (by omega) (by simp only [maxLen]; omega) (by omega) (by simp; omega) (w1.heap.size + 1) (by simp) ?_; intro g2 cap2 w2 hown2 hgrow hat hg2; have HO2 := Lib.hid (show w2.ownsRow W0.heap.size 3 1 (.slice (some ⟨g2, 0, none⟩) 2 cap2) 2 (ncells [2, 3]) from by simpa [ncells] using hown2); have HB2 := Lib.hid (show Below W0.heap.size W0 w2 from (HB1.out.alloc hbs _).grown hgrow (by first | omega | (simp; omega)) (fun j hj => (hown.lt j hj).1)); clear hown2 hgrow hat hg2 hown hbs v0 v1 v2 HO1 HB1; have v0 := (Var.below t0 HB2.out hz).cell 0 (v := .int .i64 a) rfl; have v1 := (Var.below t0 HB2.out hz).cell 1 (v := .int .i64 b) rfl; have v2 := (Var.below t0 HB2.out hz).cell 2 (v := .bool false) rfl))
          go_ret
          rw [HL.out]
          exact ⟨_, 2, _, rfl, rfl, ⟨(Owned.of_row HO2.out).1.wide (by omega) (Nat.le_refl _), (Owned.of_row HO2.out).2⟩, btr hb0 HB2.out⟩
        · have HL := Lib.hid (show ctlF (a, b, true) = [2] from by unfold ctlF; dsimp only; rw [h0, h1]; simp [hb, ha])
          rw [h0] at K0
          rw [h1] at K1
          have HK0 := Lib.hid K0
          have HK1 := Lib.hid K1
          clear K0 K1 h0 h1
          go_enter Try.func125, Try.ntmps125
          go_wp2_with fail
          rw [HQ.out]
          clear HQ
          generalize w.alloc (.cells #[.int .i64 a, .int .i64 b, .bool true] 47) = W0 at t0 hb0 hz ⊢
          have HO0 := Lib.hid (World.ownsRow_made (e := 3) (size := 1) W0 #[] 0 (Nat.le_refl _) (Nat.zero_le _) rfl : (W0.alloc (.cells #[] 3)).ownsRow W0.heap.size 3 1 (.slice (some ⟨W0.heap.size, 0, none⟩) 0 0) 0 (ncells []))
          have HB0 := Lib.hid (show Below W0.heap.size W0 (W0.alloc (.cells #[] 3)) from (Below.refl _ _).alloc (Nat.le_refl _) _)
          generalize W0.alloc (.cells #[] 3) = w0 at HO0 HB0 ⊢
          have v0 := (Var.below t0 HB0.out hz).cell 0 (v := .int .i64 a) rfl
          have v1 := (Var.below t0 HB0.out hz).cell 1 (v := .int .i64 b) rfl
          have v2 := (Var.below t0 HB0.out hz).cell 2 (v := .bool true) rfl
          refine (HK0.out _).mono ?_
          rintro e w' ⟨rfl, rfl⟩
          go_wp2_with fail
          refine (HK1.out _).mono ?_
          rintro e w' ⟨rfl, rfl⟩
          go_wp2_with ((at_builtin; have hbs := HB0.out.size; have hown := HO0.out; refine wpList_append_lies _ rfl _ _ 26 rfl W0.heap.size 3 i0 _ 1 8 Try.underlying26 hi0 hz0 hz1 hz2 rfl (by omega) (.slice (some ⟨W0.heap.size, 0, none⟩) 0 0) 0 _ rfl (hown.alloc _) ⟨w0.heap.size, 0, none⟩ 1 1 [.int .i64 2] rfl rfl (World.news_of_block (heap_alloc_new w0 _)) (by simp [Value.oneCell']) (by omega) (by simp only [maxLen]; omega) (by omega) (by simp; omega) (w0.heap.size + 1) (by simp) ?_; intro g1 cap1 w1 hown2 hgrow hat hg2; have HO1 := Lib.hid (show w1.ownsRow W0.heap.size 3 1 (.slice (some ⟨g1, 0, none⟩) 1 cap1) 1 (ncells [2]) from by simpa [ncells] using hown2); have HB1 := Lib.hid (show Below W0.heap.size W0 w1 from (HB0.out.alloc hbs _).grown hgrow (by first | omega | (simp; omega)) (fun j hj => (hown.lt j hj).1)); clear hown2 hgrow hat hg2 hown hbs v0 v1 v2 HO0 HB0; have v0 := (Var.below t0 HB1.out hz).cell 0 (v := .int .i64 a) rfl; have v1 := (Var.below t0 HB1.out hz).cell 1 (v := .int .i64 b) rfl; have v2 := (Var.below t0 HB1.out hz).cell 2 (v := .bool true) rfl))
          go_ret
          rw [HL.out]
          exact ⟨_, 1, _, rfl, rfl, ⟨(Owned.of_row HO1.out).1.wide (by omega) (Nat.le_refl _), (Owned.of_row HO1.out).2⟩, btr hb0 HB1.out⟩
        · have HL := Lib.hid (show ctlF (a, b, false) = [3] from by unfold ctlF; dsimp only; rw [h0, h1]; simp [hb, ha])
          rw [h0] at K0
          rw [h1] at K1
          have HK0 := Lib.hid K0
          have HK1 := Lib.hid K1
          clear K0 K1 h0 h1
          go_enter Try.func125, Try.ntmps125
          go_wp2_with fail
          rw [HQ.out]
          clear HQ
          generalize w.alloc (.cells #[.int .i64 a, .int .i64 b, .bool false] 47) = W0 at t0 hb0 hz ⊢
          have HO0 := Lib.hid (World.ownsRow_made (e := 3) (size := 1) W0 #[] 0 (Nat.le_refl _) (Nat.zero_le _) rfl : (W0.alloc (.cells #[] 3)).ownsRow W0.heap.size 3 1 (.slice (some ⟨W0.heap.size, 0, none⟩) 0 0) 0 (ncells []))
          have HB0 := Lib.hid (show Below W0.heap.size W0 (W0.alloc (.cells #[] 3)) from (Below.refl _ _).alloc (Nat.le_refl _) _)
          generalize W0.alloc (.cells #[] 3) = w0 at HO0 HB0 ⊢
          have v0 := (Var.below t0 HB0.out hz).cell 0 (v := .int .i64 a) rfl
          have v1 := (Var.below t0 HB0.out hz).cell 1 (v := .int .i64 b) rfl
          have v2 := (Var.below t0 HB0.out hz).cell 2 (v := .bool false) rfl
          refine (HK0.out _).mono ?_
          rintro e w' ⟨rfl, rfl⟩
          go_wp2_with fail
          refine (HK1.out _).mono ?_
          rintro e w' ⟨rfl, rfl⟩
          go_wp2_with ((at_builtin; have hbs := HB0.out.size; have hown := HO0.out; refine wpList_append_lies _ rfl _ _ 26 rfl W0.heap.size 3 i0 _ 1 8 Try.underlying26 hi0 hz0 hz1 hz2 rfl (by omega) (.slice (some ⟨W0.heap.size, 0, none⟩) 0 0) 0 _ rfl (hown.alloc _) ⟨w0.heap.size, 0, none⟩ 1 1 [.int .i64 3] rfl rfl (World.news_of_block (heap_alloc_new w0 _)) (by simp [Value.oneCell']) (by omega) (by simp only [maxLen]; omega) (by omega) (by simp; omega) (w0.heap.size + 1) (by simp) ?_; intro g1 cap1 w1 hown2 hgrow hat hg2; have HO1 := Lib.hid (show w1.ownsRow W0.heap.size 3 1 (.slice (some ⟨g1, 0, none⟩) 1 cap1) 1 (ncells [3]) from by simpa [ncells] using hown2); have HB1 := Lib.hid (show Below W0.heap.size W0 w1 from (HB0.out.alloc hbs _).grown hgrow (by first | omega | (simp; omega)) (fun j hj => (hown.lt j hj).1)); clear hown2 hgrow hat hg2 hown hbs v0 v1 v2 HO0 HB0; have v0 := (Var.below t0 HB1.out hz).cell 0 (v := .int .i64 a) rfl; have v1 := (Var.below t0 HB1.out hz).cell 1 (v := .int .i64 b) rfl; have v2 := (Var.below t0 HB1.out hz).cell 2 (v := .bool false) rfl))
          go_ret
          rw [HL.out]
          exact ⟨_, 1, _, rfl, rfl, ⟨(Owned.of_row HO1.out).1.wide (by omega) (Nat.le_refl _), (Owned.of_row HO1.out).2⟩, btr hb0 HB1.out⟩
        · have HL := Lib.hid (show ctlF (a, b, true) = [] from by unfold ctlF; dsimp only; rw [h0, h1]; simp [hb, ha])
          rw [h0] at K0
          rw [h1] at K1
          have HK0 := Lib.hid K0
          have HK1 := Lib.hid K1
          clear K0 K1 h0 h1
          go_enter Try.func125, Try.ntmps125
          go_wp2_with fail
          rw [HQ.out]
          clear HQ
          generalize w.alloc (.cells #[.int .i64 a, .int .i64 b, .bool true] 47) = W0 at t0 hb0 hz ⊢
          have HO0 := Lib.hid (World.ownsRow_made (e := 3) (size := 1) W0 #[] 0 (Nat.le_refl _) (Nat.zero_le _) rfl : (W0.alloc (.cells #[] 3)).ownsRow W0.heap.size 3 1 (.slice (some ⟨W0.heap.size, 0, none⟩) 0 0) 0 (ncells []))
          have HB0 := Lib.hid (show Below W0.heap.size W0 (W0.alloc (.cells #[] 3)) from (Below.refl _ _).alloc (Nat.le_refl _) _)
          generalize W0.alloc (.cells #[] 3) = w0 at HO0 HB0 ⊢
          have v0 := (Var.below t0 HB0.out hz).cell 0 (v := .int .i64 a) rfl
          have v1 := (Var.below t0 HB0.out hz).cell 1 (v := .int .i64 b) rfl
          have v2 := (Var.below t0 HB0.out hz).cell 2 (v := .bool true) rfl
          refine (HK0.out _).mono ?_
          rintro e w' ⟨rfl, rfl⟩
          go_wp2_with fail
          refine (HK1.out _).mono ?_
          rintro e w' ⟨rfl, rfl⟩
          go_wp2_with fail
          go_ret
          rw [HL.out]
          exact ⟨_, 0, _, rfl, rfl, ⟨(Owned.of_row HO0.out).1.wide (by omega) (Nat.le_refl _), (Owned.of_row HO0.out).2⟩, btr hb0 HB0.out⟩
end Go.Proofs.Ytldgadmpclgfhaa.Ctls
namespace Go.Proofs.Ytldgadmpclgfhaa.Ctls
set_option maxRecDepth 100000
open Go.ChangeShapes Go.WideShapes Go.ChangeAt Go.RowKit
open Go.Proofs.Ytldgadmpclgfhaa.Base Go.Proofs.Ytldgadmpclgfhaa.Mem Go.Proofs.Ytldgadmpclgfhaa.Data Go.Proofs.Ytldgadmpclgfhaa.Ints Go.Proofs.Ytldgadmpclgfhaa.Slots
set_option linter.unusedVariables false
set_option linter.unusedSimpArgs false
theorem spec_ctlOk (a b : Int) (o : Bool) (w : World) :
    Calls Try.prog 100 #[.agg #[.int .i64 a, .int .i64 b, .bool o]] w fun e w' => e = .returned (.bool (ctlOk (a, b, o))) ∧ Below w.heap.size w w' := by
  have hb0 : Below w.heap.size w (w.alloc (.cells #[.int .i64 a, .int .i64 b, .bool o] 47)) := (Below.refl _ _).alloc (Nat.le_refl _) _
  have HK := Lib.hid (fun V : World => spec_ctlF a b o V)
  have HB := Lib.hid hb0
  clear hb0
  go_enter Try.func100, Try.ntmps100
  go_wp2_with fail
  refine (HK.out _).mono ?_
  rintro e w1 ⟨A, n, c, rfl, hl, _, hb1⟩
  have HB1 := Lib.hid (btr HB.out hb1)
  have HV := Lib.hid (show ctlOk (a, b, o) = (n == 0) from by unfold ctlOk; rw [hl])
  clear hb1 hl
  by_cases h0 : n = 0
  · subst h0
    go_wp2_with fail
    go_ret
    exact ⟨by rw [HV.out]; rfl, HB1.out⟩
  · have h0' : ((n : Int) == 0) = false := by simpa using h0
    have h0'' : (n == 0) = false := by simpa using h0
    go_wp2_with fail
    go_ret
    exact ⟨by rw [HV.out, h0'']; rfl, HB1.out⟩
end Go.Proofs.Ytldgadmpclgfhaa.Ctls
namespace Go.Proofs.Ytldgadmpclgfhaa.Exits
set_option maxRecDepth 100000
open Go.ChangeShapes Go.WideShapes Go.ChangeAt Go.RowKit
open Go.Proofs.Ytldgadmpclgfhaa.Base Go.Proofs.Ytldgadmpclgfhaa.Mem Go.Proofs.Ytldgadmpclgfhaa.Data
set_option linter.unusedVariables false
set_option linter.unusedSimpArgs false
def exitOk (s : QT) : Bool :=
  if s.1 = 0 ∨ s.1 = 4 then (s.2.1 == 0) && (!s.2.2.1) && (s.2.2.2 == 0)
  else if s.1 = 1 then inB s.2.1 0 3 && (s.2.2.2 == 0)
  else if s.1 = 2 ∨ s.1 = 3 then inB s.2.2.2 0 99 && (s.2.1 == 0) && (!s.2.2.1)
  else false
def ExitP (w : World) (s : QT) (e : Ending) (w' : World) : Prop := e = .returned (.agg #[.int .i64 s.1, .int .i64 s.2.1, .bool s.2.2.1, .int .i64 s.2.2.2]) ∧ Below w.heap.size w w'
theorem kind_cases (k : Int) : k = 0 ∨ k = 4 ∨ k = 1 ∨ k = 2 ∨ k = 3 ∨ ((k == 0) = false ∧ (k == 1) = false ∧ (k == 2) = false ∧ (k == 3) = false ∧ (k == 4) = false) := by
  simp only [beq_eq_false_iff_ne, ne_eq]
  omega
theorem exitOk_else {k p n : Int} {w : Bool} (h : (k == 0) = false ∧ (k == 1) = false ∧ (k == 2) = false ∧ (k == 3) = false ∧ (k == 4) = false) : exitOk (k, p, w, n) = false := by
  simp only [beq_eq_false_iff_ne, ne_eq] at h
  simp [exitOk, h]
set_option maxHeartbeats 8000000 in
theorem spec_exitOk (k p : Int) (q : Bool) (n : Int) (w : World) :
    Calls Try.prog 101 #[.agg #[.int .i64 k, .int .i64 p, .bool q, .int .i64 n]] w fun e w' => e = .returned (.bool (exitOk (k, p, q, n))) ∧ Below w.heap.size w w' := by
  have K1 := Lib.hid (fun V : World => spec_in p 0 3 V)
  have K2 := Lib.hid (fun V : World => spec_in n 0 99 V)
  have HB := Lib.hid ((Below.refl w.heap.size w).alloc (Nat.le_refl _) (.cells #[.int .i64 k, .int .i64 p, .bool q, .int .i64 n] 49))
  rcases kind_cases k with rfl | rfl | rfl | rfl | rfl | h
  · by_cases hp : p = 0 <;> by_cases hn : n = 0 <;> cases q
    · subst hp
      subst hn
      have HV := Lib.hid (show exitOk (0, 0, false, 0) = true from by simp [exitOk])
      go_enter Try.func101, Try.ntmps101
      go_wp2_with fail
      go_ret
      exact ⟨by rw [HV.out]; rfl, HB.out⟩
    · subst hp
      subst hn
      have HV := Lib.hid (show exitOk (0, 0, true, 0) = false from by simp [exitOk])
      go_enter Try.func101, Try.ntmps101
      go_wp2_with fail
      go_ret
      exact ⟨by rw [HV.out]; rfl, HB.out⟩
    · subst hp
      have hn' : (n == 0) = false := by simpa using hn
      have HV := Lib.hid (show exitOk (0, 0, false, n) = false from by simp [exitOk, hn])
      go_enter Try.func101, Try.ntmps101
      go_wp2_with fail
      go_ret
      exact ⟨by rw [HV.out]; rfl, HB.out⟩
    · subst hp
      have hn' : (n == 0) = false := by simpa using hn
      have HV := Lib.hid (show exitOk (0, 0, true, n) = false from by simp [exitOk, hn])
      go_enter Try.func101, Try.ntmps101
      go_wp2_with fail
      go_ret
      exact ⟨by rw [HV.out]; rfl, HB.out⟩
    · have hp' : (p == 0) = false := by simpa using hp
      subst hn
      have HV := Lib.hid (show exitOk (0, p, false, 0) = false from by simp [exitOk, hp])
      go_enter Try.func101, Try.ntmps101
      go_wp2_with fail
      go_ret
      exact ⟨by rw [HV.out]; rfl, HB.out⟩
    · have hp' : (p == 0) = false := by simpa using hp
      subst hn
      have HV := Lib.hid (show exitOk (0, p, true, 0) = false from by simp [exitOk, hp])
      go_enter Try.func101, Try.ntmps101
      go_wp2_with fail
      go_ret
      exact ⟨by rw [HV.out]; rfl, HB.out⟩
    · have hp' : (p == 0) = false := by simpa using hp
      have hn' : (n == 0) = false := by simpa using hn
      have HV := Lib.hid (show exitOk (0, p, false, n) = false from by simp [exitOk, hp, hn])
      go_enter Try.func101, Try.ntmps101
      go_wp2_with fail
      go_ret
      exact ⟨by rw [HV.out]; rfl, HB.out⟩
    · have hp' : (p == 0) = false := by simpa using hp
      have hn' : (n == 0) = false := by simpa using hn
      have HV := Lib.hid (show exitOk (0, p, true, n) = false from by simp [exitOk, hp, hn])
      go_enter Try.func101, Try.ntmps101
      go_wp2_with fail
      go_ret
      exact ⟨by rw [HV.out]; rfl, HB.out⟩
  · by_cases hp : p = 0 <;> by_cases hn : n = 0 <;> cases q
    · subst hp
      subst hn
      have HV := Lib.hid (show exitOk (4, 0, false, 0) = true from by simp [exitOk])
      go_enter Try.func101, Try.ntmps101
      go_wp2_with fail
      go_ret
      exact ⟨by rw [HV.out]; rfl, HB.out⟩
    · subst hp
      subst hn
      have HV := Lib.hid (show exitOk (4, 0, true, 0) = false from by simp [exitOk])
      go_enter Try.func101, Try.ntmps101
      go_wp2_with fail
      go_ret
      exact ⟨by rw [HV.out]; rfl, HB.out⟩
    · subst hp
      have hn' : (n == 0) = false := by simpa using hn
      have HV := Lib.hid (show exitOk (4, 0, false, n) = false from by simp [exitOk, hn])
      go_enter Try.func101, Try.ntmps101
      go_wp2_with fail
      go_ret
      exact ⟨by rw [HV.out]; rfl, HB.out⟩
    · subst hp
      have hn' : (n == 0) = false := by simpa using hn
      have HV := Lib.hid (show exitOk (4, 0, true, n) = false from by simp [exitOk, hn])
      go_enter Try.func101, Try.ntmps101
      go_wp2_with fail
      go_ret
      exact ⟨by rw [HV.out]; rfl, HB.out⟩
    · have hp' : (p == 0) = false := by simpa using hp
      subst hn
      have HV := Lib.hid (show exitOk (4, p, false, 0) = false from by simp [exitOk, hp])
      go_enter Try.func101, Try.ntmps101
      go_wp2_with fail
      go_ret
      exact ⟨by rw [HV.out]; rfl, HB.out⟩
    · have hp' : (p == 0) = false := by simpa using hp
      subst hn
      have HV := Lib.hid (show exitOk (4, p, true, 0) = false from by simp [exitOk, hp])
      go_enter Try.func101, Try.ntmps101
      go_wp2_with fail
      go_ret
      exact ⟨by rw [HV.out]; rfl, HB.out⟩
    · have hp' : (p == 0) = false := by simpa using hp
      have hn' : (n == 0) = false := by simpa using hn
      have HV := Lib.hid (show exitOk (4, p, false, n) = false from by simp [exitOk, hp, hn])
      go_enter Try.func101, Try.ntmps101
      go_wp2_with fail
      go_ret
      exact ⟨by rw [HV.out]; rfl, HB.out⟩
    · have hp' : (p == 0) = false := by simpa using hp
      have hn' : (n == 0) = false := by simpa using hn
      have HV := Lib.hid (show exitOk (4, p, true, n) = false from by simp [exitOk, hp, hn])
      go_enter Try.func101, Try.ntmps101
      go_wp2_with fail
      go_ret
      exact ⟨by rw [HV.out]; rfl, HB.out⟩
  · have hv : exitOk (1, p, q, n) = (inB p 0 3 && (n == 0)) := rfl
    generalize inB p 0 3 = x at K1 hv
    by_cases hn : n = 0 <;> cases x
    · subst hn
      have HV := Lib.hid hv
      clear hv
      go_enter Try.func101, Try.ntmps101
      go_wp2_with fail
      refine (K1.out _).mono ?_
      rintro e w' ⟨rfl, rfl⟩
      go_wp2_with fail
      go_ret
      exact ⟨by rw [HV.out]; rfl, HB.out⟩
    · subst hn
      have HV := Lib.hid hv
      clear hv
      go_enter Try.func101, Try.ntmps101
      go_wp2_with fail
      refine (K1.out _).mono ?_
      rintro e w' ⟨rfl, rfl⟩
      go_wp2_with fail
      go_ret
      exact ⟨by rw [HV.out]; rfl, HB.out⟩
    · have hn' : (n == 0) = false := by simpa using hn
      rw [hn'] at hv
      have HV := Lib.hid hv
      clear hv
      go_enter Try.func101, Try.ntmps101
      go_wp2_with fail
      refine (K1.out _).mono ?_
      rintro e w' ⟨rfl, rfl⟩
      go_wp2_with fail
      go_ret
      exact ⟨by rw [HV.out]; rfl, HB.out⟩
    · have hn' : (n == 0) = false := by simpa using hn
      rw [hn'] at hv
      have HV := Lib.hid hv
      clear hv
      go_enter Try.func101, Try.ntmps101
      go_wp2_with fail
      refine (K1.out _).mono ?_
      rintro e w' ⟨rfl, rfl⟩
      go_wp2_with fail
      go_ret
      exact ⟨by rw [HV.out]; rfl, HB.out⟩
  · have hv : exitOk (2, p, q, n) = (inB n 0 99 && (p == 0) && (!q)) := rfl
    generalize inB n 0 99 = x at K2 hv
    by_cases hp : p = 0 <;> cases x <;> cases q
    · subst hp
      have HV := Lib.hid hv
      clear hv
      go_enter Try.func101, Try.ntmps101
      go_wp2_with fail
      refine (K2.out _).mono ?_
      rintro e w' ⟨rfl, rfl⟩
      go_wp2_with fail
      go_ret
      exact ⟨by rw [HV.out]; rfl, HB.out⟩
    · subst hp
      have HV := Lib.hid hv
      clear hv
      go_enter Try.func101, Try.ntmps101
      go_wp2_with fail
      refine (K2.out _).mono ?_
      rintro e w' ⟨rfl, rfl⟩
      go_wp2_with fail
      go_ret
      exact ⟨by rw [HV.out]; rfl, HB.out⟩
    · subst hp
      have HV := Lib.hid hv
      clear hv
      go_enter Try.func101, Try.ntmps101
      go_wp2_with fail
      refine (K2.out _).mono ?_
      rintro e w' ⟨rfl, rfl⟩
      go_wp2_with fail
      go_ret
      exact ⟨by rw [HV.out]; rfl, HB.out⟩
    · subst hp
      have HV := Lib.hid hv
      clear hv
      go_enter Try.func101, Try.ntmps101
      go_wp2_with fail
      refine (K2.out _).mono ?_
      rintro e w' ⟨rfl, rfl⟩
      go_wp2_with fail
      go_ret
      exact ⟨by rw [HV.out]; rfl, HB.out⟩
    · have hp' : (p == 0) = false := by simpa using hp
      rw [hp'] at hv
      have HV := Lib.hid hv
      clear hv
      go_enter Try.func101, Try.ntmps101
      go_wp2_with fail
      refine (K2.out _).mono ?_
      rintro e w' ⟨rfl, rfl⟩
      go_wp2_with fail
      go_ret
      exact ⟨by rw [HV.out]; rfl, HB.out⟩
    · have hp' : (p == 0) = false := by simpa using hp
      rw [hp'] at hv
      have HV := Lib.hid hv
      clear hv
      go_enter Try.func101, Try.ntmps101
      go_wp2_with fail
      refine (K2.out _).mono ?_
      rintro e w' ⟨rfl, rfl⟩
      go_wp2_with fail
      go_ret
      exact ⟨by rw [HV.out]; rfl, HB.out⟩
    · have hp' : (p == 0) = false := by simpa using hp
      rw [hp'] at hv
      have HV := Lib.hid hv
      clear hv
      go_enter Try.func101, Try.ntmps101
      go_wp2_with fail
      refine (K2.out _).mono ?_
      rintro e w' ⟨rfl, rfl⟩
      go_wp2_with fail
      go_ret
      exact ⟨by rw [HV.out]; rfl, HB.out⟩
    · have hp' : (p == 0) = false := by simpa using hp
      rw [hp'] at hv
      have HV := Lib.hid hv
      clear hv
      go_enter Try.func101, Try.ntmps101
      go_wp2_with fail
      refine (K2.out _).mono ?_
      rintro e w' ⟨rfl, rfl⟩
      go_wp2_with fail
      go_ret
      exact ⟨by rw [HV.out]; rfl, HB.out⟩
  · have hv : exitOk (3, p, q, n) = (inB n 0 99 && (p == 0) && (!q)) := rfl
    generalize inB n 0 99 = x at K2 hv
    by_cases hp : p = 0 <;> cases x <;> cases q
    · subst hp
      have HV := Lib.hid hv
      clear hv
      go_enter Try.func101, Try.ntmps101
      go_wp2_with fail
      refine (K2.out _).mono ?_
      rintro e w' ⟨rfl, rfl⟩
      go_wp2_with fail
      go_ret
      exact ⟨by rw [HV.out]; rfl, HB.out⟩
    · subst hp
      have HV := Lib.hid hv
      clear hv
      go_enter Try.func101, Try.ntmps101
      go_wp2_with fail
      refine (K2.out _).mono ?_
      rintro e w' ⟨rfl, rfl⟩
      go_wp2_with fail
      go_ret
      exact ⟨by rw [HV.out]; rfl, HB.out⟩
    · subst hp
      have HV := Lib.hid hv
      clear hv
      go_enter Try.func101, Try.ntmps101
      go_wp2_with fail
      refine (K2.out _).mono ?_
      rintro e w' ⟨rfl, rfl⟩
      go_wp2_with fail
      go_ret
      exact ⟨by rw [HV.out]; rfl, HB.out⟩
    · subst hp
      have HV := Lib.hid hv
      clear hv
      go_enter Try.func101, Try.ntmps101
      go_wp2_with fail
      refine (K2.out _).mono ?_
      rintro e w' ⟨rfl, rfl⟩
      go_wp2_with fail
      go_ret
      exact ⟨by rw [HV.out]; rfl, HB.out⟩
    · have hp' : (p == 0) = false := by simpa using hp
      rw [hp'] at hv
      have HV := Lib.hid hv
      clear hv
      go_enter Try.func101, Try.ntmps101
      go_wp2_with fail
      refine (K2.out _).mono ?_
      rintro e w' ⟨rfl, rfl⟩
      go_wp2_with fail
      go_ret
      exact ⟨by rw [HV.out]; rfl, HB.out⟩
    · have hp' : (p == 0) = false := by simpa using hp
      rw [hp'] at hv
      have HV := Lib.hid hv
      clear hv
      go_enter Try.func101, Try.ntmps101
      go_wp2_with fail
      refine (K2.out _).mono ?_
      rintro e w' ⟨rfl, rfl⟩
      go_wp2_with fail
      go_ret
      exact ⟨by rw [HV.out]; rfl, HB.out⟩
    · have hp' : (p == 0) = false := by simpa using hp
      rw [hp'] at hv
      have HV := Lib.hid hv
      clear hv
      go_enter Try.func101, Try.ntmps101
      go_wp2_with fail
      refine (K2.out _).mono ?_
      rintro e w' ⟨rfl, rfl⟩
      go_wp2_with fail
      go_ret
      exact ⟨by rw [HV.out]; rfl, HB.out⟩
    · have hp' : (p == 0) = false := by simpa using hp
      rw [hp'] at hv
      have HV := Lib.hid hv
      clear hv
      go_enter Try.func101, Try.ntmps101
      go_wp2_with fail
      refine (K2.out _).mono ?_
      rintro e w' ⟨rfl, rfl⟩
      go_wp2_with fail
      go_ret
      exact ⟨by rw [HV.out]; rfl, HB.out⟩
  · have HV := Lib.hid (exitOk_else (p := p) (n := n) (w := q) h)
    obtain ⟨h0, h1, h2, h3, h4⟩ := h
    go_enter Try.func101, Try.ntmps101
    go_wp2_with fail
    go_ret
    exact ⟨by rw [HV.out]; rfl, HB.out⟩
end Go.Proofs.Ytldgadmpclgfhaa.Exits
namespace Go.Proofs.Ytldgadmpclgfhaa.Guests
set_option maxRecDepth 100000
open Go.ChangeShapes Go.WideShapes Go.ChangeAt Go.RowKit
open Go.Proofs.Ytldgadmpclgfhaa.Base Go.Proofs.Ytldgadmpclgfhaa.Mem Go.Proofs.Ytldgadmpclgfhaa.Slots Go.Proofs.Ytldgadmpclgfhaa.Data Go.Proofs.Ytldgadmpclgfhaa.Ints Go.Proofs.Ytldgadmpclgfhaa.Inss Go.Proofs.Ytldgadmpclgfhaa.Ctls Go.Proofs.Ytldgadmpclgfhaa.Exits Go.Proofs.Ytldgadmpclgfhaa.Part Go.Proofs.Ytldgadmpclgfhaa.Guests
open Go.Proofs.Ytldgadmpclgfhaa.Irqs
set_option linter.unusedVariables false
set_option linter.unusedSimpArgs false
theorem gR.with {w : World} {lo hi : Nat} {g h : gT} {P0 P1 P2 P3 : Value} (r : gR w lo hi g P0 P1 P2 P3) (e0 : h.prog = g.prog) (e1 : h.wr = g.wr) (e2 : h.lv = g.lv) (e3 : h.seen = g.seen) : gR w lo hi h P0 P1 P2 P3 :=
  ⟨by rw [e0]; exact r.r0, by rw [e1]; exact r.r1, by rw [e2]; exact r.r2, by rw [e3]; exact r.r3⟩
theorem gO.with {w : World} {lo hi : Nat} {g h : gT} {P0 P1 P2 P3 : Value} (r : gO w lo hi g P0 P1 P2 P3) (e0 : h.prog = g.prog) (e1 : h.wr = g.wr) (e2 : h.lv = g.lv) (e3 : h.seen = g.seen) : gO w lo hi h P0 P1 P2 P3 :=
  ⟨by rw [e0]; exact r.r0, by rw [e1]; exact r.r1, by rw [e2]; exact r.r2, by rw [e3]; exact r.r3, r.d01, r.d02, r.d03, r.d12, r.d13, r.d23⟩
theorem gO.far {w : World} {lo hi : Nat} {g : gT} {P0 P1 P2 P3 : Value} (r : gO w lo hi g P0 P1 P2 P3) {z : Nat} (hz : z < lo ∨ hi ≤ z) (i : Nat) (u : Value) : gO (w.setCell ⟨z, i, none⟩ u) lo hi g P0 P1 P2 P3 :=
  r.kept fun k h1 h2 => Below.heap_setCell w ⟨z, i, none⟩ u k (by show k ≠ z; omega)
end Go.Proofs.Ytldgadmpclgfhaa.Guests
namespace Go.Proofs.Ytldgadmpclgfhaa.Slots
set_option maxRecDepth 100000
open Go.ChangeShapes Go.WideShapes Go.ChangeAt Go.RowKit
open Go.Proofs.Ytldgadmpclgfhaa.Base Go.Proofs.Ytldgadmpclgfhaa.Mem Go.Proofs.Ytldgadmpclgfhaa.Ints
theorem impl_no (w : World) :
    Calls Try.prog 140 #[] w fun e w' => e = .returned (.agg #[.int .i64 (-1), .int .i64 0]) ∧ Below w.heap.size w w' := by
  go_enter Try.func140, Try.ntmps140
  go_wp2
  exact bodyPost_ret (v := .agg #[.int .i64 (-1), .int .i64 0]) (by simp [results, Try.results140, go_sem]) rfl ⟨rfl, (Below.refl _ _).alloc (Nat.le_refl _) _⟩
theorem spec_no (w : World) :
    Calls Try.prog 120 #[] w fun e w' => e = .returned (.agg #[.int .i64 (-1), .int .i64 0]) ∧ Below w.heap.size w w' := by
  go_enter Try.func120, Try.ntmps120
  go_wp2
  exact bodyPost_ret (v := .agg #[.int .i64 (-1), .int .i64 0]) (by simp [results, Try.results120, go_sem]) rfl ⟨rfl, (Below.refl _ _).alloc (Nat.le_refl _) _⟩
theorem impl_rok (r : Int) (w : World) (hr : (Lit.int .i64 r).wf = true) :
    Calls Try.prog 147 #[.int .i64 r] w fun e w' => e = .returned (.bool (Rights.rok r)) ∧ w = w' := by
  have h := Lib.hid (Rights.andNot3 hr)
  clear hr
  go_enter Try.func147, Try.ntmps147
  go_wp2
  go_ret
  rw [h.out]
  exact ⟨rfl, rfl⟩
/-- A slot in a block of its own. -/
theorem boxed (w : World) (u v : Value) (T : TypeId) : (w.alloc (.cells #[u, v] T)).cell? ⟨w.heap.size, 0, none⟩ = some u ∧ (w.alloc (.cells #[u, v] T)).cell? ⟨w.heap.size, 1, none⟩ = some v ∧ Below w.heap.size w (w.alloc (.cells #[u, v] T)) ∧ w.heap.size < (w.alloc (.cells #[u, v] T)).heap.size :=
  ⟨cell_of_row _ _ 0 _ _ _ (heap_alloc_new w _), cell_of_row _ _ 1 _ _ _ (heap_alloc_new w _), (Below.refl _ _).alloc (Nat.le_refl _) _, by simp⟩
def OkPost (w : World) (x : Bool) (e : Ending) (w' : World) : Prop := e = .returned (.bool x) ∧ Below w.heap.size w w'
theorem okS_cases (p r pages : Int) : (p = -1 ∧ r = 0 ∧ okS p r pages = true) ∨ (((p = -1 ∧ r ≠ 0) ∨ p ≠ -1) ∧
    ((¬ 0 ≤ p ∧ okS p r pages = false) ∨ (0 ≤ p ∧ ¬ p < pages ∧ okS p r pages = false) ∨ (0 ≤ p ∧ p < pages ∧ r = 0 ∧ okS p r pages = false) ∨
      (0 ≤ p ∧ p < pages ∧ r ≠ 0 ∧ Rights.rok r = false ∧ okS p r pages = false) ∨ (0 ≤ p ∧ p < pages ∧ r ≠ 0 ∧ Rights.rok r = true ∧ okS p r pages = true))) := by
  simp only [okS, decide_eq_true_eq, decide_eq_false_iff_not, Rights.rok_iff, Rights.rok_false]
  omega
set_option maxHeartbeats 4000000 in
theorem impl_okS (p r pages : Int) (w : World) (hr : (Lit.int .i64 r).wf = true) :
    Calls Try.prog 139 #[.agg #[.int .i64 p, .int .i64 r], .int .i64 pages] w (OkPost w (okS p r pages)) := by
  have HR := Lib.hid hr
  clear hr
  obtain ⟨k0, k1, hW, hsz⟩ := boxed w (.int .i64 p) (.int .i64 r) 129
  rcases okS_cases p r pages with ⟨rfl, rfl, h⟩ | ⟨hno, hh⟩
  · rw [h]; clear h
    go_enter Try.func139, Try.ntmps139
    go_wp2_with fail
    generalize w.alloc (.cells #[.int .i64 (-1), .int .i64 0] 129) = W at k0 k1 hW hsz ⊢
    refine wp_region_noPanic ?_
    go_region_held (fun w' => w'.cell? ⟨w.heap.size, 0, none⟩ = some (.int .i64 (-1)) ∧ w'.cell? ⟨w.heap.size, 1, none⟩ = some (.int .i64 0))
      (first | exact ⟨k0, k1⟩ | exact ⟨(hb1.cell (p := ⟨w.heap.size, 0, none⟩) hsz).trans k0, (hb1.cell (p := ⟨w.heap.size, 1, none⟩) hsz).trans k1⟩)
      (first | (go_at_call 140; refine (impl_no _).mono ?_; rintro e w1 ⟨rfl, hb1⟩))
    refine NoPanic.normal ?_
    have hbw : Below w.heap.size w w1 := hW.drew.trans (hb1.mono hW.size)
    clear hb1 k0 k1
    go_wp2_with fail
    go_ret
    exact ⟨rfl, hbw⟩
  · rcases hno with ⟨rfl, h0⟩ | h0
    · have h0' : (r == 0) = false := by simpa using h0
      have h : okS (-1) r pages = false := by simp [okS, h0]
      rw [h]; clear h hh h0
      go_enter Try.func139, Try.ntmps139
      go_wp2_with fail
      generalize w.alloc (.cells #[.int .i64 (-1), .int .i64 r] 129) = W at k0 k1 hW hsz ⊢
      refine wp_region_noPanic ?_
      go_region_held (fun w' => w'.cell? ⟨w.heap.size, 0, none⟩ = some (.int .i64 (-1)) ∧ w'.cell? ⟨w.heap.size, 1, none⟩ = some (.int .i64 r))
        (first | exact ⟨k0, k1⟩ | exact ⟨(hb1.cell (p := ⟨w.heap.size, 0, none⟩) hsz).trans k0, (hb1.cell (p := ⟨w.heap.size, 1, none⟩) hsz).trans k1⟩)
        (first | (go_at_call 140; refine (impl_no _).mono ?_; rintro e w1 ⟨rfl, hb1⟩))
      refine NoPanic.normal ?_
      have hbw : Below w.heap.size w w1 := hW.drew.trans (hb1.mono hW.size)
      have j0 : w1.cell? ⟨w.heap.size, 0, none⟩ = some (.int .i64 (-1)) := (hb1.cell (p := ⟨w.heap.size, 0, none⟩) hsz).trans k0
      clear hb1 k0 k1
      go_wp2_with fail
      go_ret
      exact ⟨rfl, hbw⟩
    · have h0' : (p == -1) = false := by simpa using h0
      clear h0
      go_enter Try.func139, Try.ntmps139
      go_wp2_with fail
      generalize w.alloc (.cells #[.int .i64 p, .int .i64 r] 129) = W at k0 k1 hW hsz ⊢
      refine wp_region_noPanic ?_
      go_region_held (fun w' => w'.cell? ⟨w.heap.size, 0, none⟩ = some (.int .i64 p) ∧ w'.cell? ⟨w.heap.size, 1, none⟩ = some (.int .i64 r))
        (first | exact ⟨k0, k1⟩ | exact ⟨(hb1.cell (p := ⟨w.heap.size, 0, none⟩) hsz).trans k0, (hb1.cell (p := ⟨w.heap.size, 1, none⟩) hsz).trans k1⟩)
        (first | (go_at_call 140; refine (impl_no _).mono ?_; rintro e w1 ⟨rfl, hb1⟩))
      refine NoPanic.normal ?_
      have hbw : Below w.heap.size w w1 := hW.drew.trans (hb1.mono hW.size)
      have j0 : w1.cell? ⟨w.heap.size, 0, none⟩ = some (.int .i64 p) := (hb1.cell (p := ⟨w.heap.size, 0, none⟩) hsz).trans k0
      have j1 : w1.cell? ⟨w.heap.size, 1, none⟩ = some (.int .i64 r) := (hb1.cell (p := ⟨w.heap.size, 1, none⟩) hsz).trans k1
      have HB := Lib.hid hbw
      clear hb1 k0 k1 hbw
      rcases hh with ⟨h1, h⟩ | ⟨h1, h2, h⟩ | ⟨h1, h2, rfl, h⟩ | ⟨h1, h2, h3, h4, h⟩ | ⟨h1, h2, h3, h4, h⟩
      · have HH := Lib.hid h
        clear h
        go_wp2_with fail
        go_ret
        exact ⟨by rw [HH.out]; rfl, HB.out⟩
      · have HH := Lib.hid h
        clear h
        go_wp2_with fail
        go_ret
        exact ⟨by rw [HH.out]; rfl, HB.out⟩
      · have HH := Lib.hid h
        clear h
        go_wp2_with fail
        go_ret
        exact ⟨by rw [HH.out]; rfl, HB.out⟩
      · have HH := Lib.hid h
        have h3' : (r != 0) = true := by simpa using h3
        have K := fun V : World => impl_rok r V HR.out
        rw [h4] at K
        have HK := Lib.hid K
        clear K h4 h3 h
        go_wp2_with fail
        refine (HK.out _).mono ?_
        rintro e w' ⟨rfl, rfl⟩
        go_wp2_with fail
        go_ret
        exact ⟨by rw [HH.out]; rfl, HB.out⟩
      · have HH := Lib.hid h
        have h3' : (r != 0) = true := by simpa using h3
        have K := fun V : World => impl_rok r V HR.out
        rw [h4] at K
        have HK := Lib.hid K
        clear K h4 h3 h
        go_wp2_with fail
        refine (HK.out _).mono ?_
        rintro e w' ⟨rfl, rfl⟩
        go_wp2_with fail
        go_ret
        exact ⟨by rw [HH.out]; rfl, HB.out⟩
end Go.Proofs.Ytldgadmpclgfhaa.Slots
namespace Go.Proofs.Ytldgadmpclgfhaa.BroughtW
set_option maxRecDepth 100000
open Go.ChangeShapes Go.WideShapes Go.ChangeAt Go.RowKit
/-- What both functions compute. -/
def brought (n l m : Int) : Int := if m < l ∨ n < l then l else if m < n then m else n
end Go.Proofs.Ytldgadmpclgfhaa.BroughtW
namespace Go.Proofs.Ytldgadmpclgfhaa.Guests
set_option maxRecDepth 100000
open Go.ChangeShapes Go.WideShapes Go.ChangeAt Go.RowKit
open Go.Proofs.Ytldgadmpclgfhaa.Base Go.Proofs.Ytldgadmpclgfhaa.Mem Go.Proofs.Ytldgadmpclgfhaa.Data Go.Proofs.Ytldgadmpclgfhaa.Slots Go.Proofs.Ytldgadmpclgfhaa.Ints Go.Proofs.Ytldgadmpclgfhaa.Ctls Go.Proofs.Ytldgadmpclgfhaa.Exits Go.Proofs.Ytldgadmpclgfhaa.Stt Go.Proofs.Ytldgadmpclgfhaa.Irqs
set_option linter.unusedVariables false
set_option linter.unusedSimpArgs false
theorem pcells_s : ∀ l : List (Int × Int), pcells l = Slots.scells l
  | [] => rfl
  | s :: l => by rw [Slots.scells, ← pcells_s l]; rfl
theorem pcells_j : ∀ l : List (Int × Int), pcells l = Inss.jcells l
  | [] => rfl
  | s :: l => by rw [Inss.jcells, ← pcells_j l]; rfl
theorem below_same {w w' : World} (h : w = w') : Below w.heap.size w w' := h ▸ Below.refl _ _
end Go.Proofs.Ytldgadmpclgfhaa.Guests
namespace Go.Proofs.Ytldgadmpclgfhaa.Sx
set_option maxRecDepth 100000
open Go.ChangeShapes Go.WideShapes Go.ChangeAt Go.RowKit Go.Deep
open Go.Proofs.Ytldgadmpclgfhaa.Base Go.Proofs.Ytldgadmpclgfhaa.Mem Go.Proofs.Ytldgadmpclgfhaa.Data Go.Proofs.Ytldgadmpclgfhaa.Stt
set_option linter.unusedVariables false
set_option linter.unusedSimpArgs false
section
variable {α : Type} {r : Rp α} {P : Program} {n : Nat} {ops : Array Oper} {Q : Exit → Act → World → Prop} {Z : World → Prop} {w0 : World} {T : Tl} {L L' : List Res} {rest : List Oper} {l : List Oper} {o : Oper} {t : Ord.Ot} {w : World}
theorem G.claims (h : ∀ w, St w0 w L → St w0 w L') (k : G P n ops Q w0 T L' rest) : G P n ops Q w0 T L rest := fun a w hA S => k a w hA (h w S)
theorem GT.claims (h : ∀ w, St w0 w L → St w0 w L') (k : GT P n ops Q Z w0 T L' t) : GT P n ops Q Z w0 T L t := fun a w hA S => k a w hA (h w S)
theorem Alone.claims {i : Nat} (h : ∀ w, St w0 w L → St w0 w L') (k : Alone P n ops Q Z w0 T L' i t) : Alone P n ops Q Z w0 T L i t := fun a w hA S => k a w hA (h w S)
theorem C.claims {c : Code} (h : ∀ w, St w0 w L → St w0 w L') (k : C P n Q w0 T L' c) : C P n Q w0 T L c := fun a w hA S => k a w hA (h w S)
theorem G.turn {ι : Type} {p : ι → Prop} (L' : ι → List Res) (h : ∀ w, St w0 w L → ∃ x, p x ∧ St w0 w (L' x)) (k : ∀ x, p x → G P n ops Q w0 T (L' x) rest) : G P n ops Q w0 T L rest := fun a w hA S => by
  obtain ⟨x, hp, S'⟩ := h w S
  exact k x hp a w hA S'
theorem GT.turn {ι : Type} {p : ι → Prop} (L' : ι → List Res) (h : ∀ w, St w0 w L → ∃ x, p x ∧ St w0 w (L' x)) (k : ∀ x, p x → GT P n ops Q Z w0 T (L' x) t) : GT P n ops Q Z w0 T L t := fun a w hA S => by
  obtain ⟨x, hp, S'⟩ := h w S
  exact k x hp a w hA S'
theorem G.know {p : Prop} (h : ∀ w, St w0 w L → p) (k : p → G P n ops Q w0 T L rest) : G P n ops Q w0 T L rest := fun a w hA S => k (h w S) a w hA S
theorem GT.know {p : Prop} (h : ∀ w, St w0 w L → p) (k : p → GT P n ops Q Z w0 T L t) : GT P n ops Q Z w0 T L t := fun a w hA S => k (h w S) a w hA S
theorem Alone.fresh {β : Type} {i : Nat} (e : TypeId) (q : Rp β) (ho : l[i]? = some o) (hc : chk n T l.toArray o = true) (hr : ∀ w : World, (execOp (ev T) o).run P w = .ok (.value (.slice (some ⟨w.heap.size, 0, none⟩) 0 0)) (w.alloc (.cells #[] e))) (hZ : ∀ w, St w0 w L → Z w)
    (k : ∀ b hi, GT P n l.toArray Q Z w0 (up o.dst (.slice (some ⟨b, 0, none⟩) 0 0) T) (ow (rLst e q) b hi [] [.slice (some ⟨b, 0, none⟩) 0 0] [b] :: L) t) : Alone P n l.toArray Q Z w0 T L i t :=
  Alone.turns ho hc fun w S => ⟨_, _, _, hr w, S.fresh e q, fun w S => hZ w (St.tail S), k _ _⟩
theorem Alone.hsto {j' : Nat} {off lo hi k size : Nat} {pre post : List α} {es : List Value} {F1 F2 : List Nat} (ty : TypeId) (x y : Operand) (b p j i : Nat) (us es' : List Value) (L' : List Res) (ho : l[j']? = some o) (hop : o.op = .store ty x y) (hc : chk n T l.toArray o = true) (hx : ev T x = .pointer (some ⟨b, p, none⟩)) (hy : (ev T y).cells = us.toArray) (hL : L[i]? = some (hole r b off lo hi pre post es F1 F2)) (hk : pre.length = k) (hz : r.sz = size) (hp : p = off + k * size + j)
    (hes : (us.foldl (fun (p : List Value × Nat) u => (p.1.set p.2 u, p.2 + 1)) (es, j)).1 = es') (hL' : L.set i (hole r b off lo hi pre post es' F1 F2) = L') (hl : Nat.ble (j + us.length) es.length = true) (hi' : (P.info? ty).map (·.size) = some us.length) (h1 : us.all (·.oneCell') = true)
    (hZ : ∀ w, St w0 w L' → Z w) (kk : GT P n l.toArray Q Z w0 (up o.dst undef T) L' t) : Alone P n l.toArray Q Z w0 T L j' t :=
  Alone.acts ho hc fun w S => by
    have hl' : j + us.length ≤ es.length := Nat.le_of_ble_eq_true hl
    have ht : w.there b p us.toArray.size := fun q hq => by
      have hq' : j + q < es.length := by simp at hq; omega
      have := hole_cell (S.at_ i hL) hk hz (j + q) (List.getElem?_eq_getElem hq')
      rw [← Nat.add_assoc, ← hp] at this
      exact ⟨by rw [this.1]; rfl, this.2⟩
    refine ⟨w.setCells b p us, L', ?_, ?_, hZ, kk⟩
    · unfold execOp
      have hcells : (storeVar ty ⟨b, p, none⟩ (ev T y)).run P w = (storeVar ty ⟨b, p, none⟩ (.agg us.toArray)).run P w := by
        unfold storeVar
        rw [hy]
        rfl
      have hs := run_storeVar_mid (P := P) w b p ty us.toArray ht (by simpa using hi') (by simpa using h1)
      simp only [hop, Sem.run_bind, Instr.storeAt, Instr.sureAddr, hx, Sem.run_pure, Result.andThen_ok, hcells, hs]
    · subst hL' hp
      exact St.holeSets S i hL hk hz j us es' hes hl'
end
end Go.Proofs.Ytldgadmpclgfhaa.Sx
namespace Go.Proofs.Ytldgadmpclgfhaa.Kit
set_option maxRecDepth 100000
open Go.ChangeShapes Go.WideShapes Go.ChangeAt Go.RowKit Go.Deep
open Go.Proofs.Ytldgadmpclgfhaa.Base Go.Proofs.Ytldgadmpclgfhaa.Mem Go.Proofs.Ytldgadmpclgfhaa.Data Go.Proofs.Ytldgadmpclgfhaa.Stt Go.Proofs.Ytldgadmpclgfhaa.Guests Go.Proofs.Ytldgadmpclgfhaa.Ctls Go.Proofs.Ytldgadmpclgfhaa.Exits
set_option linter.unusedVariables false
set_option linter.unusedSimpArgs false
theorem cap_G {g : gT} (h : wG.cap g) : rG.cap g := h
theorem rd_G {w : World} {lo hi : Nat} {g : gT} {cs : List Value} (h : wG.rd w lo hi g cs) : rG.rd w lo hi g cs := h
end Go.Proofs.Ytldgadmpclgfhaa.Kit
namespace Go.Proofs.Ytldgadmpclgfhaa.Kit
set_option maxRecDepth 100000
open Go.ChangeShapes Go.WideShapes Go.ChangeAt Go.RowKit Go.Deep
open Go.Proofs.Ytldgadmpclgfhaa.Base Go.Proofs.Ytldgadmpclgfhaa.Mem Go.Proofs.Ytldgadmpclgfhaa.Data Go.Proofs.Ytldgadmpclgfhaa.Stt
set_option linter.unusedVariables false
set_option linter.unusedSimpArgs false
section
variable {P : Program} {t e : TypeId}
theorem opens_lsw {α : Type} {r : Rp α} (hs : 0 < r.sz) (ht : P.underlying t = some (.slice e)) (hc : P.cellsOf e = r.sz) (he : Opens P r e) : Opens P (rLsw r) t := fun H enc w fuel cs x h => by
  rcases open_slice ht h with ⟨rfl, _⟩ | ⟨a, len, cap, m, n, D, Pl, rfl, hb, hl, hm, hmm, _, hx⟩
  · exact ⟨[], ⟨none, 0, [], rfl, Nat.le_refl _, rfl, Lies.nil⟩, ⟨Nat.zero_le _, fun x hx => by cases hx⟩⟩
  · have hmc : m = cap := by simpa using hmm
    subst hmc
    have each : ∀ i, i < len → ∃ y : List Value × α, y.1.length = r.sz ∧ (∀ j, j < r.sz → w.cell? ((a.add (i * r.sz)).add j) = y.1[j]?) ∧ r.rd w 0 w.heap.size y.2 y.1 ∧ r.wf y.2 := fun i hi => by
      obtain ⟨cs', h1, h2⟩ := hx i (by omega)
      obtain ⟨v, hv, hw⟩ := he H enc w n cs' _ h2
      rw [hc] at h1
      obtain ⟨_, hlen, hcell⟩ := World.cells?_some h1
      exact ⟨(cs', v), hlen, hcell, hv, hw⟩
    by_cases h0 : len = 0
    · subst h0
      exact ⟨[], ⟨some a, m, [], rfl, Nat.zero_le _, rfl, Lies.nil⟩, ⟨Nat.zero_le _, fun x hx => by cases hx⟩⟩
    have hin : Inhabited (List Value × α) := ⟨(each 0 (by omega)).choose⟩
    obtain ⟨f, hf⟩ := choose_lt each
    refine ⟨(List.range len).map fun i => (f i).2, ⟨some a, m, (List.range len).flatMap fun i => (f i).1, by simp, by simp; omega, rdAll_map _ fun i hi => (hf i (List.mem_range.1 hi)).2.2.1, ?_⟩, ⟨by simp; omega, fun x hx => ?_⟩⟩
    · intro j u hu
      have hL := flatMap_len (g := fun i => (f i).1) (s := r.sz) len fun i hi => (hf i hi).1
      have hj : j < len * r.sz := by
        have := (List.getElem?_eq_some_iff.1 hu).1
        omega
      rw [flatMap_get hs len (fun i hi => (hf i hi).1) j hj] at hu
      have hd : j / r.sz < len := Nat.div_lt_of_lt_mul (by rwa [Nat.mul_comm] at hj)
      have hc1 := (hf (j / r.sz) hd).2.1 (j % r.sz) (Nat.mod_lt _ hs)
      have hc1 := hc1.trans hu
      rw [add_add, show j / r.sz * r.sz + j % r.sz = j by rw [Nat.mul_comm]; exact Nat.div_add_mod j r.sz] at hc1
      have hc0 := (hf 0 (by omega)).2.1 0 hs
      rw [List.getElem?_eq_getElem (by rw [(hf 0 (by omega)).1]; exact hs)] at hc0
      obtain ⟨ab, ao, spot⟩ := a
      have hsp : spot = none := by simpa [Addr.add] using World.cell?_spot hc0
      subst hsp
      rw [Addr.add_lit] at hc1
      exact ⟨ab, ao, rfl, Nat.zero_le _, World.block_lt_of_cell? w _ hc1, hc1⟩
    · obtain ⟨i, hi, rfl⟩ := List.mem_map.1 hx
      exact (hf i (List.mem_range.1 hi)).2.2.2
end
section
variable {P : Program} {t e : TypeId}
variable {α : Type} {r : Rp α} {H : Type} {enc : TypeId × Value → H} {W : World} {base : Nat} {v : Value} {d : DataW H} {p : List MemPlace}
theorem open_struct {fs : Array Field} (ht : P.underlying t = some (.struct fs)) (hO : Opens P r t) (hval : Value.okWide P W .any base t v) (h : DataW.Trod enc P W 0 (fun _ => true) true t v d p) : ∃ x cs, v = .agg (cs : List Value).toArray ∧ r.wf x ∧ r.rd W 0 W.heap.size x cs := by
  obtain ⟨fuel, hf⟩ := h
  obtain ⟨x, hx, wx⟩ := hO H enc W fuel _ _ hf
  have hv : ∃ cs, v = .agg cs := by
    unfold Value.okWide at hval
    rw [ht] at hval
    obtain ⟨cs, e, _⟩ := hval
    exact ⟨cs, e⟩
  obtain ⟨cs, rfl⟩ := hv
  exact ⟨x, cs.toList, by simp, wx, by simpa [Value.cells] using hx⟩
end
end Go.Proofs.Ytldgadmpclgfhaa.Kit
namespace Go.Proofs.Ytldgadmpclgfhaa.Kit
set_option maxRecDepth 100000
open Go.ChangeShapes Go.WideShapes Go.ChangeAt Go.RowKit Go.Deep
open Go.Proofs.Ytldgadmpclgfhaa.Base Go.Proofs.Ytldgadmpclgfhaa.Mem Go.Proofs.Ytldgadmpclgfhaa.Data Go.Proofs.Ytldgadmpclgfhaa.Stt Go.Proofs.Ytldgadmpclgfhaa.Guests Go.Proofs.Ytldgadmpclgfhaa.Ctls Go.Proofs.Ytldgadmpclgfhaa.Exits
set_option linter.unusedVariables false
set_option linter.unusedSimpArgs false
theorem laid : laidOutB Try.prog = true := by kernel_rfl
theorem capz_Int (x : Int) (h : rInt.size x ≤ 1048576) : rInt.cap x := trivial
theorem cntz_Int (x : Int) : rInt.cnt x ≤ 16 * rInt.size x + 1 := by show 1 ≤ _; omega
theorem capz_Slot (x : (Int × Int)) (h : (rPair rInt rInt).size x ≤ 1048576) : (rPair rInt rInt).cap x := ⟨trivial, trivial⟩
theorem cntz_Slot (x : (Int × Int)) : (rPair rInt rInt).cnt x ≤ 16 * (rPair rInt rInt).size x + 2 := Nat.le_trans (Nat.le_of_eq (show (rPair rInt rInt).cnt x = 2 from rfl)) (Nat.le_add_left _ _)
theorem kopens_Slot : Opens Try.prog (rPair rInt rInt) 132 := opens_struct Try.underlying132 (by kernel_rfl) (fields_cons (opens_int Try.underlying3) rfl (by kernel_rfl) (fields_one (opens_int Try.underlying3) rfl (by kernel_rfl)))
theorem capz_Ins (x : (Int × Int)) (h : (rPair rInt rInt).size x ≤ 1048576) : (rPair rInt rInt).cap x := ⟨trivial, trivial⟩
theorem cntz_Ins (x : (Int × Int)) : (rPair rInt rInt).cnt x ≤ 16 * (rPair rInt rInt).size x + 2 := Nat.le_trans (Nat.le_of_eq (show (rPair rInt rInt).cnt x = 2 from rfl)) (Nat.le_add_left _ _)
theorem kopens_Ins : Opens Try.prog (rPair rInt rInt) 113 := opens_struct Try.underlying113 (by kernel_rfl) (fields_cons (opens_int Try.underlying3) rfl (by kernel_rfl) (fields_one (opens_int Try.underlying3) rfl (by kernel_rfl)))
theorem kopens_Ctl : Opens Try.prog rCtl 59 := opens_struct Try.underlying59 (by kernel_rfl) (fields_cons (opens_int Try.underlying3) rfl (by kernel_rfl) (fields_cons (opens_int Try.underlying3) rfl (by kernel_rfl) (fields_one (opens_bool Try.underlying4) rfl (by kernel_rfl))))
theorem kopens_Exit : Opens Try.prog rExit 60 := opens_struct Try.underlying60 (by kernel_rfl) (fields_cons (opens_int Try.underlying3) rfl (by kernel_rfl) (fields_cons (opens_int Try.underlying3) rfl (by kernel_rfl) (fields_cons (opens_bool Try.underlying4) rfl (by kernel_rfl) (fields_one (opens_int Try.underlying3) rfl (by kernel_rfl)))))
theorem capz_IntS (x : (List Int)) (h : (rLsw rInt).size x ≤ 1048576) : (rLsw rInt).cap x := capz (r := rInt) capz_Int h
theorem cntz_IntS (x : (List Int)) : (rLsw rInt).cnt x ≤ 16 * (rLsw rInt).size x + 0 := cntz (r := rInt) cntz_Int (by decide) x
theorem kopens_IntS : Opens Try.prog (rLsw rInt) 26 := opens_lsw (by decide) Try.underlying26 (by kernel_rfl) (opens_int Try.underlying3)
theorem capz_SlotS (x : (List (Int × Int))) (h : (rLsw (rPair rInt rInt)).size x ≤ 1048576) : (rLsw (rPair rInt rInt)).cap x := capz (r := (rPair rInt rInt)) capz_Slot h
theorem cntz_SlotS (x : (List (Int × Int))) : (rLsw (rPair rInt rInt)).cnt x ≤ 16 * (rLsw (rPair rInt rInt)).size x + 0 := cntz (r := (rPair rInt rInt)) cntz_Slot (by decide) x
theorem kopens_SlotS : Opens Try.prog (rLsw (rPair rInt rInt)) 58 := opens_lsw (by decide) Try.underlying58 (by kernel_rfl) kopens_Slot
theorem capz_InsS (x : (List (Int × Int))) (h : (rLsw (rPair rInt rInt)).size x ≤ 1048576) : (rLsw (rPair rInt rInt)).cap x := capz (r := (rPair rInt rInt)) capz_Ins h
theorem cntz_InsS (x : (List (Int × Int))) : (rLsw (rPair rInt rInt)).cnt x ≤ 16 * (rLsw (rPair rInt rInt)).size x + 0 := cntz (r := (rPair rInt rInt)) cntz_Ins (by decide) x
theorem kopens_InsS : Opens Try.prog (rLsw (rPair rInt rInt)) 57 := opens_lsw (by decide) Try.underlying57 (by kernel_rfl) kopens_Ins
theorem capz_Guest (x : gT) (h : wG.size x ≤ 1048576) : wG.cap x := by
  rw [size_Guest] at h
  exact ⟨capz_InsS x.prog (show x.prog.length + sizeAll (rPair rInt rInt) x.prog ≤ 1048576 by omega), trivial, trivial, capz_SlotS x.wr (show x.wr.length + sizeAll (rPair rInt rInt) x.wr ≤ 1048576 by omega), capz_SlotS x.lv (show x.lv.length + sizeAll (rPair rInt rInt) x.lv ≤ 1048576 by omega), ⟨trivial, trivial, trivial⟩, trivial, ⟨trivial, trivial, trivial, trivial⟩, trivial, capz_IntS x.seen (show x.seen.length + sizeAll rInt x.seen ≤ 1048576 by omega)⟩
theorem cntz_Guest (x : gT) : wG.cnt x ≤ 16 * wG.size x + 11 := by
  have h0 : cntAll (rPair rInt rInt) x.prog ≤ 16 * (x.prog.length + sizeAll (rPair rInt rInt) x.prog) := cntz_InsS x.prog
  have h1 : cntAll (rPair rInt rInt) x.wr ≤ 16 * (x.wr.length + sizeAll (rPair rInt rInt) x.wr) := cntz_SlotS x.wr
  have h2 : cntAll (rPair rInt rInt) x.lv ≤ 16 * (x.lv.length + sizeAll (rPair rInt rInt) x.lv) := cntz_SlotS x.lv
  have h3 : cntAll rInt x.seen ≤ 16 * (x.seen.length + sizeAll rInt x.seen) := cntz_IntS x.seen
  rw [cnt_Guest, size_Guest]; omega
theorem kopens_Guest : Opens Try.prog wG 62 := opens_via (fun _ => rfl) (opens_struct Try.underlying62 (by kernel_rfl) (fields_cons kopens_InsS rfl (by kernel_rfl) (fields_cons (opens_int Try.underlying3) rfl (by kernel_rfl) (fields_cons (opens_int Try.underlying3) rfl (by kernel_rfl) (fields_cons kopens_SlotS rfl (by kernel_rfl) (fields_cons kopens_SlotS rfl (by kernel_rfl) (fields_cons kopens_Ctl rfl (by kernel_rfl) (fields_cons (opens_int Try.underlying3) rfl (by kernel_rfl) (fields_cons kopens_Exit rfl (by kernel_rfl) (fields_cons (opens_bool Try.underlying4) rfl (by kernel_rfl) (fields_one kopens_IntS rfl (by kernel_rfl))))))))))))
theorem capz_IntSS (x : (List (List Int))) (h : (rLsw (rLsw rInt)).size x ≤ 1048576) : (rLsw (rLsw rInt)).cap x := capz (r := (rLsw rInt)) capz_IntS h
theorem cntz_IntSS (x : (List (List Int))) : (rLsw (rLsw rInt)).cnt x ≤ 16 * (rLsw (rLsw rInt)).size x + 0 := cntz (r := (rLsw rInt)) cntz_IntS (by decide) x
theorem kopens_IntSS : Opens Try.prog (rLsw (rLsw rInt)) 24 := opens_lsw (by decide) Try.underlying24 (by kernel_rfl) kopens_IntS
theorem capz_GuestS (x : (List gT)) (h : (rLsw wG).size x ≤ 1048576) : (rLsw wG).cap x := capz (r := wG) capz_Guest h
theorem cntz_GuestS (x : (List gT)) : (rLsw wG).cnt x ≤ 16 * (rLsw wG).size x + 0 := cntz (r := wG) cntz_Guest (by decide) x
theorem kopens_GuestS : Opens Try.prog (rLsw wG) 37 := opens_lsw (by decide) Try.underlying37 (by kernel_rfl) kopens_Guest
theorem capz_Bare (x : bT) (h : wB.size x ≤ 1048576) : wB.cap x := by
  rw [size_Bare] at h
  exact ⟨capz_IntSS x.mem (show x.mem.length + sizeAll (rLsw rInt) x.mem ≤ 1048576 by omega), capz_GuestS x.gs (show x.gs.length + sizeAll wG x.gs ≤ 1048576 by omega), capz_IntS x.outs (show x.outs.length + sizeAll rInt x.outs ≤ 1048576 by omega), trivial⟩
theorem tcntz_Bare (x : bT) : wB.tcnt x ≤ 16 * wB.size x := by
  have h0 : cntAll (rLsw rInt) x.mem ≤ 16 * (x.mem.length + sizeAll (rLsw rInt) x.mem) := cntz_IntSS x.mem
  have h1 : cntAll wG x.gs ≤ 16 * (x.gs.length + sizeAll wG x.gs) := cntz_GuestS x.gs
  have h2 : cntAll rInt x.outs ≤ 16 * (x.outs.length + sizeAll rInt x.outs) := cntz_IntS x.outs
  rw [tcnt_Bare, size_Bare]; omega
theorem kopens_Bare : Opens Try.prog wB 39 := opens_via (fun _ => rfl) (opens_struct Try.underlying39 (by kernel_rfl) (fields_cons kopens_IntSS rfl (by kernel_rfl) (fields_cons kopens_GuestS rfl (by kernel_rfl) (fields_cons kopens_IntS rfl (by kernel_rfl) (fields_one (opens_int Try.underlying3) rfl (by kernel_rfl))))))
theorem open_Bare {H : Type} {enc : TypeId × Value → H} {W : World} {base : Nat} {v : Value} {d : DataW H} {p : List MemPlace} (hval : Value.okWide Try.prog W .any base 39 v) (h : DataW.Trod enc Try.prog W 0 (fun _ => true) true 39 v d p) : ∃ (x : bT) (cs : List Value), v = .agg cs.toArray ∧ wB.wf x ∧ wB.rd W 0 W.heap.size x cs := open_struct Try.underlying39 kopens_Bare hval h
end Go.Proofs.Ytldgadmpclgfhaa.Kit
namespace Go.Proofs.Ytldgadmpclgfhaa.Addrs
set_option maxRecDepth 100000
open Go.ChangeShapes Go.WideShapes Go.ChangeAt Go.RowKit
open Go.Proofs.Ytldgadmpclgfhaa.Base
set_option linter.unusedVariables false
theorem range {x : Int} (h : (Lit.int .i64 x).wf = true) : -9223372036854775808 ≤ x ∧ x ≤ 9223372036854775807 := by
  have hm : IntKind.i64.min = -9223372036854775808 := by decide
  rw [← hm]; simpa [Lit.wf] using h
end Go.Proofs.Ytldgadmpclgfhaa.Addrs
namespace Go.Proofs.Ytldgadmpclgfhaa.Inss
set_option maxRecDepth 100000
open Go.ChangeShapes Go.WideShapes Go.ChangeAt Go.RowKit
open Go.Proofs.Ytldgadmpclgfhaa.Base Go.Proofs.Ytldgadmpclgfhaa.Mem Go.Proofs.Ytldgadmpclgfhaa.Data Go.Proofs.Ytldgadmpclgfhaa.Addrs Go.Proofs.Ytldgadmpclgfhaa.Rights
set_option linter.unusedVariables false
set_option linter.unusedSimpArgs false
def insOk (s : JT) : Bool :=
  if s.1 = 1 ∨ s.1 = 2 ∨ s.1 = 5 ∨ s.1 = 6 then inB s.2 0 99
  else if s.1 = 3 ∨ s.1 = 4 then inB s.2 0 15
  else if s.1 = 7 then s.2 == 0
  else if s.1 = 8 then inB s.2 0 11
  else false
def progOk (l : List JT) : Bool := l.all insOk && inB l.length 1 12
theorem op_cases (o : Int) : o = 1 ∨ o = 2 ∨ o = 5 ∨ o = 6 ∨ o = 3 ∨ o = 4 ∨ o = 7 ∨ o = 8 ∨ ((o == 1) = false ∧ (o == 2) = false ∧ (o == 3) = false ∧ (o == 4) = false ∧ (o == 5) = false ∧ (o == 6) = false ∧ (o == 7) = false ∧ (o == 8) = false) := by
  simp only [beq_eq_false_iff_ne, ne_eq]
  omega
theorem insOk_else {o x : Int} (h : (o == 1) = false ∧ (o == 2) = false ∧ (o == 3) = false ∧ (o == 4) = false ∧ (o == 5) = false ∧ (o == 6) = false ∧ (o == 7) = false ∧ (o == 8) = false) : insOk (o, x) = false := by
  simp only [beq_eq_false_iff_ne, ne_eq] at h
  simp [insOk, h]
set_option maxHeartbeats 4000000 in
theorem spec_insOk (o x : Int) (w : World) :
    Calls Try.prog 123 #[.agg #[.int .i64 o, .int .i64 x]] w fun e w' => e = .returned (.bool (insOk (o, x))) ∧ Below w.heap.size w w' := by
  have K1 := Lib.hid (fun V : World => spec_in x 0 99 V)
  have K2 := Lib.hid (fun V : World => spec_in x 0 15 V)
  have K3 := Lib.hid (fun V : World => spec_in x 0 11 V)
  have HB := Lib.hid ((Below.refl w.heap.size w).alloc (Nat.le_refl _) (.cells #[.int .i64 o, .int .i64 x] 111))
  rcases op_cases o with rfl | rfl | rfl | rfl | rfl | rfl | rfl | rfl | h
  iterate 4
    · first | rw [show insOk (1, x) = inB x 0 99 from rfl] | rw [show insOk (2, x) = inB x 0 99 from rfl] | rw [show insOk (5, x) = inB x 0 99 from rfl] | rw [show insOk (6, x) = inB x 0 99 from rfl]
      go_enter Try.func123, Try.ntmps123
      go_wp2_with fail
      refine (K1.out _).mono ?_
      rintro e w' ⟨rfl, rfl⟩
      go_wp2_with fail
      go_ret
      exact ⟨rfl, HB.out⟩
  iterate 2
    · first | rw [show insOk (3, x) = inB x 0 15 from rfl] | rw [show insOk (4, x) = inB x 0 15 from rfl]
      go_enter Try.func123, Try.ntmps123
      go_wp2_with fail
      refine (K2.out _).mono ?_
      rintro e w' ⟨rfl, rfl⟩
      go_wp2_with fail
      go_ret
      exact ⟨rfl, HB.out⟩
  · have HV := Lib.hid (show insOk (7, x) = (x == 0) from rfl)
    go_enter Try.func123, Try.ntmps123
    go_wp2_with fail
    go_ret
    exact ⟨by rw [HV.out]; rfl, HB.out⟩
  · have HV := Lib.hid (show insOk (8, x) = inB x 0 11 from rfl)
    go_enter Try.func123, Try.ntmps123
    go_wp2_with fail
    refine (K3.out _).mono ?_
    rintro e w' ⟨rfl, rfl⟩
    go_wp2_with fail
    go_ret
    exact ⟨by rw [HV.out]; rfl, HB.out⟩
  · have HV := Lib.hid (insOk_else (x := x) h)
    obtain ⟨h1, h2, h3, h4, h5, h6, h7, h8⟩ := h
    go_enter Try.func123, Try.ntmps123
    go_wp2_with fail
    go_ret
    exact ⟨by rw [HV.out]; rfl, HB.out⟩
theorem progOk_yes {l : List JT} (h : ∀ (j : Nat) (hj : j < l.length), insOk l[j] = true) : progOk l = inB l.length 1 12 := by
  unfold progOk
  rw [show l.all insOk = true from List.all_eq_true.2 (fun s hs => by obtain ⟨j, hj, rfl⟩ := List.getElem_of_mem hs; exact h j hj), Bool.true_and]
theorem progOk_no {l : List JT} {k : Nat} (hk : k < l.length) (h : insOk l[k] = false) : progOk l = false := by
  unfold progOk
  rw [show l.all insOk = false from List.all_eq_false.2 ⟨l[k], List.getElem_mem hk, by simp [h]⟩, Bool.false_and]
set_option maxHeartbeats 2000000 in
theorem spec_progOk (A : Option Addr) (n c lo : Nat) (l : List JT) (w : World) (hn : n ≤ 1048576) (hl : l.length = n) (h1 : Lies w lo w.heap.size A (jcells l)) :
    Calls Try.prog 98 #[.slice A n c] w fun e w' => e = .returned (.bool (progOk l)) ∧ Below w.heap.size w w' := by
  have H1 := Lib.hid h1
  have HL := Lib.hid hl
  clear h1 hl
  go_enter Try.func98, Try.ntmps98
  go_wp2
  go_loopw [3] (fun i wr => ∃ (k : Nat), k ≤ n ∧ i = .int .i64 k ∧ (∀ (j : Nat) (hj : j < l.length), j < k → insOk l[j] = true) ∧ Below w.heap.size w wr) (fun i _ => n - (intOf i).toNat)
  case atStart => exact ⟨0, Nat.zero_le _, rfl, fun j hj h => absurd h (Nat.not_lt_zero _), Below.refl _ _⟩
  case round =>
    obtain ⟨k, hk, rfl, hall, hb⟩ := hrel
    have HA := Lib.hid hall
    have HB := Lib.hid hb
    clear hall
    by_cases hlt : k < n
    · have hkl : k < l.length := by have := HL.out; omega
      obtain ⟨b, off, rfl, _, hbw, c0, c1⟩ := j_at H1.out k hkl
      have d0 := (hb.cell (p := ⟨b, off + k * 2, none⟩) hbw).trans c0
      have d1 := (hb.cell (p := ⟨b, off + k * 2 + 1, none⟩) hbw).trans c1
      have hj0 : (0 : Int) ≤ (k : Int) := Int.natCast_nonneg _
      have hj1 : (k : Int) < (n : Int) := by omega
      have hcall := spec_insOk l[k].1 l[k].2 wr
      obtain ⟨v, hv⟩ : ∃ v, insOk l[k] = v := ⟨_, rfl⟩
      rw [show insOk (l[k].1, l[k].2) = v from hv] at hcall
      have HCALL := Lib.hid hcall
      have HV := Lib.hid hv
      clear hcall hv c0 c1 hb
      generalize l[k].1 = o at d0 HCALL
      generalize l[k].2 = x at d1 HCALL
      cases v
      · go_wp2_with fail
        refine HCALL.out.mono ?_
        rintro e w1 ⟨rfl, hb1⟩
        have HB1 := Lib.hid (btr HB.out hb1)
        clear hb1
        go_wp2_with fail
        go_ret
        exact ⟨by rw [progOk_no hkl HV.out]; rfl, HB1.out⟩
      · go_wp2_with fail
        refine HCALL.out.mono ?_
        rintro e w1 ⟨rfl, hb1⟩
        have HB1 := Lib.hid (btr HB.out hb1)
        clear hb1
        go_wp2_with fail
        go_roundw
        case rel =>
          refine ⟨k + 1, by omega, by go_num, fun j hj h => ?_, HB1.out⟩
          rcases Nat.lt_succ_iff_lt_or_eq.1 h with h2 | rfl
          · exact HA.out j hj h2
          · exact HV.out
        case measure => simp [intOf]; omega
    · obtain rfl : k = n := by omega
      have hv := progOk_yes (l := l) (fun j hj => HA.out j hj (by have := HL.out; omega))
      rw [HL.out] at hv
      have HV := Lib.hid hv
      have hcall := fun V : World => spec_in (k : Int) 1 12 V
      have HCALL := Lib.hid hcall
      clear hv hb hcall
      go_wp2_with fail
      refine (HCALL.out _).mono ?_
      rintro e w' ⟨rfl, rfl⟩
      go_wp2_with fail
      go_ret
      exact ⟨by rw [HV.out]; rfl, HB.out⟩
end Go.Proofs.Ytldgadmpclgfhaa.Inss
namespace Go.Proofs.Ytldgadmpclgfhaa.Slots
set_option maxRecDepth 100000
open Go.ChangeShapes Go.WideShapes Go.ChangeAt Go.RowKit
open Go.Proofs.Ytldgadmpclgfhaa.Base Go.Proofs.Ytldgadmpclgfhaa.Mem Go.Proofs.Ytldgadmpclgfhaa.Ints
theorem okS_cases2 (p r pages : Int) (hp : (Lit.int .i64 pages).wf = true) : (p = -1 ∧ r = 0 ∧ okS p r pages = true) ∨ (p = -1 ∧ r ≠ 0 ∧ inB p 0 (IntKind.i64.wrap (pages - 1)) = false ∧ okS p r pages = false) ∨
    (p ≠ -1 ∧ inB p 0 (IntKind.i64.wrap (pages - 1)) = false ∧ okS p r pages = false) ∨ (p ≠ -1 ∧ inB p 0 (IntKind.i64.wrap (pages - 1)) = true ∧ ¬ 0 < pages ∧ okS p r pages = false) ∨
    (p ≠ -1 ∧ inB p 0 (IntKind.i64.wrap (pages - 1)) = true ∧ 0 < pages ∧ inB r 1 3 = false ∧ okS p r pages = false) ∨ (p ≠ -1 ∧ inB p 0 (IntKind.i64.wrap (pages - 1)) = true ∧ 0 < pages ∧ inB r 1 3 = true ∧ okS p r pages = true) := by
  simp [Lit.wf] at hp
  have hp' : -9223372036854775808 ≤ pages ∧ pages ≤ 9223372036854775807 := hp
  rw [IntKind.wrap_i64]
  simp only [okS, decide_eq_true_eq, decide_eq_false_iff_not, inB_iff, inB_false]
  omega
set_option maxHeartbeats 4000000 in
theorem spec_okS (p r pages : Int) (w : World) (hp : (Lit.int .i64 pages).wf = true) :
    Calls Try.prog 124 #[.agg #[.int .i64 p, .int .i64 r], .int .i64 pages] w (OkPost w (okS p r pages)) := by
  obtain ⟨k0, k1, hW, hsz⟩ := boxed w (.int .i64 p) (.int .i64 r) 129
  have q1 := fun V : World => spec_in p 0 (IntKind.i64.wrap (pages - 1)) V
  have q2 := fun V : World => spec_in r 1 3 V
  rcases okS_cases2 p r pages hp with ⟨rfl, rfl, h⟩ | ⟨rfl, h0, h1, h⟩ | ⟨h0, h1, h⟩ | ⟨h0, h1, h2, h⟩ | ⟨h0, h1, h2, h3, h⟩ | ⟨h0, h1, h2, h3, h⟩
  · have HH := Lib.hid h
    clear h q1 q2 hp
    go_enter Try.func124, Try.ntmps124
    go_wp2_with fail
    generalize w.alloc (.cells #[.int .i64 (-1), .int .i64 0] 129) = W at k0 k1 hW hsz ⊢
    refine Ord.wp_region_ord (fun w' => w'.cell? ⟨w.heap.size, 0, none⟩ = some (.int .i64 (-1)) ∧ w'.cell? ⟨w.heap.size, 1, none⟩ = some (.int .i64 0)) [(0, true), (1, false), (2, true), (3, true), (4, true), (5, true), (6, true), (7, true), (8, false), (9, true), (10, true), (11, true), (12, true), (13, true), (14, true), (15, true), (16, false), (17, true), (18, true), (19, true)] (by kernel_rfl) (by kernel_rfl) rfl (by kernel_rfl) ⟨k0, k1⟩ ?_
    simp only [Ord.ordOps, List.getElem?_toArray, List.getElem?_cons_zero, List.getElem?_cons_succ]
    repeat (first
      | (refine Ord.ord_plain (v := ?_) rfl (fun w' hS => ?_) ?_; rotate_left; (focus ((try dsimp only at hS); go_simp; first | done | with_reducible rfl)); simp only [Act.put, List.setIfInBounds_toArray, List.set_cons_zero, List.set_cons_succ])
      | (refine Ord.ord_skip (by rfl) ?_; simp only [Act.put, List.setIfInBounds_toArray, List.set_cons_zero, List.set_cons_succ])
      | (refine Ord.ord_take (v := ?_) (by rfl) (fun w' hS => ?_) ?_; rotate_left; (focus ((try dsimp only at hS); go_simp; first | done | with_reducible rfl)); simp only [Act.put, List.setIfInBounds_toArray, List.set_cons_zero, List.set_cons_succ]))
    refine Ord.ord_call (fun K hK => ?_)
    go_simp
    go_wp2_with (go_at_call 120; refine (spec_no _).mono ?_; rintro e w1 ⟨rfl, hb1⟩)
    refine hK.out _ _ (⟨(hb1.cell (p := ⟨w.heap.size, 0, none⟩) hsz).trans k0, (hb1.cell (p := ⟨w.heap.size, 1, none⟩) hsz).trans k1⟩) ?_
    clear hK K
    repeat (first
      | (refine Ord.ord_plain (v := ?_) rfl (fun w' hS => ?_) ?_; rotate_left; (focus ((try dsimp only at hS); go_simp; first | done | with_reducible rfl)); simp only [Act.put, List.setIfInBounds_toArray, List.set_cons_zero, List.set_cons_succ])
      | (refine Ord.ord_skip (by rfl) ?_; simp only [Act.put, List.setIfInBounds_toArray, List.set_cons_zero, List.set_cons_succ])
      | (refine Ord.ord_take (v := ?_) (by rfl) (fun w' hS => ?_) ?_; rotate_left; (focus ((try dsimp only at hS); go_simp; first | done | with_reducible rfl)); simp only [Act.put, List.setIfInBounds_toArray, List.set_cons_zero, List.set_cons_succ]))
    refine Ord.ord_call (fun K hK => ?_)
    go_simp
    refine hK.out _ _ (⟨(hb1.cell (p := ⟨w.heap.size, 0, none⟩) hsz).trans k0, (hb1.cell (p := ⟨w.heap.size, 1, none⟩) hsz).trans k1⟩) ?_
    clear hK K
    repeat (first
      | (refine Ord.ord_plain (v := ?_) rfl (fun w' hS => ?_) ?_; rotate_left; (focus ((try dsimp only at hS); go_simp; first | done | with_reducible rfl)); simp only [Act.put, List.setIfInBounds_toArray, List.set_cons_zero, List.set_cons_succ])
      | (refine Ord.ord_skip (by rfl) ?_; simp only [Act.put, List.setIfInBounds_toArray, List.set_cons_zero, List.set_cons_succ])
      | (refine Ord.ord_take (v := ?_) (by rfl) (fun w' hS => ?_) ?_; rotate_left; (focus ((try dsimp only at hS); go_simp; first | done | with_reducible rfl)); simp only [Act.put, List.setIfInBounds_toArray, List.set_cons_zero, List.set_cons_succ]))
    refine Ord.ord_call (fun K hK => ?_)
    go_simp
    refine hK.out _ _ (⟨(hb1.cell (p := ⟨w.heap.size, 0, none⟩) hsz).trans k0, (hb1.cell (p := ⟨w.heap.size, 1, none⟩) hsz).trans k1⟩) ?_
    clear hK K
    repeat (first
      | (refine Ord.ord_plain (v := ?_) rfl (fun w' hS => ?_) ?_; rotate_left; (focus ((try dsimp only at hS); go_simp; first | done | with_reducible rfl)); simp only [Act.put, List.setIfInBounds_toArray, List.set_cons_zero, List.set_cons_succ])
      | (refine Ord.ord_skip (by rfl) ?_; simp only [Act.put, List.setIfInBounds_toArray, List.set_cons_zero, List.set_cons_succ])
      | (refine Ord.ord_take (v := ?_) (by rfl) (fun w' hS => ?_) ?_; rotate_left; (focus ((try dsimp only at hS); go_simp; first | done | with_reducible rfl)); simp only [Act.put, List.setIfInBounds_toArray, List.set_cons_zero, List.set_cons_succ]))
    refine Ord.ord_nil ?_
    have hbw : Below w.heap.size w w1 := hW.drew.trans (hb1.mono hW.size)
    clear hb1 k0 k1
    go_wp2_with fail
    go_ret
    exact ⟨by rw [HH.out]; rfl, hbw⟩
  · have HH := Lib.hid h
    have h0' : (r == 0) = false := by simpa using h0
    rw [h1] at q1
    have K1 := Lib.hid q1
    clear h q1 q2 hp h0 h1
    go_enter Try.func124, Try.ntmps124
    go_wp2_with fail
    generalize w.alloc (.cells #[.int .i64 (-1), .int .i64 r] 129) = W at k0 k1 hW hsz ⊢
    refine Ord.wp_region_ord (fun w' => w'.cell? ⟨w.heap.size, 0, none⟩ = some (.int .i64 (-1)) ∧ w'.cell? ⟨w.heap.size, 1, none⟩ = some (.int .i64 r)) [(0, true), (1, false), (2, true), (3, true), (4, true), (5, true), (6, true), (7, true), (8, false), (9, true), (10, true), (11, true), (12, true), (13, true), (14, true), (15, true), (16, false), (17, true), (18, true), (19, true)] (by kernel_rfl) (by kernel_rfl) rfl (by kernel_rfl) ⟨k0, k1⟩ ?_
    simp only [Ord.ordOps, List.getElem?_toArray, List.getElem?_cons_zero, List.getElem?_cons_succ]
    repeat (first
      | (refine Ord.ord_plain (v := ?_) rfl (fun w' hS => ?_) ?_; rotate_left; (focus ((try dsimp only at hS); go_simp; first | done | with_reducible rfl)); simp only [Act.put, List.setIfInBounds_toArray, List.set_cons_zero, List.set_cons_succ])
      | (refine Ord.ord_skip (by rfl) ?_; simp only [Act.put, List.setIfInBounds_toArray, List.set_cons_zero, List.set_cons_succ])
      | (refine Ord.ord_take (v := ?_) (by rfl) (fun w' hS => ?_) ?_; rotate_left; (focus ((try dsimp only at hS); go_simp; first | done | with_reducible rfl)); simp only [Act.put, List.setIfInBounds_toArray, List.set_cons_zero, List.set_cons_succ]))
    refine Ord.ord_call (fun K hK => ?_)
    go_simp
    go_wp2_with (go_at_call 120; refine (spec_no _).mono ?_; rintro e w1 ⟨rfl, hb1⟩)
    refine hK.out _ _ (⟨(hb1.cell (p := ⟨w.heap.size, 0, none⟩) hsz).trans k0, (hb1.cell (p := ⟨w.heap.size, 1, none⟩) hsz).trans k1⟩) ?_
    clear hK K
    repeat (first
      | (refine Ord.ord_plain (v := ?_) rfl (fun w' hS => ?_) ?_; rotate_left; (focus ((try dsimp only at hS); go_simp; first | done | with_reducible rfl)); simp only [Act.put, List.setIfInBounds_toArray, List.set_cons_zero, List.set_cons_succ])
      | (refine Ord.ord_skip (by rfl) ?_; simp only [Act.put, List.setIfInBounds_toArray, List.set_cons_zero, List.set_cons_succ])
      | (refine Ord.ord_take (v := ?_) (by rfl) (fun w' hS => ?_) ?_; rotate_left; (focus ((try dsimp only at hS); go_simp; first | done | with_reducible rfl)); simp only [Act.put, List.setIfInBounds_toArray, List.set_cons_zero, List.set_cons_succ]))
    refine Ord.ord_call (fun K hK => ?_)
    go_simp
    go_wp2_with (go_at_call 57; refine (K1.out _).mono ?_; rintro e w' ⟨rfl, rfl⟩)
    refine hK.out _ _ (⟨(hb1.cell (p := ⟨w.heap.size, 0, none⟩) hsz).trans k0, (hb1.cell (p := ⟨w.heap.size, 1, none⟩) hsz).trans k1⟩) ?_
    clear hK K
    repeat (first
      | (refine Ord.ord_plain (v := ?_) rfl (fun w' hS => ?_) ?_; rotate_left; (focus ((try dsimp only at hS); go_simp; first | done | with_reducible rfl)); simp only [Act.put, List.setIfInBounds_toArray, List.set_cons_zero, List.set_cons_succ])
      | (refine Ord.ord_skip (by rfl) ?_; simp only [Act.put, List.setIfInBounds_toArray, List.set_cons_zero, List.set_cons_succ])
      | (refine Ord.ord_take (v := ?_) (by rfl) (fun w' hS => ?_) ?_; rotate_left; (focus ((try dsimp only at hS); go_simp; first | done | with_reducible rfl)); simp only [Act.put, List.setIfInBounds_toArray, List.set_cons_zero, List.set_cons_succ]))
    refine Ord.ord_call (fun K hK => ?_)
    go_simp
    refine hK.out _ _ (⟨(hb1.cell (p := ⟨w.heap.size, 0, none⟩) hsz).trans k0, (hb1.cell (p := ⟨w.heap.size, 1, none⟩) hsz).trans k1⟩) ?_
    clear hK K
    repeat (first
      | (refine Ord.ord_plain (v := ?_) rfl (fun w' hS => ?_) ?_; rotate_left; (focus ((try dsimp only at hS); go_simp; first | done | with_reducible rfl)); simp only [Act.put, List.setIfInBounds_toArray, List.set_cons_zero, List.set_cons_succ])
      | (refine Ord.ord_skip (by rfl) ?_; simp only [Act.put, List.setIfInBounds_toArray, List.set_cons_zero, List.set_cons_succ])
      | (refine Ord.ord_take (v := ?_) (by rfl) (fun w' hS => ?_) ?_; rotate_left; (focus ((try dsimp only at hS); go_simp; first | done | with_reducible rfl)); simp only [Act.put, List.setIfInBounds_toArray, List.set_cons_zero, List.set_cons_succ]))
    refine Ord.ord_nil ?_
    have hbw : Below w.heap.size w w1 := hW.drew.trans (hb1.mono hW.size)
    clear hb1 k0 k1
    go_wp2_with fail
    go_ret
    exact ⟨by rw [HH.out]; rfl, hbw⟩
  · have HH := Lib.hid h
    have h0' : (p == -1) = false := by simpa using h0
    rw [h1] at q1
    have K1 := Lib.hid q1
    clear h q1 q2 hp h0 h1
    go_enter Try.func124, Try.ntmps124
    go_wp2_with fail
    generalize w.alloc (.cells #[.int .i64 p, .int .i64 r] 129) = W at k0 k1 hW hsz ⊢
    refine Ord.wp_region_ord (fun w' => w'.cell? ⟨w.heap.size, 0, none⟩ = some (.int .i64 p) ∧ w'.cell? ⟨w.heap.size, 1, none⟩ = some (.int .i64 r)) [(0, true), (1, false), (2, true), (3, true), (4, true), (5, true), (6, true), (7, true), (8, false), (9, true), (10, true), (11, true), (12, true), (13, true), (14, true), (15, true), (16, false), (17, true), (18, true), (19, true)] (by kernel_rfl) (by kernel_rfl) rfl (by kernel_rfl) ⟨k0, k1⟩ ?_
    simp only [Ord.ordOps, List.getElem?_toArray, List.getElem?_cons_zero, List.getElem?_cons_succ]
    repeat (first
      | (refine Ord.ord_plain (v := ?_) rfl (fun w' hS => ?_) ?_; rotate_left; (focus ((try dsimp only at hS); go_simp; first | done | with_reducible rfl)); simp only [Act.put, List.setIfInBounds_toArray, List.set_cons_zero, List.set_cons_succ])
      | (refine Ord.ord_skip (by rfl) ?_; simp only [Act.put, List.setIfInBounds_toArray, List.set_cons_zero, List.set_cons_succ])
      | (refine Ord.ord_take (v := ?_) (by rfl) (fun w' hS => ?_) ?_; rotate_left; (focus ((try dsimp only at hS); go_simp; first | done | with_reducible rfl)); simp only [Act.put, List.setIfInBounds_toArray, List.set_cons_zero, List.set_cons_succ]))
    refine Ord.ord_call (fun K hK => ?_)
    go_simp
    go_wp2_with (go_at_call 120; refine (spec_no _).mono ?_; rintro e w1 ⟨rfl, hb1⟩)
    refine hK.out _ _ (⟨(hb1.cell (p := ⟨w.heap.size, 0, none⟩) hsz).trans k0, (hb1.cell (p := ⟨w.heap.size, 1, none⟩) hsz).trans k1⟩) ?_
    clear hK K
    repeat (first
      | (refine Ord.ord_plain (v := ?_) rfl (fun w' hS => ?_) ?_; rotate_left; (focus ((try dsimp only at hS); go_simp; first | done | with_reducible rfl)); simp only [Act.put, List.setIfInBounds_toArray, List.set_cons_zero, List.set_cons_succ])
      | (refine Ord.ord_skip (by rfl) ?_; simp only [Act.put, List.setIfInBounds_toArray, List.set_cons_zero, List.set_cons_succ])
      | (refine Ord.ord_take (v := ?_) (by rfl) (fun w' hS => ?_) ?_; rotate_left; (focus ((try dsimp only at hS); go_simp; first | done | with_reducible rfl)); simp only [Act.put, List.setIfInBounds_toArray, List.set_cons_zero, List.set_cons_succ]))
    refine Ord.ord_call (fun K hK => ?_)
    go_simp
    go_wp2_with (go_at_call 57; refine (K1.out _).mono ?_; rintro e w' ⟨rfl, rfl⟩)
    refine hK.out _ _ (⟨(hb1.cell (p := ⟨w.heap.size, 0, none⟩) hsz).trans k0, (hb1.cell (p := ⟨w.heap.size, 1, none⟩) hsz).trans k1⟩) ?_
    clear hK K
    repeat (first
      | (refine Ord.ord_plain (v := ?_) rfl (fun w' hS => ?_) ?_; rotate_left; (focus ((try dsimp only at hS); go_simp; first | done | with_reducible rfl)); simp only [Act.put, List.setIfInBounds_toArray, List.set_cons_zero, List.set_cons_succ])
      | (refine Ord.ord_skip (by rfl) ?_; simp only [Act.put, List.setIfInBounds_toArray, List.set_cons_zero, List.set_cons_succ])
      | (refine Ord.ord_take (v := ?_) (by rfl) (fun w' hS => ?_) ?_; rotate_left; (focus ((try dsimp only at hS); go_simp; first | done | with_reducible rfl)); simp only [Act.put, List.setIfInBounds_toArray, List.set_cons_zero, List.set_cons_succ]))
    refine Ord.ord_call (fun K hK => ?_)
    go_simp
    refine hK.out _ _ (⟨(hb1.cell (p := ⟨w.heap.size, 0, none⟩) hsz).trans k0, (hb1.cell (p := ⟨w.heap.size, 1, none⟩) hsz).trans k1⟩) ?_
    clear hK K
    repeat (first
      | (refine Ord.ord_plain (v := ?_) rfl (fun w' hS => ?_) ?_; rotate_left; (focus ((try dsimp only at hS); go_simp; first | done | with_reducible rfl)); simp only [Act.put, List.setIfInBounds_toArray, List.set_cons_zero, List.set_cons_succ])
      | (refine Ord.ord_skip (by rfl) ?_; simp only [Act.put, List.setIfInBounds_toArray, List.set_cons_zero, List.set_cons_succ])
      | (refine Ord.ord_take (v := ?_) (by rfl) (fun w' hS => ?_) ?_; rotate_left; (focus ((try dsimp only at hS); go_simp; first | done | with_reducible rfl)); simp only [Act.put, List.setIfInBounds_toArray, List.set_cons_zero, List.set_cons_succ]))
    refine Ord.ord_nil ?_
    have hbw : Below w.heap.size w w1 := hW.drew.trans (hb1.mono hW.size)
    clear hb1 k0 k1
    go_wp2_with fail
    go_ret
    exact ⟨by rw [HH.out]; rfl, hbw⟩
  · have HH := Lib.hid h
    have h2' : decide (0 < pages) = false := by simpa using h2
    have h0' : (p == -1) = false := by simpa using h0
    rw [h1] at q1
    have K1 := Lib.hid q1
    clear h q1 q2 hp h0 h1 h2
    go_enter Try.func124, Try.ntmps124
    go_wp2_with fail
    generalize w.alloc (.cells #[.int .i64 p, .int .i64 r] 129) = W at k0 k1 hW hsz ⊢
    refine Ord.wp_region_ord (fun w' => w'.cell? ⟨w.heap.size, 0, none⟩ = some (.int .i64 p) ∧ w'.cell? ⟨w.heap.size, 1, none⟩ = some (.int .i64 r)) [(0, true), (1, false), (2, true), (3, true), (4, true), (5, true), (6, true), (7, true), (8, false), (9, true), (10, true), (11, true), (12, true), (13, true), (14, true), (15, true), (16, false), (17, true), (18, true), (19, true)] (by kernel_rfl) (by kernel_rfl) rfl (by kernel_rfl) ⟨k0, k1⟩ ?_
    simp only [Ord.ordOps, List.getElem?_toArray, List.getElem?_cons_zero, List.getElem?_cons_succ]
    repeat (first
      | (refine Ord.ord_plain (v := ?_) rfl (fun w' hS => ?_) ?_; rotate_left; (focus ((try dsimp only at hS); go_simp; first | done | with_reducible rfl)); simp only [Act.put, List.setIfInBounds_toArray, List.set_cons_zero, List.set_cons_succ])
      | (refine Ord.ord_skip (by rfl) ?_; simp only [Act.put, List.setIfInBounds_toArray, List.set_cons_zero, List.set_cons_succ])
      | (refine Ord.ord_take (v := ?_) (by rfl) (fun w' hS => ?_) ?_; rotate_left; (focus ((try dsimp only at hS); go_simp; first | done | with_reducible rfl)); simp only [Act.put, List.setIfInBounds_toArray, List.set_cons_zero, List.set_cons_succ]))
    refine Ord.ord_call (fun K hK => ?_)
    go_simp
    go_wp2_with (go_at_call 120; refine (spec_no _).mono ?_; rintro e w1 ⟨rfl, hb1⟩)
    refine hK.out _ _ (⟨(hb1.cell (p := ⟨w.heap.size, 0, none⟩) hsz).trans k0, (hb1.cell (p := ⟨w.heap.size, 1, none⟩) hsz).trans k1⟩) ?_
    clear hK K
    repeat (first
      | (refine Ord.ord_plain (v := ?_) rfl (fun w' hS => ?_) ?_; rotate_left; (focus ((try dsimp only at hS); go_simp; first | done | with_reducible rfl)); simp only [Act.put, List.setIfInBounds_toArray, List.set_cons_zero, List.set_cons_succ])
      | (refine Ord.ord_skip (by rfl) ?_; simp only [Act.put, List.setIfInBounds_toArray, List.set_cons_zero, List.set_cons_succ])
      | (refine Ord.ord_take (v := ?_) (by rfl) (fun w' hS => ?_) ?_; rotate_left; (focus ((try dsimp only at hS); go_simp; first | done | with_reducible rfl)); simp only [Act.put, List.setIfInBounds_toArray, List.set_cons_zero, List.set_cons_succ]))
    refine Ord.ord_call (fun K hK => ?_)
    go_simp
    go_wp2_with (go_at_call 57; refine (K1.out _).mono ?_; rintro e w' ⟨rfl, rfl⟩)
    refine hK.out _ _ (⟨(hb1.cell (p := ⟨w.heap.size, 0, none⟩) hsz).trans k0, (hb1.cell (p := ⟨w.heap.size, 1, none⟩) hsz).trans k1⟩) ?_
    clear hK K
    repeat (first
      | (refine Ord.ord_plain (v := ?_) rfl (fun w' hS => ?_) ?_; rotate_left; (focus ((try dsimp only at hS); go_simp; first | done | with_reducible rfl)); simp only [Act.put, List.setIfInBounds_toArray, List.set_cons_zero, List.set_cons_succ])
      | (refine Ord.ord_skip (by rfl) ?_; simp only [Act.put, List.setIfInBounds_toArray, List.set_cons_zero, List.set_cons_succ])
      | (refine Ord.ord_take (v := ?_) (by rfl) (fun w' hS => ?_) ?_; rotate_left; (focus ((try dsimp only at hS); go_simp; first | done | with_reducible rfl)); simp only [Act.put, List.setIfInBounds_toArray, List.set_cons_zero, List.set_cons_succ]))
    refine Ord.ord_call (fun K hK => ?_)
    go_simp
    refine hK.out _ _ (⟨(hb1.cell (p := ⟨w.heap.size, 0, none⟩) hsz).trans k0, (hb1.cell (p := ⟨w.heap.size, 1, none⟩) hsz).trans k1⟩) ?_
    clear hK K
    repeat (first
      | (refine Ord.ord_plain (v := ?_) rfl (fun w' hS => ?_) ?_; rotate_left; (focus ((try dsimp only at hS); go_simp; first | done | with_reducible rfl)); simp only [Act.put, List.setIfInBounds_toArray, List.set_cons_zero, List.set_cons_succ])
      | (refine Ord.ord_skip (by rfl) ?_; simp only [Act.put, List.setIfInBounds_toArray, List.set_cons_zero, List.set_cons_succ])
      | (refine Ord.ord_take (v := ?_) (by rfl) (fun w' hS => ?_) ?_; rotate_left; (focus ((try dsimp only at hS); go_simp; first | done | with_reducible rfl)); simp only [Act.put, List.setIfInBounds_toArray, List.set_cons_zero, List.set_cons_succ]))
    refine Ord.ord_nil ?_
    have hbw : Below w.heap.size w w1 := hW.drew.trans (hb1.mono hW.size)
    clear hb1 k0 k1
    go_wp2_with fail
    go_ret
    exact ⟨by rw [HH.out]; rfl, hbw⟩
  · have HH := Lib.hid h
    have h2' : decide (0 < pages) = true := by simpa using h2
    have h0' : (p == -1) = false := by simpa using h0
    rw [h1] at q1
    have K1 := Lib.hid q1
    rw [h3] at q2
    have K2 := Lib.hid q2
    clear h q1 q2 hp h0 h1 h3 h2
    go_enter Try.func124, Try.ntmps124
    go_wp2_with fail
    generalize w.alloc (.cells #[.int .i64 p, .int .i64 r] 129) = W at k0 k1 hW hsz ⊢
    refine Ord.wp_region_ord (fun w' => w'.cell? ⟨w.heap.size, 0, none⟩ = some (.int .i64 p) ∧ w'.cell? ⟨w.heap.size, 1, none⟩ = some (.int .i64 r)) [(0, true), (1, false), (2, true), (3, true), (4, true), (5, true), (6, true), (7, true), (8, false), (9, true), (10, true), (11, true), (12, true), (13, true), (14, true), (15, true), (16, false), (17, true), (18, true), (19, true)] (by kernel_rfl) (by kernel_rfl) rfl (by kernel_rfl) ⟨k0, k1⟩ ?_
    simp only [Ord.ordOps, List.getElem?_toArray, List.getElem?_cons_zero, List.getElem?_cons_succ]
    repeat (first
      | (refine Ord.ord_plain (v := ?_) rfl (fun w' hS => ?_) ?_; rotate_left; (focus ((try dsimp only at hS); go_simp; first | done | with_reducible rfl)); simp only [Act.put, List.setIfInBounds_toArray, List.set_cons_zero, List.set_cons_succ])
      | (refine Ord.ord_skip (by rfl) ?_; simp only [Act.put, List.setIfInBounds_toArray, List.set_cons_zero, List.set_cons_succ])
      | (refine Ord.ord_take (v := ?_) (by rfl) (fun w' hS => ?_) ?_; rotate_left; (focus ((try dsimp only at hS); go_simp; first | done | with_reducible rfl)); simp only [Act.put, List.setIfInBounds_toArray, List.set_cons_zero, List.set_cons_succ]))
    refine Ord.ord_call (fun K hK => ?_)
    go_simp
    go_wp2_with (go_at_call 120; refine (spec_no _).mono ?_; rintro e w1 ⟨rfl, hb1⟩)
    refine hK.out _ _ (⟨(hb1.cell (p := ⟨w.heap.size, 0, none⟩) hsz).trans k0, (hb1.cell (p := ⟨w.heap.size, 1, none⟩) hsz).trans k1⟩) ?_
    clear hK K
    repeat (first
      | (refine Ord.ord_plain (v := ?_) rfl (fun w' hS => ?_) ?_; rotate_left; (focus ((try dsimp only at hS); go_simp; first | done | with_reducible rfl)); simp only [Act.put, List.setIfInBounds_toArray, List.set_cons_zero, List.set_cons_succ])
      | (refine Ord.ord_skip (by rfl) ?_; simp only [Act.put, List.setIfInBounds_toArray, List.set_cons_zero, List.set_cons_succ])
      | (refine Ord.ord_take (v := ?_) (by rfl) (fun w' hS => ?_) ?_; rotate_left; (focus ((try dsimp only at hS); go_simp; first | done | with_reducible rfl)); simp only [Act.put, List.setIfInBounds_toArray, List.set_cons_zero, List.set_cons_succ]))
    refine Ord.ord_call (fun K hK => ?_)
    go_simp
    go_wp2_with (go_at_call 57; refine (K1.out _).mono ?_; rintro e w' ⟨rfl, rfl⟩)
    refine hK.out _ _ (⟨(hb1.cell (p := ⟨w.heap.size, 0, none⟩) hsz).trans k0, (hb1.cell (p := ⟨w.heap.size, 1, none⟩) hsz).trans k1⟩) ?_
    clear hK K
    repeat (first
      | (refine Ord.ord_plain (v := ?_) rfl (fun w' hS => ?_) ?_; rotate_left; (focus ((try dsimp only at hS); go_simp; first | done | with_reducible rfl)); simp only [Act.put, List.setIfInBounds_toArray, List.set_cons_zero, List.set_cons_succ])
      | (refine Ord.ord_skip (by rfl) ?_; simp only [Act.put, List.setIfInBounds_toArray, List.set_cons_zero, List.set_cons_succ])
      | (refine Ord.ord_take (v := ?_) (by rfl) (fun w' hS => ?_) ?_; rotate_left; (focus ((try dsimp only at hS); go_simp; first | done | with_reducible rfl)); simp only [Act.put, List.setIfInBounds_toArray, List.set_cons_zero, List.set_cons_succ]))
    refine Ord.ord_call (fun K hK => ?_)
    go_simp
    go_wp2_with (go_at_call 57; refine (K2.out _).mono ?_; rintro e w' ⟨rfl, rfl⟩)
    refine hK.out _ _ (⟨(hb1.cell (p := ⟨w.heap.size, 0, none⟩) hsz).trans k0, (hb1.cell (p := ⟨w.heap.size, 1, none⟩) hsz).trans k1⟩) ?_
    clear hK K
    repeat (first
      | (refine Ord.ord_plain (v := ?_) rfl (fun w' hS => ?_) ?_; rotate_left; (focus ((try dsimp only at hS); go_simp; first | done | with_reducible rfl)); simp only [Act.put, List.setIfInBounds_toArray, List.set_cons_zero, List.set_cons_succ])
      | (refine Ord.ord_skip (by rfl) ?_; simp only [Act.put, List.setIfInBounds_toArray, List.set_cons_zero, List.set_cons_succ])
      | (refine Ord.ord_take (v := ?_) (by rfl) (fun w' hS => ?_) ?_; rotate_left; (focus ((try dsimp only at hS); go_simp; first | done | with_reducible rfl)); simp only [Act.put, List.setIfInBounds_toArray, List.set_cons_zero, List.set_cons_succ]))
    refine Ord.ord_nil ?_
    have hbw : Below w.heap.size w w1 := hW.drew.trans (hb1.mono hW.size)
    clear hb1 k0 k1
    go_wp2_with fail
    go_ret
    exact ⟨by rw [HH.out]; rfl, hbw⟩
  · have HH := Lib.hid h
    have h2' : decide (0 < pages) = true := by simpa using h2
    have h0' : (p == -1) = false := by simpa using h0
    rw [h1] at q1
    have K1 := Lib.hid q1
    rw [h3] at q2
    have K2 := Lib.hid q2
    clear h q1 q2 hp h0 h1 h3 h2
    go_enter Try.func124, Try.ntmps124
    go_wp2_with fail
    generalize w.alloc (.cells #[.int .i64 p, .int .i64 r] 129) = W at k0 k1 hW hsz ⊢
    refine Ord.wp_region_ord (fun w' => w'.cell? ⟨w.heap.size, 0, none⟩ = some (.int .i64 p) ∧ w'.cell? ⟨w.heap.size, 1, none⟩ = some (.int .i64 r)) [(0, true), (1, false), (2, true), (3, true), (4, true), (5, true), (6, true), (7, true), (8, false), (9, true), (10, true), (11, true), (12, true), (13, true), (14, true), (15, true), (16, false), (17, true), (18, true), (19, true)] (by kernel_rfl) (by kernel_rfl) rfl (by kernel_rfl) ⟨k0, k1⟩ ?_
    simp only [Ord.ordOps, List.getElem?_toArray, List.getElem?_cons_zero, List.getElem?_cons_succ]
    repeat (first
      | (refine Ord.ord_plain (v := ?_) rfl (fun w' hS => ?_) ?_; rotate_left; (focus ((try dsimp only at hS); go_simp; first | done | with_reducible rfl)); simp only [Act.put, List.setIfInBounds_toArray, List.set_cons_zero, List.set_cons_succ])
      | (refine Ord.ord_skip (by rfl) ?_; simp only [Act.put, List.setIfInBounds_toArray, List.set_cons_zero, List.set_cons_succ])
      | (refine Ord.ord_take (v := ?_) (by rfl) (fun w' hS => ?_) ?_; rotate_left; (focus ((try dsimp only at hS); go_simp; first | done | with_reducible rfl)); simp only [Act.put, List.setIfInBounds_toArray, List.set_cons_zero, List.set_cons_succ]))
    refine Ord.ord_call (fun K hK => ?_)
    go_simp
    go_wp2_with (go_at_call 120; refine (spec_no _).mono ?_; rintro e w1 ⟨rfl, hb1⟩)
    refine hK.out _ _ (⟨(hb1.cell (p := ⟨w.heap.size, 0, none⟩) hsz).trans k0, (hb1.cell (p := ⟨w.heap.size, 1, none⟩) hsz).trans k1⟩) ?_
    clear hK K
    repeat (first
      | (refine Ord.ord_plain (v := ?_) rfl (fun w' hS => ?_) ?_; rotate_left; (focus ((try dsimp only at hS); go_simp; first | done | with_reducible rfl)); simp only [Act.put, List.setIfInBounds_toArray, List.set_cons_zero, List.set_cons_succ])
      | (refine Ord.ord_skip (by rfl) ?_; simp only [Act.put, List.setIfInBounds_toArray, List.set_cons_zero, List.set_cons_succ])
      | (refine Ord.ord_take (v := ?_) (by rfl) (fun w' hS => ?_) ?_; rotate_left; (focus ((try dsimp only at hS); go_simp; first | done | with_reducible rfl)); simp only [Act.put, List.setIfInBounds_toArray, List.set_cons_zero, List.set_cons_succ]))
    refine Ord.ord_call (fun K hK => ?_)
    go_simp
    go_wp2_with (go_at_call 57; refine (K1.out _).mono ?_; rintro e w' ⟨rfl, rfl⟩)
    refine hK.out _ _ (⟨(hb1.cell (p := ⟨w.heap.size, 0, none⟩) hsz).trans k0, (hb1.cell (p := ⟨w.heap.size, 1, none⟩) hsz).trans k1⟩) ?_
    clear hK K
    repeat (first
      | (refine Ord.ord_plain (v := ?_) rfl (fun w' hS => ?_) ?_; rotate_left; (focus ((try dsimp only at hS); go_simp; first | done | with_reducible rfl)); simp only [Act.put, List.setIfInBounds_toArray, List.set_cons_zero, List.set_cons_succ])
      | (refine Ord.ord_skip (by rfl) ?_; simp only [Act.put, List.setIfInBounds_toArray, List.set_cons_zero, List.set_cons_succ])
      | (refine Ord.ord_take (v := ?_) (by rfl) (fun w' hS => ?_) ?_; rotate_left; (focus ((try dsimp only at hS); go_simp; first | done | with_reducible rfl)); simp only [Act.put, List.setIfInBounds_toArray, List.set_cons_zero, List.set_cons_succ]))
    refine Ord.ord_call (fun K hK => ?_)
    go_simp
    go_wp2_with (go_at_call 57; refine (K2.out _).mono ?_; rintro e w' ⟨rfl, rfl⟩)
    refine hK.out _ _ (⟨(hb1.cell (p := ⟨w.heap.size, 0, none⟩) hsz).trans k0, (hb1.cell (p := ⟨w.heap.size, 1, none⟩) hsz).trans k1⟩) ?_
    clear hK K
    repeat (first
      | (refine Ord.ord_plain (v := ?_) rfl (fun w' hS => ?_) ?_; rotate_left; (focus ((try dsimp only at hS); go_simp; first | done | with_reducible rfl)); simp only [Act.put, List.setIfInBounds_toArray, List.set_cons_zero, List.set_cons_succ])
      | (refine Ord.ord_skip (by rfl) ?_; simp only [Act.put, List.setIfInBounds_toArray, List.set_cons_zero, List.set_cons_succ])
      | (refine Ord.ord_take (v := ?_) (by rfl) (fun w' hS => ?_) ?_; rotate_left; (focus ((try dsimp only at hS); go_simp; first | done | with_reducible rfl)); simp only [Act.put, List.setIfInBounds_toArray, List.set_cons_zero, List.set_cons_succ]))
    refine Ord.ord_nil ?_
    have hbw : Below w.heap.size w w1 := hW.drew.trans (hb1.mono hW.size)
    clear hb1 k0 k1
    go_wp2_with fail
    go_ret
    exact ⟨by rw [HH.out]; rfl, hbw⟩
end Go.Proofs.Ytldgadmpclgfhaa.Slots
namespace Go.Proofs.Ytldgadmpclgfhaa.Slots
set_option maxRecDepth 100000
open Go.ChangeShapes Go.WideShapes Go.ChangeAt Go.RowKit
open Go.Proofs.Ytldgadmpclgfhaa.Base Go.Proofs.Ytldgadmpclgfhaa.Mem Go.Proofs.Ytldgadmpclgfhaa.Ints
set_option linter.unusedVariables false
def okTab (l : List Sl) (size pages : Int) : Bool := okT l pages && decide ((l.length : Int) = size)
theorem okT_snoc (l : List Sl) (k : Nat) (h : k < l.length) (pages : Int) (ht : okT (l.take k) pages = true) : okT (l.take (k + 1)) pages = okS l[k].1 l[k].2 pages := by
  unfold okT at ht ⊢
  rw [List.take_succ_eq_append_getElem h, List.all_append, ht]
  simp
theorem okT_stop (l : List Sl) (k : Nat) (h : k < l.length) (pages : Int) (hs : okS l[k].1 l[k].2 pages = false) : okT l pages = false := by
  unfold okT
  rw [List.all_eq_false]
  exact ⟨l[k], List.getElem_mem h, by simpa using hs⟩
set_option maxHeartbeats 2000000 in
theorem impl_tabOk (A : Option Addr) (n c lo : Nat) (size pages : Int) (l : List Sl) (w : World) (hn : n ≤ 1048576) (hl : l.length = n) (hw : wfL l) (h1 : Lies w lo w.heap.size A (scells l)) :
    Calls Try.prog 129 #[.slice A n c, .int .i64 size, .int .i64 pages] w (OkPost w (okTab l size pages)) := by
  have H1 := Lib.hid h1
  have HL := Lib.hid hl
  have HW := Lib.hid hw
  clear h1 hl hw
  by_cases hsz : (n : Int) = size
  · subst hsz
    go_enter Try.func129, Try.ntmps129
    go_wp2
    go_loopw [8, 15] (fun _ i wr => ∃ (k : Nat), k ≤ n ∧ i = .int .i64 k ∧ okT (l.take k) pages = true ∧ Below w.heap.size w wr) (fun _ i _ => n - (intOf i).toNat)
    case atStart => exact ⟨0, Nat.zero_le _, rfl, rfl, Below.refl _ _⟩
    case round =>
      obtain ⟨k, hk, rfl, ht, hb⟩ := hrel
      have HT := Lib.hid ht
      clear ht
      by_cases hlt : k < n
      · have hkl : k < l.length := by have := HL.out; omega
        obtain ⟨b, off, rfl, _, hbw, c1, c2⟩ := slot_at H1.out k hkl
        have d1 : wr.cell? ⟨b, off + k * 2, none⟩ = some (.int .i64 l[k].1) := (hb.cell hbw).trans c1
        have d2 : wr.cell? ⟨b, off + k * 2 + 1, none⟩ = some (.int .i64 l[k].2) := (hb.cell hbw).trans c2
        have hi0 : (0 : Int) ≤ (k : Int) := Int.natCast_nonneg _
        have hi1 : (k : Int) < (n : Int) := by omega
        have hK := fun V : World => impl_okS l[k].1 l[k].2 pages V (HW.out l[k] (List.getElem_mem hkl)).2
        have hs := okT_snoc l k hkl pages HT.out
        have hf := okT_stop l k hkl pages
        have hbs := hb.size
        generalize l[k].1 = x at d1 hK hs hf
        generalize l[k].2 = y at d2 hK hs hf
        have HB := Lib.hid hb
        clear c1 c2 hb
        cases hv : okS x y pages
        · rw [hv] at hK
          have HK := Lib.hid hK
          have HF := Lib.hid (hf hv)
          clear hK hf hs hv
          go_wp2_with fail
          refine (HK.out _).mono ?_
          rintro e w1 ⟨rfl, hb1⟩
          have hbw1 : Below w.heap.size w w1 := (HB.out.alloc hbs _).trans (hb1.mono (by simp; omega))
          clear hb1
          go_wp2_with fail
          go_ret
          exact ⟨by rw [okTab, HF.out]; rfl, hbw1⟩
        · rw [hv] at hK hs
          have HK := Lib.hid hK
          have HS := Lib.hid hs
          clear hK hf hs hv
          go_wp2_with fail
          refine (HK.out _).mono ?_
          rintro e w1 ⟨rfl, hb1⟩
          have hbw1 : Below w.heap.size w w1 := (HB.out.alloc hbs _).trans (hb1.mono (by simp; omega))
          clear hb1
          go_wp2_with fail
          go_roundw
          case rel => exact ⟨k + 1, by omega, by go_num, HS.out, hbw1⟩
          case measure => simp [intOf]; omega
      · have hkn : k = n := by omega
        subst hkn
        have ht := HT.out
        rw [List.take_of_length_le (by have := HL.out; omega)] at ht
        have HT := Lib.hid ht
        clear ht
        go_wp2_with fail
        go_ret
        exact ⟨by rw [okTab, HT.out, HL.out]; simp, hb⟩
  · have hd : ((n : Int) == size) = false := by simpa using hsz
    have hd' : ((n : Int) != size) = true := by simpa using hsz
    go_enter Try.func129, Try.ntmps129
    go_wp2
    go_ret
    exact ⟨by rw [okTab, HL.out, decide_eq_false hsz, Bool.and_false]; rfl, Below.refl _ _⟩
set_option maxHeartbeats 2000000 in
theorem spec_tabOk (A : Option Addr) (n c lo : Nat) (size pages : Int) (l : List Sl) (w : World) (hn : n ≤ 1048576) (hl : l.length = n) (hp : (Lit.int .i64 pages).wf = true) (h1 : Lies w lo w.heap.size A (scells l)) :
    Calls Try.prog 99 #[.slice A n c, .int .i64 size, .int .i64 pages] w (OkPost w (okTab l size pages)) := by
  have H1 := Lib.hid h1
  have HL := Lib.hid hl
  have HP := Lib.hid hp
  clear h1 hl hp
  go_enter Try.func99, Try.ntmps99
  go_wp2
  go_loopw [7] (fun i wr => ∃ (k : Nat), k ≤ n ∧ i = .int .i64 k ∧ okT (l.take k) pages = true ∧ Below w.heap.size w wr) (fun i _ => n - (intOf i).toNat)
  case atStart => exact ⟨0, Nat.zero_le _, rfl, rfl, Below.refl _ _⟩
  case round =>
    obtain ⟨k, hk, rfl, ht, hb⟩ := hrel
    have HT := Lib.hid ht
    clear ht
    by_cases hlt : k < n
    · have hkl : k < l.length := by have := HL.out; omega
      obtain ⟨b, off, rfl, _, hbw, c1, c2⟩ := slot_at H1.out k hkl
      have d1 : wr.cell? ⟨b, off + k * 2, none⟩ = some (.int .i64 l[k].1) := (hb.cell hbw).trans c1
      have d2 : wr.cell? ⟨b, off + k * 2 + 1, none⟩ = some (.int .i64 l[k].2) := (hb.cell hbw).trans c2
      have hi0 : (0 : Int) ≤ (k : Int) := Int.natCast_nonneg _
      have hi1 : (k : Int) < (n : Int) := by omega
      have hK := fun V : World => spec_okS l[k].1 l[k].2 pages V HP.out
      have hs := okT_snoc l k hkl pages HT.out
      have hf := okT_stop l k hkl pages
      have hbs := hb.size
      generalize l[k].1 = x at d1 hK hs hf
      generalize l[k].2 = y at d2 hK hs hf
      have HB := Lib.hid hb
      clear c1 c2 hb
      cases hv : okS x y pages
      · rw [hv] at hK
        have HK := Lib.hid hK
        have HF := Lib.hid (hf hv)
        clear hK hf hs hv
        go_wp2_with fail
        refine (HK.out _).mono ?_
        rintro e w1 ⟨rfl, hb1⟩
        have hbw1 : Below w.heap.size w w1 := HB.out.trans (hb1.mono hbs)
        clear hb1
        go_wp2_with fail
        go_ret
        exact ⟨by rw [okTab, HF.out]; rfl, hbw1⟩
      · rw [hv] at hK hs
        have HK := Lib.hid hK
        have HS := Lib.hid hs
        clear hK hf hs hv
        go_wp2_with fail
        refine (HK.out _).mono ?_
        rintro e w1 ⟨rfl, hb1⟩
        have hbw1 : Below w.heap.size w w1 := HB.out.trans (hb1.mono hbs)
        clear hb1
        go_wp2_with fail
        go_roundw
        case rel => exact ⟨k + 1, by omega, by go_num, HS.out, hbw1⟩
        case measure => simp [intOf]; omega
    · have hkn : k = n := by omega
      subst hkn
      have ht := HT.out
      rw [List.take_of_length_le (by have := HL.out; omega)] at ht
      have HT := Lib.hid ht
      clear ht
      go_wp2_with fail
      go_ret
      exact ⟨by rw [okTab, HT.out, HL.out, Bool.true_and]; rfl, hb⟩
end Go.Proofs.Ytldgadmpclgfhaa.Slots
namespace Go.Proofs.Ytldgadmpclgfhaa.Grid
set_option maxRecDepth 100000
open Go.ChangeShapes Go.WideShapes Go.ChangeAt Go.RowKit
open Go.Proofs.Ytldgadmpclgfhaa.Base Go.Proofs.Ytldgadmpclgfhaa.Mem Go.Proofs.Ytldgadmpclgfhaa.Ints
set_option linter.unusedVariables false
theorem all_snoc {α : Type} (p : α → Bool) (l : List α) (k : Nat) (h : k < l.length) (ht : (l.take k).all p = true) : (l.take (k + 1)).all p = p l[k] := by
  rw [List.take_succ_eq_append_getElem h, List.all_append, ht]
  simp
theorem all_stop {α : Type} (p : α → Bool) (l : List α) (k : Nat) (h : k < l.length) (hs : p l[k] = false) : l.all p = false := by
  rw [List.all_eq_false]
  exact ⟨l[k], List.getElem_mem h, by simpa using hs⟩
def cellB (v : Int) : Bool := inB v 0 99
def cellsB (l : List Int) : Bool := l.all cellB
def pageB (l : List Int) : Bool := cellsB l && decide ((l.length : Int) = 4)
def pagesB (M : List (List Int)) : Bool := M.all pageB
def memB (M : List (List Int)) (pages : Int) : Bool := pagesB M && decide ((M.length : Int) = pages)
theorem impl_cellOk (v : Int) (w : World) :
    Calls Try.prog 126 #[.int .i64 v] w fun e w' => e = .returned (.bool (cellB v)) ∧ w = w' := by
  cases h1 : decide (0 ≤ v)
  all_goals
    cases h2 : decide (v ≤ 99)
    all_goals
      have hv : cellB v = (decide (0 ≤ v) && decide (v ≤ 99)) := rfl
      rw [h1, h2] at hv
      simp only [Bool.and_false, Bool.and_true] at hv
      rw [hv]; clear hv
      go_enter Try.func126, Try.ntmps126
      go_wp2
      go_ret
      exact ⟨rfl, rfl⟩
set_option maxHeartbeats 1000000 in
theorem impl_pageOk (A : Option Addr) (n c lo hi : Nat) (l : List Int) (w : World) (hn : n ≤ 1048576) (hl : l.length = n) (h1 : Lies w lo hi A (ncells l)) :
    Calls Try.prog 103 #[.slice A n c] w fun e w' => e = .returned (.bool (pageB l)) ∧ w = w' := by
  have H1 := Lib.hid h1
  have HL := Lib.hid hl
  clear h1 hl
  by_cases hsz : (n : Int) = 4
  · have hn4 : n = 4 := by omega
    subst hn4
    go_enter Try.func103, Try.ntmps103
    go_wp2
    go_loop [4, 10] (fun _ i => ∃ (k : Nat), k ≤ 4 ∧ i = .int .i64 k ∧ (l.take k).all cellB = true) (fun _ i => 4 - (intOf i).toNat)
    case atStart => exact ⟨0, Nat.zero_le _, rfl, rfl⟩
    case round =>
      obtain ⟨k, hk, rfl, ht⟩ := hrel
      have HT := Lib.hid ht
      clear ht
      by_cases hlt : k < 4
      · have hkl : k < l.length := by have := HL.out; omega
        obtain ⟨b, off, rfl, _, hbw, c1⟩ := int_at H1.out k hkl
        have hi0 : (0 : Int) ≤ (k : Int) := Int.natCast_nonneg _
        have hi1 : (k : Int) < 4 := by omega
        have hK := fun V : World => impl_cellOk l[k] V
        have hs := all_snoc cellB l k hkl HT.out
        have hf := all_stop cellB l k hkl
        generalize l[k] = x at c1 hK hs hf
        cases hv : cellB x
        · rw [hv] at hK
          have HK := Lib.hid hK
          have HF := Lib.hid (hf hv)
          clear hK hf hs hv
          go_wp2_with fail
          refine (HK.out _).mono ?_
          rintro e w1 ⟨rfl, rfl⟩
          go_wp2_with fail
          go_ret
          exact ⟨by rw [pageB, cellsB, HF.out]; rfl, rfl⟩
        · rw [hv] at hK hs
          have HK := Lib.hid hK
          have HS := Lib.hid hs
          clear hK hf hs hv
          go_wp2_with fail
          refine (HK.out _).mono ?_
          rintro e w1 ⟨rfl, rfl⟩
          go_wp2_with fail
          go_round
          case rel => exact ⟨k + 1, by omega, by go_num, HS.out⟩
          case measure => simp [intOf]; omega
      · have hkn : k = 4 := by omega
        subst hkn
        have ht := HT.out
        rw [List.take_of_length_le (by have := HL.out; omega)] at ht
        have HT := Lib.hid ht
        clear ht
        go_wp2_with fail
        go_ret
        exact ⟨by rw [pageB, cellsB, HT.out, HL.out]; rfl, rfl⟩
  · have hd : ((n : Int) == 4) = false := by simpa using hsz
    have hd' : ((n : Int) != 4) = true := by simpa using hsz
    have hne : ¬ n = 4 := by omega
    go_enter Try.func103, Try.ntmps103
    go_wp2
    go_ret
    exact ⟨by rw [pageB, HL.out, decide_eq_false hsz, Bool.and_false]; rfl, rfl⟩
set_option maxHeartbeats 1000000 in
theorem spec_pageOk (A : Option Addr) (n c lo hi : Nat) (l : List Int) (w : World) (hn : n ≤ 1048576) (hl : l.length = n) (h1 : Lies w lo hi A (ncells l)) :
    Calls Try.prog 102 #[.slice A n c] w fun e w' => e = .returned (.bool (pageB l)) ∧ w = w' := by
  have H1 := Lib.hid h1
  have HL := Lib.hid hl
  clear h1 hl
  go_enter Try.func102, Try.ntmps102
  go_wp2
  go_loop [3] (fun i => ∃ (k : Nat), k ≤ n ∧ i = .int .i64 k ∧ (l.take k).all cellB = true) (fun i => n - (intOf i).toNat)
  case atStart => exact ⟨0, Nat.zero_le _, rfl, rfl⟩
  case round =>
    obtain ⟨k, hk, rfl, ht⟩ := hrel
    have HT := Lib.hid ht
    clear ht
    by_cases hlt : k < n
    · have hkl : k < l.length := by have := HL.out; omega
      obtain ⟨b, off, rfl, _, hbw, c1⟩ := int_at H1.out k hkl
      have hi0 : (0 : Int) ≤ (k : Int) := Int.natCast_nonneg _
      have hi1 : (k : Int) < n := by omega
      have hK := fun V : World => spec_in l[k] 0 99 V
      have hs := all_snoc cellB l k hkl HT.out
      have hf := all_stop cellB l k hkl
      generalize l[k] = x at c1 hK hs hf
      cases hv : inB x 0 99
      · rw [hv] at hK
        have HK := Lib.hid hK
        have HF := Lib.hid (hf hv)
        clear hK hf hs hv
        go_wp2_with fail
        refine (HK.out _).mono ?_
        rintro e w1 ⟨rfl, rfl⟩
        go_wp2_with fail
        go_ret
        exact ⟨by rw [pageB, cellsB, HF.out]; rfl, rfl⟩
      · rw [hv] at hK
        rw [show cellB x = true from hv] at hs
        have HK := Lib.hid hK
        have HS := Lib.hid hs
        clear hK hf hs hv
        go_wp2_with fail
        refine (HK.out _).mono ?_
        rintro e w1 ⟨rfl, rfl⟩
        go_wp2_with fail
        go_round
        case rel => exact ⟨k + 1, by omega, by go_num, HS.out⟩
        case measure => simp [intOf]; omega
    · have hkn : k = n := by omega
      subst hkn
      have ht := HT.out
      rw [List.take_of_length_le (by have := HL.out; omega)] at ht
      have HT := Lib.hid ht
      clear ht
      go_wp2_with fail
      go_ret
      exact ⟨by rw [pageB, cellsB, HT.out, HL.out, Bool.true_and]; rfl, rfl⟩
end Go.Proofs.Ytldgadmpclgfhaa.Grid
namespace Go.Proofs.Ytldgadmpclgfhaa.Grid
set_option maxRecDepth 100000
open Go.ChangeShapes Go.WideShapes Go.ChangeAt Go.RowKit
open Go.Proofs.Ytldgadmpclgfhaa.Base Go.Proofs.Ytldgadmpclgfhaa.Mem Go.Proofs.Ytldgadmpclgfhaa.Ints
set_option linter.unusedVariables false
section
variable {P : Program}
end
theorem ncells_set (l : List Int) (j : Nat) (v : Int) : (ncells l).set j (.int .i64 v) = ncells (l.set j v) := by
  simp [ncells, List.map_set]
end Go.Proofs.Ytldgadmpclgfhaa.Grid
namespace Go.Proofs.Ytldgadmpclgfhaa.Grid
set_option maxRecDepth 100000
open Go.ChangeShapes Go.WideShapes Go.ChangeAt Go.RowKit
open Go.Proofs.Ytldgadmpclgfhaa.Base Go.Proofs.Ytldgadmpclgfhaa.Mem Go.Proofs.Ytldgadmpclgfhaa.Ints
set_option linter.unusedVariables false
/-- A cell of a memory of one's own is written. -/
theorem OG.cell {w : World} {lo hi : Nat} {A : Option Addr} {M : List (List Int)} {hs : List Hd} (h : OG w lo hi A M hs) (hh : hi ≤ w.heap.size) (k j : Nat) (hk : k < M.length) (hj : j < M[k].length) :
    ∃ b off b' off' c, A = some ⟨b, off, none⟩ ∧ b < hi ∧ w.cell? ⟨b, off + k, none⟩ = some (.slice (some ⟨b', off', none⟩) M[k].length c) ∧ (∃ u, w.cell? ⟨b', off' + j, none⟩ = some u) ∧ w.frozen? ⟨b', off' + j, none⟩ = false ∧
      ∀ v : Int, OG (w.setCell ⟨b', off' + j, none⟩ (.int .i64 v)) lo hi A (M.set k (M[k].set j v)) hs ∧ Turned lo hi w (w.setCell ⟨b', off' + j, none⟩ (.int .i64 v)) := by
  obtain ⟨b, off, B, c, lo', hi', e, hb, hc, ho, hn⟩ := h.write hh k hk
  obtain ⟨b', off', rfl, x, y, c2⟩ := int_at ho.1 j hj
  refine ⟨b, off, b', off', c, e, hb, hc, ⟨_, c2⟩, ho.2 _ _ rfl (by rw [ncells_len]; omega) _, fun v => ?_⟩
  have h1 := ho.set j (.int .i64 v)
  rw [ncells_set] at h1
  exact hn _ _ (by simp) h1 ((Turned.refl lo' hi' w).setCell x y _)
end Go.Proofs.Ytldgadmpclgfhaa.Grid
namespace Go.Proofs.Ytldgadmpclgfhaa.Grid
set_option maxRecDepth 100000
open Go.ChangeShapes Go.WideShapes Go.ChangeAt Go.RowKit
open Go.Proofs.Ytldgadmpclgfhaa.Base Go.Proofs.Ytldgadmpclgfhaa.Mem Go.Proofs.Ytldgadmpclgfhaa.Ints
set_option linter.unusedVariables false
def SameP {α : Type} [DecidableEq α] (w : World) (l m : List α) (e : Ending) (w' : World) : Prop := e = .returned (.bool (decide (l = m))) ∧ ∃ q, w' = w.drewN q
section
variable {α : Type} [DecidableEq α] {w : World} {l m : List α}
theorem SameP.yes {P : Program} {f : FuncId} {args : Array Value} {w0 : World} (h : Calls P f args w0 (SameP w l m)) (e : l = m) : Calls P f args w0 fun e w' => e = .returned (.bool true) ∧ ∃ q, w' = w.drewN q :=
  h.mono fun e1 w' ⟨h1, h2⟩ => ⟨by rw [h1, decide_eq_true e], h2⟩
theorem SameP.no {P : Program} {f : FuncId} {args : Array Value} {w0 : World} (h : Calls P f args w0 (SameP w l m)) (e : l ≠ m) : Calls P f args w0 fun e w' => e = .returned (.bool false) ∧ ∃ q, w' = w.drewN q :=
  h.mono fun e1 w' ⟨h1, h2⟩ => ⟨by rw [h1, decide_eq_false e], h2⟩
/-- The world has drawn, and nothing else. -/
def Drawn (w w' : World) : Prop := ∃ q, w' = w.drewN q
theorem Drawn.cell {w' : World} (h : Drawn w w') (p : Addr) : w'.cell? p = w.cell? p := by
  obtain ⟨q, rfl⟩ := h
  rfl
theorem Drawn.lies {w' : World} (h : Drawn w w') {lo hi : Nat} {A : Option Addr} {cs : List Value} (k : Lies w lo hi A cs) : Lies w' lo hi A cs := by
  obtain ⟨q, rfl⟩ := h
  exact k
theorem Drawn.more {w' : World} (h : Drawn w w') (r : Nat) : Drawn w (w'.drewN (1 + r)) := by
  obtain ⟨q, rfl⟩ := h
  exact ⟨q + (1 + r), World.drewN_drewN ..⟩
end
end Go.Proofs.Ytldgadmpclgfhaa.Grid
namespace Go.Proofs.Ytldgadmpclgfhaa.Guests
set_option maxRecDepth 100000
open Go.ChangeShapes Go.WideShapes Go.ChangeAt Go.RowKit
open Go.Proofs.Ytldgadmpclgfhaa.Base Go.Proofs.Ytldgadmpclgfhaa.Mem Go.Proofs.Ytldgadmpclgfhaa.Data Go.Proofs.Ytldgadmpclgfhaa.Slots Go.Proofs.Ytldgadmpclgfhaa.Ints Go.Proofs.Ytldgadmpclgfhaa.Ctls Go.Proofs.Ytldgadmpclgfhaa.Exits Go.Proofs.Ytldgadmpclgfhaa.Stt Go.Proofs.Ytldgadmpclgfhaa.Irqs Go.Proofs.Ytldgadmpclgfhaa.Inss
set_option linter.unusedVariables false
set_option linter.unusedSimpArgs false
def guestOk (g : gT) : Bool := progOk g.prog && inB g.a 0 99 && inB g.pc 0 12 && okTab g.wr 4 8 && okTab g.lv 4 8 && ctlOk g.t && pend g.pd && exitOk g.x && decide ((g.seen.length : Int) ≤ 40)
set_option maxRecDepth 100000 in
set_option maxHeartbeats 4000000 in
theorem specx_ok (g : gT) (cs : List Value) (w : World) (hc : rG.cap g) (h : rG.rd w 0 w.heap.size g cs) : Calls Try.prog 55 #[.agg cs.toArray] w (fun e w' => e = .returned (.bool (guestOk g)) ∧ Below w.heap.size w w') := by
  obtain ⟨q0, q1, q2, q3⟩ := rG_len hc
  have hr := h
  obtain ⟨P0, P1, P2, P3, rfl, h0, h1, h2, h3⟩ := rG_rd h
  obtain ⟨PA0, Pc0, e0, hP0⟩ := lst_val h0
  subst e0
  obtain ⟨PA1, Pc1, e1, hP1⟩ := lst_val h1
  subst e1
  obtain ⟨PA2, Pc2, e2, hP2⟩ := lst_val h2
  subst e2
  obtain ⟨PA3, Pc3, e3, hP3⟩ := lst_val h3
  subst e3
  refine Sx.enter (args := [.agg #[.slice PA0 g.prog.length Pc0, .int .i64 g.a, .int .i64 g.pc, .slice PA1 g.wr.length Pc1, .slice PA2 g.lv.length Pc2, .int .i64 g.t.1, .int .i64 g.t.2.1, .bool g.t.2.2, .int .i64 g.pd, .int .i64 g.x.1, .int .i64 g.x.2.1, .bool g.x.2.2.1, .int .i64 g.x.2.2.2, .bool g.hl, .slice PA3 g.seen.length Pc3]]) Try.func55 rfl Try.ntmps55 rfl ?_
  refine Sx.C.seq ?_
  refine Sx.C.region ?_
  refine Sx.G.box 51 (.tmp 0) [.slice PA0 g.prog.length Pc0, .int .i64 g.a, .int .i64 g.pc, .slice PA1 g.wr.length Pc1, .slice PA2 g.lv.length Pc2, .int .i64 g.t.1, .int .i64 g.t.2.1, .bool g.t.2.2, .int .i64 g.pd, .int .i64 g.x.1, .int .i64 g.x.2.1, .bool g.x.2.2.1, .int .i64 g.x.2.2.2, .bool g.hl, .slice PA3 g.seen.length Pc3] rfl (by kernel_rfl) (by kernel_rfl) (fun b1 => ?_)
  refine Sx.G.pure (.bool false) (by kernel_rfl) (fun w => by kernel_rfl) ?_
  refine Sx.G.nil ?_
  refine Sx.E.next ?_
  refine Sx.C.seq ?_
  refine Sx.C.region ?_
  refine Sx.G.pure (.pointer (some ⟨b1, 0, none⟩)) (by kernel_rfl) (fun w => by kernel_rfl) ?_
  refine Sx.G.ld1 44 (.tmp 3) b1 0 0 [.slice PA0 g.prog.length Pc0, .int .i64 g.a, .int .i64 g.pc, .slice PA1 g.wr.length Pc1, .slice PA2 g.lv.length Pc2, .int .i64 g.t.1, .int .i64 g.t.2.1, .bool g.t.2.2, .int .i64 g.pd, .int .i64 g.x.1, .int .i64 g.x.2.1, .bool g.x.2.2.1, .int .i64 g.x.2.2.2, .bool g.hl, .slice PA3 g.seen.length Pc3] (.slice PA0 g.prog.length Pc0) rfl (by kernel_rfl) (by kernel_rfl) rfl (by kernel_rfl) (by kernel_rfl) ?_
  refine Sx.G.plain 98 #[.slice PA0 g.prog.length Pc0] (.bool (progOk g.prog)) (by kernel_rfl) (fun w => by kernel_rfl) (fun w S => by exact spec_progOk PA0 g.prog.length Pc0 0 g.prog _ q0 rfl (by rw [← pcells_j]; exact p2_lies (St.old S h0))) ?_
  refine Sx.G.pure (.bool (progOk g.prog)) (by kernel_rfl) (fun w => by kernel_rfl) ?_
  cases hc2 : (progOk g.prog)
  · have hb2 := hc2
    refine Sx.G.skip (by kernel_rfl) ?_
    refine Sx.G.skip (by kernel_rfl) ?_
    refine Sx.G.skip (by kernel_rfl) ?_
    refine Sx.G.pure (.bool false) (by kernel_rfl) (fun w => by kernel_rfl) ?_
    refine Sx.G.pure (.bool false) (by kernel_rfl) (fun w => by kernel_rfl) ?_
    refine Sx.G.skip (by kernel_rfl) ?_
    refine Sx.G.skip (by kernel_rfl) ?_
    refine Sx.G.skip (by kernel_rfl) ?_
    refine Sx.G.pure (.bool false) (by kernel_rfl) (fun w => by kernel_rfl) ?_
    refine Sx.G.pure (.bool false) (by kernel_rfl) (fun w => by kernel_rfl) ?_
    refine Sx.G.skip (by kernel_rfl) ?_
    refine Sx.G.skip (by kernel_rfl) ?_
    refine Sx.G.skip (by kernel_rfl) ?_
    refine Sx.G.pure (.bool false) (by kernel_rfl) (fun w => by kernel_rfl) ?_
    refine Sx.G.pure (.bool false) (by kernel_rfl) (fun w => by kernel_rfl) ?_
    refine Sx.G.skip (by kernel_rfl) ?_
    refine Sx.G.skip (by kernel_rfl) ?_
    refine Sx.G.skip (by kernel_rfl) ?_
    refine Sx.G.pure (.bool false) (by kernel_rfl) (fun w => by kernel_rfl) ?_
    refine Sx.G.pure (.bool false) (by kernel_rfl) (fun w => by kernel_rfl) ?_
    refine Sx.G.skip (by kernel_rfl) ?_
    refine Sx.G.skip (by kernel_rfl) ?_
    refine Sx.G.skip (by kernel_rfl) ?_
    refine Sx.G.pure (.bool false) (by kernel_rfl) (fun w => by kernel_rfl) ?_
    refine Sx.G.pure (.bool false) (by kernel_rfl) (fun w => by kernel_rfl) ?_
    refine Sx.G.skip (by kernel_rfl) ?_
    refine Sx.G.skip (by kernel_rfl) ?_
    refine Sx.G.skip (by kernel_rfl) ?_
    refine Sx.G.pure (.bool false) (by kernel_rfl) (fun w => by kernel_rfl) ?_
    refine Sx.G.pure (.bool false) (by kernel_rfl) (fun w => by kernel_rfl) ?_
    refine Sx.G.skip (by kernel_rfl) ?_
    refine Sx.G.skip (by kernel_rfl) ?_
    refine Sx.G.skip (by kernel_rfl) ?_
    refine Sx.G.pure (.bool false) (by kernel_rfl) (fun w => by kernel_rfl) ?_
    refine Sx.G.pure (.bool false) (by kernel_rfl) (fun w => by kernel_rfl) ?_
    refine Sx.G.skip (by kernel_rfl) ?_
    refine Sx.G.skip (by kernel_rfl) ?_
    refine Sx.G.skip (by kernel_rfl) ?_
    refine Sx.G.skip (by kernel_rfl) ?_
    refine Sx.G.pure (.bool false) (by kernel_rfl) (fun w => by kernel_rfl) ?_
    refine Sx.G.pure (.bool false) (by kernel_rfl) (fun w => by kernel_rfl) ?_
    refine Sx.G.nil ?_
    refine Sx.E.next ?_
    refine Sx.C.ret ?_
    refine Sx.E.ret1 (.bool false) rfl (by kernel_rfl) (fun w S => ?_)
    exact ⟨congrArg Ending.returned (congrArg Value.bool (by simp only [guestOk, hb2, Bool.and_true, Bool.and_false, Bool.false_and, Bool.true_and])), S.below⟩
  · have hb2 := hc2
    refine Sx.G.pure (.pointer (some ⟨b1, 1, none⟩)) (by kernel_rfl) (fun w => by kernel_rfl) ?_
    refine Sx.G.ld1 3 (.tmp 7) b1 1 0 [.slice PA0 g.prog.length Pc0, .int .i64 g.a, .int .i64 g.pc, .slice PA1 g.wr.length Pc1, .slice PA2 g.lv.length Pc2, .int .i64 g.t.1, .int .i64 g.t.2.1, .bool g.t.2.2, .int .i64 g.pd, .int .i64 g.x.1, .int .i64 g.x.2.1, .bool g.x.2.2.1, .int .i64 g.x.2.2.2, .bool g.hl, .slice PA3 g.seen.length Pc3] (.int .i64 g.a) rfl (by kernel_rfl) (by kernel_rfl) rfl (by kernel_rfl) (by kernel_rfl) ?_
    refine Sx.G.plain 57 #[.int .i64 g.a, .int .i64 0, .int .i64 99] (.bool (inB g.a 0 99)) (by kernel_rfl) (fun w => by kernel_rfl) (fun w S => by exact ((spec_in g.a 0 99 _).mono fun e w' h => And.intro h.1 (below_same h.2))) ?_
    refine Sx.G.pure (.bool (inB g.a 0 99)) (by kernel_rfl) (fun w => by kernel_rfl) ?_
    refine Sx.G.pure (.bool (inB g.a 0 99)) (by kernel_rfl) (fun w => by kernel_rfl) ?_
    cases hc3 : (inB g.a 0 99)
    · have hb3 := hc3
      refine Sx.G.skip (by kernel_rfl) ?_
      refine Sx.G.skip (by kernel_rfl) ?_
      refine Sx.G.skip (by kernel_rfl) ?_
      refine Sx.G.pure (.bool false) (by kernel_rfl) (fun w => by kernel_rfl) ?_
      refine Sx.G.pure (.bool false) (by kernel_rfl) (fun w => by kernel_rfl) ?_
      refine Sx.G.skip (by kernel_rfl) ?_
      refine Sx.G.skip (by kernel_rfl) ?_
      refine Sx.G.skip (by kernel_rfl) ?_
      refine Sx.G.pure (.bool false) (by kernel_rfl) (fun w => by kernel_rfl) ?_
      refine Sx.G.pure (.bool false) (by kernel_rfl) (fun w => by kernel_rfl) ?_
      refine Sx.G.skip (by kernel_rfl) ?_
      refine Sx.G.skip (by kernel_rfl) ?_
      refine Sx.G.skip (by kernel_rfl) ?_
      refine Sx.G.pure (.bool false) (by kernel_rfl) (fun w => by kernel_rfl) ?_
      refine Sx.G.pure (.bool false) (by kernel_rfl) (fun w => by kernel_rfl) ?_
      refine Sx.G.skip (by kernel_rfl) ?_
      refine Sx.G.skip (by kernel_rfl) ?_
      refine Sx.G.skip (by kernel_rfl) ?_
      refine Sx.G.pure (.bool false) (by kernel_rfl) (fun w => by kernel_rfl) ?_
      refine Sx.G.pure (.bool false) (by kernel_rfl) (fun w => by kernel_rfl) ?_
      refine Sx.G.skip (by kernel_rfl) ?_
      refine Sx.G.skip (by kernel_rfl) ?_
      refine Sx.G.skip (by kernel_rfl) ?_
      refine Sx.G.pure (.bool false) (by kernel_rfl) (fun w => by kernel_rfl) ?_
      refine Sx.G.pure (.bool false) (by kernel_rfl) (fun w => by kernel_rfl) ?_
      refine Sx.G.skip (by kernel_rfl) ?_
      refine Sx.G.skip (by kernel_rfl) ?_
      refine Sx.G.skip (by kernel_rfl) ?_
      refine Sx.G.pure (.bool false) (by kernel_rfl) (fun w => by kernel_rfl) ?_
      refine Sx.G.pure (.bool false) (by kernel_rfl) (fun w => by kernel_rfl) ?_
      refine Sx.G.skip (by kernel_rfl) ?_
      refine Sx.G.skip (by kernel_rfl) ?_
      refine Sx.G.skip (by kernel_rfl) ?_
      refine Sx.G.skip (by kernel_rfl) ?_
      refine Sx.G.pure (.bool false) (by kernel_rfl) (fun w => by kernel_rfl) ?_
      refine Sx.G.pure (.bool false) (by kernel_rfl) (fun w => by kernel_rfl) ?_
      refine Sx.G.nil ?_
      refine Sx.E.next ?_
      refine Sx.C.ret ?_
      refine Sx.E.ret1 (.bool false) rfl (by kernel_rfl) (fun w S => ?_)
      exact ⟨congrArg Ending.returned (congrArg Value.bool (by simp only [guestOk, hb2, hb3, Bool.and_true, Bool.and_false, Bool.false_and, Bool.true_and])), S.below⟩
    · have hb3 := hc3
      refine Sx.G.pure (.pointer (some ⟨b1, 2, none⟩)) (by kernel_rfl) (fun w => by kernel_rfl) ?_
      refine Sx.G.ld1 3 (.tmp 12) b1 2 0 [.slice PA0 g.prog.length Pc0, .int .i64 g.a, .int .i64 g.pc, .slice PA1 g.wr.length Pc1, .slice PA2 g.lv.length Pc2, .int .i64 g.t.1, .int .i64 g.t.2.1, .bool g.t.2.2, .int .i64 g.pd, .int .i64 g.x.1, .int .i64 g.x.2.1, .bool g.x.2.2.1, .int .i64 g.x.2.2.2, .bool g.hl, .slice PA3 g.seen.length Pc3] (.int .i64 g.pc) rfl (by kernel_rfl) (by kernel_rfl) rfl (by kernel_rfl) (by kernel_rfl) ?_
      refine Sx.G.plain 57 #[.int .i64 g.pc, .int .i64 0, .int .i64 12] (.bool (inB g.pc 0 12)) (by kernel_rfl) (fun w => by kernel_rfl) (fun w S => by exact ((spec_in g.pc 0 12 _).mono fun e w' h => And.intro h.1 (below_same h.2))) ?_
      refine Sx.G.pure (.bool (inB g.pc 0 12)) (by kernel_rfl) (fun w => by kernel_rfl) ?_
      refine Sx.G.pure (.bool (inB g.pc 0 12)) (by kernel_rfl) (fun w => by kernel_rfl) ?_
      cases hc4 : (inB g.pc 0 12)
      · have hb4 := hc4
        refine Sx.G.skip (by kernel_rfl) ?_
        refine Sx.G.skip (by kernel_rfl) ?_
        refine Sx.G.skip (by kernel_rfl) ?_
        refine Sx.G.pure (.bool false) (by kernel_rfl) (fun w => by kernel_rfl) ?_
        refine Sx.G.pure (.bool false) (by kernel_rfl) (fun w => by kernel_rfl) ?_
        refine Sx.G.skip (by kernel_rfl) ?_
        refine Sx.G.skip (by kernel_rfl) ?_
        refine Sx.G.skip (by kernel_rfl) ?_
        refine Sx.G.pure (.bool false) (by kernel_rfl) (fun w => by kernel_rfl) ?_
        refine Sx.G.pure (.bool false) (by kernel_rfl) (fun w => by kernel_rfl) ?_
        refine Sx.G.skip (by kernel_rfl) ?_
        refine Sx.G.skip (by kernel_rfl) ?_
        refine Sx.G.skip (by kernel_rfl) ?_
        refine Sx.G.pure (.bool false) (by kernel_rfl) (fun w => by kernel_rfl) ?_
        refine Sx.G.pure (.bool false) (by kernel_rfl) (fun w => by kernel_rfl) ?_
        refine Sx.G.skip (by kernel_rfl) ?_
        refine Sx.G.skip (by kernel_rfl) ?_
        refine Sx.G.skip (by kernel_rfl) ?_
        refine Sx.G.pure (.bool false) (by kernel_rfl) (fun w => by kernel_rfl) ?_
        refine Sx.G.pure (.bool false) (by kernel_rfl) (fun w => by kernel_rfl) ?_
        refine Sx.G.skip (by kernel_rfl) ?_
        refine Sx.G.skip (by kernel_rfl) ?_
        refine Sx.G.skip (by kernel_rfl) ?_
        refine Sx.G.pure (.bool false) (by kernel_rfl) (fun w => by kernel_rfl) ?_
        refine Sx.G.pure (.bool false) (by kernel_rfl) (fun w => by kernel_rfl) ?_
        refine Sx.G.skip (by kernel_rfl) ?_
        refine Sx.G.skip (by kernel_rfl) ?_
        refine Sx.G.skip (by kernel_rfl) ?_
        refine Sx.G.skip (by kernel_rfl) ?_
        refine Sx.G.pure (.bool false) (by kernel_rfl) (fun w => by kernel_rfl) ?_
        refine Sx.G.pure (.bool false) (by kernel_rfl) (fun w => by kernel_rfl) ?_
        refine Sx.G.nil ?_
        refine Sx.E.next ?_
        refine Sx.C.ret ?_
        refine Sx.E.ret1 (.bool false) rfl (by kernel_rfl) (fun w S => ?_)
        exact ⟨congrArg Ending.returned (congrArg Value.bool (by simp only [guestOk, hb2, hb3, hb4, Bool.and_true, Bool.and_false, Bool.false_and, Bool.true_and])), S.below⟩
      · have hb4 := hc4
        refine Sx.G.pure (.pointer (some ⟨b1, 3, none⟩)) (by kernel_rfl) (fun w => by kernel_rfl) ?_
        refine Sx.G.ld1 45 (.tmp 17) b1 3 0 [.slice PA0 g.prog.length Pc0, .int .i64 g.a, .int .i64 g.pc, .slice PA1 g.wr.length Pc1, .slice PA2 g.lv.length Pc2, .int .i64 g.t.1, .int .i64 g.t.2.1, .bool g.t.2.2, .int .i64 g.pd, .int .i64 g.x.1, .int .i64 g.x.2.1, .bool g.x.2.2.1, .int .i64 g.x.2.2.2, .bool g.hl, .slice PA3 g.seen.length Pc3] (.slice PA1 g.wr.length Pc1) rfl (by kernel_rfl) (by kernel_rfl) rfl (by kernel_rfl) (by kernel_rfl) ?_
        refine Sx.G.plain 99 #[.slice PA1 g.wr.length Pc1, .int .i64 4, .int .i64 8] (.bool (okTab g.wr 4 8)) (by kernel_rfl) (fun w => by kernel_rfl) (fun w S => by exact spec_tabOk PA1 g.wr.length Pc1 0 4 8 g.wr _ q1 rfl (by decide) (by rw [← pcells_s]; exact p2_lies (St.old S h1))) ?_
        refine Sx.G.pure (.bool (okTab g.wr 4 8)) (by kernel_rfl) (fun w => by kernel_rfl) ?_
        refine Sx.G.pure (.bool (okTab g.wr 4 8)) (by kernel_rfl) (fun w => by kernel_rfl) ?_
        cases hc5 : (okTab g.wr 4 8)
        · have hb5 := hc5
          refine Sx.G.skip (by kernel_rfl) ?_
          refine Sx.G.skip (by kernel_rfl) ?_
          refine Sx.G.skip (by kernel_rfl) ?_
          refine Sx.G.pure (.bool false) (by kernel_rfl) (fun w => by kernel_rfl) ?_
          refine Sx.G.pure (.bool false) (by kernel_rfl) (fun w => by kernel_rfl) ?_
          refine Sx.G.skip (by kernel_rfl) ?_
          refine Sx.G.skip (by kernel_rfl) ?_
          refine Sx.G.skip (by kernel_rfl) ?_
          refine Sx.G.pure (.bool false) (by kernel_rfl) (fun w => by kernel_rfl) ?_
          refine Sx.G.pure (.bool false) (by kernel_rfl) (fun w => by kernel_rfl) ?_
          refine Sx.G.skip (by kernel_rfl) ?_
          refine Sx.G.skip (by kernel_rfl) ?_
          refine Sx.G.skip (by kernel_rfl) ?_
          refine Sx.G.pure (.bool false) (by kernel_rfl) (fun w => by kernel_rfl) ?_
          refine Sx.G.pure (.bool false) (by kernel_rfl) (fun w => by kernel_rfl) ?_
          refine Sx.G.skip (by kernel_rfl) ?_
          refine Sx.G.skip (by kernel_rfl) ?_
          refine Sx.G.skip (by kernel_rfl) ?_
          refine Sx.G.pure (.bool false) (by kernel_rfl) (fun w => by kernel_rfl) ?_
          refine Sx.G.pure (.bool false) (by kernel_rfl) (fun w => by kernel_rfl) ?_
          refine Sx.G.skip (by kernel_rfl) ?_
          refine Sx.G.skip (by kernel_rfl) ?_
          refine Sx.G.skip (by kernel_rfl) ?_
          refine Sx.G.skip (by kernel_rfl) ?_
          refine Sx.G.pure (.bool false) (by kernel_rfl) (fun w => by kernel_rfl) ?_
          refine Sx.G.pure (.bool false) (by kernel_rfl) (fun w => by kernel_rfl) ?_
          refine Sx.G.nil ?_
          refine Sx.E.next ?_
          refine Sx.C.ret ?_
          refine Sx.E.ret1 (.bool false) rfl (by kernel_rfl) (fun w S => ?_)
          exact ⟨congrArg Ending.returned (congrArg Value.bool (by simp only [guestOk, hb2, hb3, hb4, hb5, Bool.and_true, Bool.and_false, Bool.false_and, Bool.true_and])), S.below⟩
        · have hb5 := hc5
          refine Sx.G.pure (.pointer (some ⟨b1, 4, none⟩)) (by kernel_rfl) (fun w => by kernel_rfl) ?_
          refine Sx.G.ld1 45 (.tmp 22) b1 4 0 [.slice PA0 g.prog.length Pc0, .int .i64 g.a, .int .i64 g.pc, .slice PA1 g.wr.length Pc1, .slice PA2 g.lv.length Pc2, .int .i64 g.t.1, .int .i64 g.t.2.1, .bool g.t.2.2, .int .i64 g.pd, .int .i64 g.x.1, .int .i64 g.x.2.1, .bool g.x.2.2.1, .int .i64 g.x.2.2.2, .bool g.hl, .slice PA3 g.seen.length Pc3] (.slice PA2 g.lv.length Pc2) rfl (by kernel_rfl) (by kernel_rfl) rfl (by kernel_rfl) (by kernel_rfl) ?_
          refine Sx.G.plain 99 #[.slice PA2 g.lv.length Pc2, .int .i64 4, .int .i64 8] (.bool (okTab g.lv 4 8)) (by kernel_rfl) (fun w => by kernel_rfl) (fun w S => by exact spec_tabOk PA2 g.lv.length Pc2 0 4 8 g.lv _ q2 rfl (by decide) (by rw [← pcells_s]; exact p2_lies (St.old S h2))) ?_
          refine Sx.G.pure (.bool (okTab g.lv 4 8)) (by kernel_rfl) (fun w => by kernel_rfl) ?_
          refine Sx.G.pure (.bool (okTab g.lv 4 8)) (by kernel_rfl) (fun w => by kernel_rfl) ?_
          cases hc6 : (okTab g.lv 4 8)
          · have hb6 := hc6
            refine Sx.G.skip (by kernel_rfl) ?_
            refine Sx.G.skip (by kernel_rfl) ?_
            refine Sx.G.skip (by kernel_rfl) ?_
            refine Sx.G.pure (.bool false) (by kernel_rfl) (fun w => by kernel_rfl) ?_
            refine Sx.G.pure (.bool false) (by kernel_rfl) (fun w => by kernel_rfl) ?_
            refine Sx.G.skip (by kernel_rfl) ?_
            refine Sx.G.skip (by kernel_rfl) ?_
            refine Sx.G.skip (by kernel_rfl) ?_
            refine Sx.G.pure (.bool false) (by kernel_rfl) (fun w => by kernel_rfl) ?_
            refine Sx.G.pure (.bool false) (by kernel_rfl) (fun w => by kernel_rfl) ?_
            refine Sx.G.skip (by kernel_rfl) ?_
            refine Sx.G.skip (by kernel_rfl) ?_
            refine Sx.G.skip (by kernel_rfl) ?_
            refine Sx.G.pure (.bool false) (by kernel_rfl) (fun w => by kernel_rfl) ?_
            refine Sx.G.pure (.bool false) (by kernel_rfl) (fun w => by kernel_rfl) ?_
            refine Sx.G.skip (by kernel_rfl) ?_
            refine Sx.G.skip (by kernel_rfl) ?_
            refine Sx.G.skip (by kernel_rfl) ?_
            refine Sx.G.skip (by kernel_rfl) ?_
            refine Sx.G.pure (.bool false) (by kernel_rfl) (fun w => by kernel_rfl) ?_
            refine Sx.G.pure (.bool false) (by kernel_rfl) (fun w => by kernel_rfl) ?_
            refine Sx.G.nil ?_
            refine Sx.E.next ?_
            refine Sx.C.ret ?_
            refine Sx.E.ret1 (.bool false) rfl (by kernel_rfl) (fun w S => ?_)
            exact ⟨congrArg Ending.returned (congrArg Value.bool (by simp only [guestOk, hb2, hb3, hb4, hb5, hb6, Bool.and_true, Bool.and_false, Bool.false_and, Bool.true_and])), S.below⟩
          · have hb6 := hc6
            refine Sx.G.pure (.pointer (some ⟨b1, 5, none⟩)) (by kernel_rfl) (fun w => by kernel_rfl) ?_
            refine Sx.G.ld 47 (.tmp 27) b1 5 0 [.slice PA0 g.prog.length Pc0, .int .i64 g.a, .int .i64 g.pc, .slice PA1 g.wr.length Pc1, .slice PA2 g.lv.length Pc2, .int .i64 g.t.1, .int .i64 g.t.2.1, .bool g.t.2.2, .int .i64 g.pd, .int .i64 g.x.1, .int .i64 g.x.2.1, .bool g.x.2.2.1, .int .i64 g.x.2.2.2, .bool g.hl, .slice PA3 g.seen.length Pc3] [.int .i64 g.t.1, .int .i64 g.t.2.1, .bool g.t.2.2] rfl (by kernel_rfl) (by kernel_rfl) rfl (by kernel_rfl) (by kernel_rfl) (by kernel_rfl) ?_
            refine Sx.G.plain 100 #[.agg #[.int .i64 g.t.1, .int .i64 g.t.2.1, .bool g.t.2.2]] (.bool (ctlOk (g.t.1, g.t.2.1, g.t.2.2))) (by kernel_rfl) (fun w => by kernel_rfl) (fun w S => by exact spec_ctlOk g.t.1 g.t.2.1 g.t.2.2 _) ?_
            refine Sx.G.pure (.bool (ctlOk (g.t.1, g.t.2.1, g.t.2.2))) (by kernel_rfl) (fun w => by kernel_rfl) ?_
            refine Sx.G.pure (.bool (ctlOk (g.t.1, g.t.2.1, g.t.2.2))) (by kernel_rfl) (fun w => by kernel_rfl) ?_
            cases hc7 : (ctlOk (g.t.1, g.t.2.1, g.t.2.2))
            · have hb7 := hc7
              refine Sx.G.skip (by kernel_rfl) ?_
              refine Sx.G.skip (by kernel_rfl) ?_
              refine Sx.G.skip (by kernel_rfl) ?_
              refine Sx.G.pure (.bool false) (by kernel_rfl) (fun w => by kernel_rfl) ?_
              refine Sx.G.pure (.bool false) (by kernel_rfl) (fun w => by kernel_rfl) ?_
              refine Sx.G.skip (by kernel_rfl) ?_
              refine Sx.G.skip (by kernel_rfl) ?_
              refine Sx.G.skip (by kernel_rfl) ?_
              refine Sx.G.pure (.bool false) (by kernel_rfl) (fun w => by kernel_rfl) ?_
              refine Sx.G.pure (.bool false) (by kernel_rfl) (fun w => by kernel_rfl) ?_
              refine Sx.G.skip (by kernel_rfl) ?_
              refine Sx.G.skip (by kernel_rfl) ?_
              refine Sx.G.skip (by kernel_rfl) ?_
              refine Sx.G.skip (by kernel_rfl) ?_
              refine Sx.G.pure (.bool false) (by kernel_rfl) (fun w => by kernel_rfl) ?_
              refine Sx.G.pure (.bool false) (by kernel_rfl) (fun w => by kernel_rfl) ?_
              refine Sx.G.nil ?_
              refine Sx.E.next ?_
              refine Sx.C.ret ?_
              refine Sx.E.ret1 (.bool false) rfl (by kernel_rfl) (fun w S => ?_)
              exact ⟨congrArg Ending.returned (congrArg Value.bool (by simp only [guestOk, hb2, hb3, hb4, hb5, hb6, hb7, Bool.and_true, Bool.and_false, Bool.false_and, Bool.true_and])), S.below⟩
            · have hb7 := hc7
              refine Sx.G.pure (.pointer (some ⟨b1, 8, none⟩)) (by kernel_rfl) (fun w => by kernel_rfl) ?_
              refine Sx.G.ld1 3 (.tmp 32) b1 8 0 [.slice PA0 g.prog.length Pc0, .int .i64 g.a, .int .i64 g.pc, .slice PA1 g.wr.length Pc1, .slice PA2 g.lv.length Pc2, .int .i64 g.t.1, .int .i64 g.t.2.1, .bool g.t.2.2, .int .i64 g.pd, .int .i64 g.x.1, .int .i64 g.x.2.1, .bool g.x.2.2.1, .int .i64 g.x.2.2.2, .bool g.hl, .slice PA3 g.seen.length Pc3] (.int .i64 g.pd) rfl (by kernel_rfl) (by kernel_rfl) rfl (by kernel_rfl) (by kernel_rfl) ?_
              refine Sx.G.plain 58 #[.int .i64 g.pd] (.bool (pend g.pd)) (by kernel_rfl) (fun w => by kernel_rfl) (fun w S => by exact ((spec_pend g.pd _).mono fun e w' h => And.intro h.1 (below_same h.2))) ?_
              refine Sx.G.pure (.bool (pend g.pd)) (by kernel_rfl) (fun w => by kernel_rfl) ?_
              refine Sx.G.pure (.bool (pend g.pd)) (by kernel_rfl) (fun w => by kernel_rfl) ?_
              cases hc8 : (pend g.pd)
              · have hb8 := hc8
                refine Sx.G.skip (by kernel_rfl) ?_
                refine Sx.G.skip (by kernel_rfl) ?_
                refine Sx.G.skip (by kernel_rfl) ?_
                refine Sx.G.pure (.bool false) (by kernel_rfl) (fun w => by kernel_rfl) ?_
                refine Sx.G.pure (.bool false) (by kernel_rfl) (fun w => by kernel_rfl) ?_
                refine Sx.G.skip (by kernel_rfl) ?_
                refine Sx.G.skip (by kernel_rfl) ?_
                refine Sx.G.skip (by kernel_rfl) ?_
                refine Sx.G.skip (by kernel_rfl) ?_
                refine Sx.G.pure (.bool false) (by kernel_rfl) (fun w => by kernel_rfl) ?_
                refine Sx.G.pure (.bool false) (by kernel_rfl) (fun w => by kernel_rfl) ?_
                refine Sx.G.nil ?_
                refine Sx.E.next ?_
                refine Sx.C.ret ?_
                refine Sx.E.ret1 (.bool false) rfl (by kernel_rfl) (fun w S => ?_)
                exact ⟨congrArg Ending.returned (congrArg Value.bool (by simp only [guestOk, hb2, hb3, hb4, hb5, hb6, hb7, hb8, Bool.and_true, Bool.and_false, Bool.false_and, Bool.true_and])), S.below⟩
              · have hb8 := hc8
                refine Sx.G.pure (.pointer (some ⟨b1, 9, none⟩)) (by kernel_rfl) (fun w => by kernel_rfl) ?_
                refine Sx.G.ld 49 (.tmp 37) b1 9 0 [.slice PA0 g.prog.length Pc0, .int .i64 g.a, .int .i64 g.pc, .slice PA1 g.wr.length Pc1, .slice PA2 g.lv.length Pc2, .int .i64 g.t.1, .int .i64 g.t.2.1, .bool g.t.2.2, .int .i64 g.pd, .int .i64 g.x.1, .int .i64 g.x.2.1, .bool g.x.2.2.1, .int .i64 g.x.2.2.2, .bool g.hl, .slice PA3 g.seen.length Pc3] [.int .i64 g.x.1, .int .i64 g.x.2.1, .bool g.x.2.2.1, .int .i64 g.x.2.2.2] rfl (by kernel_rfl) (by kernel_rfl) rfl (by kernel_rfl) (by kernel_rfl) (by kernel_rfl) ?_
                refine Sx.G.plain 101 #[.agg #[.int .i64 g.x.1, .int .i64 g.x.2.1, .bool g.x.2.2.1, .int .i64 g.x.2.2.2]] (.bool (exitOk (g.x.1, g.x.2.1, g.x.2.2.1, g.x.2.2.2))) (by kernel_rfl) (fun w => by kernel_rfl) (fun w S => by exact spec_exitOk g.x.1 g.x.2.1 g.x.2.2.1 g.x.2.2.2 _) ?_
                refine Sx.G.pure (.bool (exitOk (g.x.1, g.x.2.1, g.x.2.2.1, g.x.2.2.2))) (by kernel_rfl) (fun w => by kernel_rfl) ?_
                refine Sx.G.pure (.bool (exitOk (g.x.1, g.x.2.1, g.x.2.2.1, g.x.2.2.2))) (by kernel_rfl) (fun w => by kernel_rfl) ?_
                cases hc9 : (exitOk (g.x.1, g.x.2.1, g.x.2.2.1, g.x.2.2.2))
                · have hb9 := hc9
                  refine Sx.G.skip (by kernel_rfl) ?_
                  refine Sx.G.skip (by kernel_rfl) ?_
                  refine Sx.G.skip (by kernel_rfl) ?_
                  refine Sx.G.skip (by kernel_rfl) ?_
                  refine Sx.G.pure (.bool false) (by kernel_rfl) (fun w => by kernel_rfl) ?_
                  refine Sx.G.pure (.bool false) (by kernel_rfl) (fun w => by kernel_rfl) ?_
                  refine Sx.G.nil ?_
                  refine Sx.E.next ?_
                  refine Sx.C.ret ?_
                  refine Sx.E.ret1 (.bool false) rfl (by kernel_rfl) (fun w S => ?_)
                  exact ⟨congrArg Ending.returned (congrArg Value.bool (by simp only [guestOk, hb2, hb3, hb4, hb5, hb6, hb7, hb8, hb9, Bool.and_true, Bool.and_false, Bool.false_and, Bool.true_and])), S.below⟩
                · have hb9 := hc9
                  refine Sx.G.pure (.pointer (some ⟨b1, 14, none⟩)) (by kernel_rfl) (fun w => by kernel_rfl) ?_
                  refine Sx.G.ld1 26 (.tmp 42) b1 14 0 [.slice PA0 g.prog.length Pc0, .int .i64 g.a, .int .i64 g.pc, .slice PA1 g.wr.length Pc1, .slice PA2 g.lv.length Pc2, .int .i64 g.t.1, .int .i64 g.t.2.1, .bool g.t.2.2, .int .i64 g.pd, .int .i64 g.x.1, .int .i64 g.x.2.1, .bool g.x.2.2.1, .int .i64 g.x.2.2.2, .bool g.hl, .slice PA3 g.seen.length Pc3] (.slice PA3 g.seen.length Pc3) rfl (by kernel_rfl) (by kernel_rfl) rfl (by kernel_rfl) (by kernel_rfl) ?_
                  refine Sx.G.pure (.int .i64 ((g.seen.length : Nat) : Int)) (by kernel_rfl) (fun w => by kernel_rfl) ?_
                  refine Sx.G.pure (.bool (decide (((g.seen.length : Nat) : Int) ≤ 40))) (by kernel_rfl) (fun w => by kernel_rfl) ?_
                  refine Sx.G.pure (.bool (decide (((g.seen.length : Nat) : Int) ≤ 40))) (by kernel_rfl) (fun w => by kernel_rfl) ?_
                  refine Sx.G.pure (.bool (decide (((g.seen.length : Nat) : Int) ≤ 40))) (by kernel_rfl) (fun w => by kernel_rfl) ?_
                  refine Sx.G.nil ?_
                  refine Sx.E.next ?_
                  refine Sx.C.ret ?_
                  refine Sx.E.ret1 (.bool (decide (((g.seen.length : Nat) : Int) ≤ 40))) rfl (by kernel_rfl) (fun w S => ?_)
                  exact ⟨congrArg Ending.returned (congrArg Value.bool (by simp only [guestOk, hb2, hb3, hb4, hb5, hb6, hb7, hb8, hb9, Bool.and_true, Bool.and_false, Bool.false_and, Bool.true_and])), S.below⟩
end Go.Proofs.Ytldgadmpclgfhaa.Guests
namespace Go.Proofs.Ytldgadmpclgfhaa.Kit
set_option maxRecDepth 100000
open Go.ChangeShapes Go.WideShapes Go.ChangeAt Go.RowKit Go.Deep
open Go.Proofs.Ytldgadmpclgfhaa.Base Go.Proofs.Ytldgadmpclgfhaa.Mem Go.Proofs.Ytldgadmpclgfhaa.Data Go.Proofs.Ytldgadmpclgfhaa.Stt Go.Proofs.Ytldgadmpclgfhaa.Guests Go.Proofs.Ytldgadmpclgfhaa.Ctls Go.Proofs.Ytldgadmpclgfhaa.Exits Go.Proofs.Ytldgadmpclgfhaa.Irqs
set_option linter.unusedVariables false
set_option linter.unusedSimpArgs false
/-- Is a machine valid? -/
def bareOk (b : bT) : Bool := b.gs.all guestOk && Grid.memB b.mem 8 && inB ((b.gs.length : Nat) : Int) 1 2 && decide (((b.outs.length : Nat) : Int) ≤ 40) && Irqs.pend b.pd
end Go.Proofs.Ytldgadmpclgfhaa.Kit
namespace Go.Proofs.Ytldgadmpclgfhaa.Kit
set_option maxRecDepth 100000
open Go.ChangeShapes Go.WideShapes Go.ChangeAt Go.RowKit Go.Deep
open Go.Proofs.Ytldgadmpclgfhaa.Base Go.Proofs.Ytldgadmpclgfhaa.Mem Go.Proofs.Ytldgadmpclgfhaa.Data Go.Proofs.Ytldgadmpclgfhaa.Stt Go.Proofs.Ytldgadmpclgfhaa.Guests Go.Proofs.Ytldgadmpclgfhaa.Ctls Go.Proofs.Ytldgadmpclgfhaa.Exits Go.Proofs.Ytldgadmpclgfhaa.Irqs Go.Proofs.Ytldgadmpclgfhaa.Inss
set_option linter.unusedVariables false
set_option linter.unusedSimpArgs false
theorem beq_dec (a b : Int) : (a == b) = decide (a = b) := rfl
set_option maxRecDepth 100000 in
set_option maxHeartbeats 4000000 in
theorem specx_memok (xs : List (List Int)) (A : Option Addr) (c : Nat) (p : Int) (w : World) (hc : (rLsw (rLsw rInt)).cap xs) (h : rdLst (rLsw rInt) w 0 w.heap.size xs [.slice A xs.length c]) : Calls Try.prog 56 #[.slice A xs.length c, .int .i64 p] w (fun e w' => e = .returned (.bool (Grid.memB xs p)) ∧ Below w.heap.size w w') := by
  obtain ⟨hl, hce⟩ := hc
  refine Sx.enter (args := [.slice A xs.length c, .int .i64 p]) Try.func56 rfl Try.ntmps56 rfl ?_
  refine Sx.C.seq ?_
  refine Sx.C.region ?_
  refine Sx.G.pure (.bool false) (by kernel_rfl) (fun w => by kernel_rfl) ?_
  refine Sx.G.nil ?_
  refine Sx.E.next ?_
  refine Sx.C.seq ?_
  refine Sx.C.seq ?_
  refine Sx.C.region ?_
  refine Sx.G.pure (.int .i64 0) (by kernel_rfl) (fun w => by kernel_rfl) ?_
  refine Sx.G.nil ?_
  refine Sx.E.next ?_
  refine Sx.C.block ?_
  refine Sx.C.loop (α := Nat) (fun i => i ≤ xs.length ∧ (xs.take i).all Grid.pageB = true) (fun i => [(5, .int .i64 (i : Int)), (0, .slice A xs.length c), (1, .int .i64 p), (4, .bool false)]) (fun i => []) (fun i => xs.length - i) 0 ⟨Nat.zero_le _, rfl⟩ (fun a hA => (Sx.Ag.and hA (Sx.Ag.and hA (Sx.Ag.and hA (Sx.Ag.and hA (Sx.Ag.none hA) _ _ (by kernel_rfl)) _ _ (by kernel_rfl)) _ _ (by kernel_rfl)) _ _ (by kernel_rfl))) (fun w S => S) (fun i hx => ?_)
  have hxi := hx.1
  refine Sx.C.seq ?_
  refine Sx.C.seq ?_
  refine Sx.C.region ?_
  refine Sx.G.pure (.int .i64 (i : Int)) (by kernel_rfl) (fun w => by kernel_rfl) ?_
  refine Sx.G.pure (.slice A xs.length c) (by kernel_rfl) (fun w => by kernel_rfl) ?_
  refine Sx.G.pure (.int .i64 ((xs.length : Nat) : Int)) (by kernel_rfl) (fun w => by kernel_rfl) ?_
  refine Sx.G.pure (.bool (decide ((i : Int) < ((xs.length : Nat) : Int)))) (by kernel_rfl) (fun w => by kernel_rfl) ?_
  refine Sx.G.nil ?_
  refine Sx.E.next ?_
  cases hc1 : (decide ((i : Int) < ((xs.length : Nat) : Int)))
  · have hb1 := hc1
    replace hc1 := of_decide_eq_false hc1
    refine Sx.C.no (by kernel_rfl) (by kernel_rfl) ?_
    refine Sx.C.exit ?_
    refine Sx.E.then_exit ?_
    refine Sx.E.then_exit ?_
    refine Sx.E.block_hit ?_
    refine Sx.E.next ?_
    refine Sx.C.seq ?_
    refine Sx.C.region ?_
    refine Sx.G.pure (.slice A xs.length c) (by kernel_rfl) (fun w => by kernel_rfl) ?_
    refine Sx.G.pure (.int .i64 ((xs.length : Nat) : Int)) (by kernel_rfl) (fun w => by kernel_rfl) ?_
    refine Sx.G.pure (.int .i64 p) (by kernel_rfl) (fun w => by kernel_rfl) ?_
    refine Sx.G.pure (.bool (((xs.length : Nat) : Int) == p)) (by kernel_rfl) (fun w => by kernel_rfl) ?_
    refine Sx.G.pure (.bool (((xs.length : Nat) : Int) == p)) (by kernel_rfl) (fun w => by kernel_rfl) ?_
    refine Sx.G.nil ?_
    refine Sx.E.next ?_
    refine Sx.C.ret ?_
    refine Sx.E.ret1 (.bool (((xs.length : Nat) : Int) == p)) rfl (by kernel_rfl) (fun w S => ?_)
    have hall : xs.all Grid.pageB = true := by have h2 := hx.2; rwa [List.take_of_length_le (by omega)] at h2
    exact ⟨by unfold Grid.memB Grid.pagesB; rw [hall, Bool.true_and, ← beq_dec], S.below⟩
  · have hb1 := hc1
    replace hc1 := of_decide_eq_true hc1
    refine Sx.C.yes (by kernel_rfl) (by kernel_rfl) ?_
    refine Sx.C.skip ?_
    refine Sx.E.next ?_
    refine Sx.C.seq ?_
    refine Sx.C.block ?_
    refine Sx.C.seq ?_
    refine Sx.C.region ?_
    refine Sx.G.pure (.slice A xs.length c) (by kernel_rfl) (fun w => by kernel_rfl) ?_
    refine Sx.G.pure (.int .i64 (i : Int)) (by kernel_rfl) (fun w => by kernel_rfl) ?_
    obtain ⟨b2, f2, es2, eA2, hr2, hl2, hm2⟩ := Sx.old_elem (by decide) h i (by omega)
    subst eA2
    obtain ⟨x2, hx2⟩ : ∃ z_, z_ = (xs[i]'(by omega)) := ⟨_, rfl⟩
    rw [← hx2] at hr2
    have hle2 : x2.length ≤ 1048576 := (hce _ (hx2 ▸ List.getElem_mem _)).1
    replace hr2 : rdLst rInt w 0 w.heap.size x2 es2 := hr2
    obtain ⟨P2, rfl⟩ := lst_rd hr2
    obtain ⟨A2, c2, e2, -⟩ := lst_val hr2
    subst e2
    refine Sx.G.elem 24 26 (.tmp 12) (.tmp 13) 1 24 b2 f2 xs.length c i rfl (by kernel_rfl) (by kernel_rfl) (by kernel_rfl) (by kernel_rfl) (by omega) ?_
    refine Sx.G.ldr1 26 (.tmp 14) b2 ((f2 + i * 1) + 0) (.slice A2 x2.length c2) rfl (by kernel_rfl) (by kernel_rfl) (fun w S => hm2 w _ S 0 _ rfl) (by kernel_rfl) ?_
    refine Sx.G.plain 102 #[.slice A2 x2.length c2] (.bool (Grid.pageB x2)) (by kernel_rfl) (fun w => by kernel_rfl) (fun w S => by exact ((Grid.spec_pageOk A2 x2.length c2 0 _ x2 _ hle2 rfl (i1_lies (St.old (r := (rLsw rInt)) S hr2))).mono fun e w' h => And.intro h.1 (Guests.below_same h.2))) ?_
    refine Sx.G.pure (.bool (!(Grid.pageB x2))) (by kernel_rfl) (fun w => by kernel_rfl) ?_
    refine Sx.G.nil ?_
    refine Sx.E.next ?_
    cases hc3 : (Grid.pageB x2)
    · have hb3 := hc3
      refine Sx.C.yes (by kernel_rfl) (by kernel_rfl) ?_
      refine Sx.C.seq ?_
      refine Sx.C.region ?_
      refine Sx.G.pure (.bool false) (by kernel_rfl) (fun w => by kernel_rfl) ?_
      refine Sx.G.nil ?_
      refine Sx.E.next ?_
      refine Sx.C.ret ?_
      refine Sx.E.block_ret ?_
      refine Sx.E.then_ret ?_
      refine Sx.E.then_ret ?_
      refine Sx.E.block_ret ?_
      refine Sx.E.then_ret ?_
      refine Sx.E.ret1 (.bool false) rfl (by kernel_rfl) (fun w S => ?_)
      have hall : xs.all Grid.pageB = false := by rw [Bool.eq_false_iff]; intro h2; have h3 := List.all_eq_true.1 h2 _ (List.getElem_mem (show i < xs.length by omega)); rw [← hx2, hc3] at h3; cases h3
      exact ⟨by unfold Grid.memB Grid.pagesB; rw [hall]; rfl, S.below⟩
    · have hb3 := hc3
      refine Sx.C.no (by kernel_rfl) (by kernel_rfl) ?_
      refine Sx.C.skip ?_
      refine Sx.E.block_normal ?_
      refine Sx.E.next ?_
      refine Sx.C.region ?_
      refine Sx.G.pure (.int .i64 (i : Int)) (by kernel_rfl) (fun w => by kernel_rfl) ?_
      refine Sx.G.pureq (.int .i64 (IntKind.i64.wrap ((i : Int) + 1))) (.int .i64 ((i + 1 : Nat) : Int)) (by kernel_rfl) (fun w => by kernel_rfl) (congrArg (Value.int .i64) (Sx.wrap_up i (by omega))) ?_
      refine Sx.G.pure (.int .i64 ((i + 1 : Nat) : Int)) (by kernel_rfl) (fun w => by kernel_rfl) ?_
      refine Sx.G.nil ?_
      have hup : (xs.take (i + 1)).all Grid.pageB = true := by rw [Kit.take_step (by omega), List.all_append, hx.2, ← hx2]; simp [hc3]
      exact Sx.E.again (i + 1) ⟨by omega, hup⟩ (by omega) (fun a hA => (Sx.Ag.and hA (Sx.Ag.and hA (Sx.Ag.and hA (Sx.Ag.and hA (Sx.Ag.none hA) _ _ (by kernel_rfl)) _ _ (by kernel_rfl)) _ _ (by kernel_rfl)) _ _ (by kernel_rfl))) (fun w S => S)
set_option maxRecDepth 100000 in
set_option maxHeartbeats 4000000 in
theorem specx_bok (x : bT) (cs : List Value) (w : World) (hc : wB.cap x) (h : wB.rd w 0 w.heap.size x cs) : Calls Try.prog 19 #[.agg cs.toArray] w (fun e w' => e = .returned (.bool (bareOk x)) ∧ Below w.heap.size w w') := by
  obtain ⟨hcap0, hcap1, hcap2, hcap3⟩ := hc
  have hgl : x.gs.length ≤ 1048576 := hcap1.1
  have hR := h
  obtain ⟨hP0, hP1, hP2, rfl, hf0, hf1, hf2⟩ := wB_rd h
  obtain ⟨hA0, hK0, he0, -⟩ := lst_val hf0
  subst he0
  obtain ⟨hA1, hK1, he1, -⟩ := lst_val hf1
  subst he1
  obtain ⟨hA2, hK2, he2, -⟩ := lst_val hf2
  subst he2
  refine Sx.enter (args := [.agg #[.slice hA0 x.mem.length hK0, .slice hA1 x.gs.length hK1, .slice hA2 x.outs.length hK2, .int .i64 x.pd]]) Try.func19 rfl Try.ntmps19 rfl ?_
  refine Sx.C.seq ?_
  refine Sx.C.region ?_
  refine Sx.G.box 28 (.tmp 0) [.slice hA0 x.mem.length hK0, .slice hA1 x.gs.length hK1, .slice hA2 x.outs.length hK2, .int .i64 x.pd] rfl (by kernel_rfl) (by kernel_rfl) (fun b1 => ?_)
  refine Sx.G.pure (.bool false) (by kernel_rfl) (fun w => by kernel_rfl) ?_
  refine Sx.G.nil ?_
  refine Sx.E.next ?_
  refine Sx.C.seq ?_
  refine Sx.C.seq ?_
  refine Sx.C.region ?_
  refine Sx.G.pure (.int .i64 0) (by kernel_rfl) (fun w => by kernel_rfl) ?_
  refine Sx.G.nil ?_
  refine Sx.E.next ?_
  refine Sx.C.block ?_
  refine Sx.C.loop (α := Nat) (fun i => i ≤ x.gs.length ∧ (x.gs.take i).all guestOk = true) (fun i => [(3, .int .i64 (i : Int)), (1, .pointer (some ⟨b1, 0, none⟩)), (2, .bool false)]) (fun i => [vr b1 [.slice hA0 x.mem.length hK0, .slice hA1 x.gs.length hK1, .slice hA2 x.outs.length hK2, .int .i64 x.pd]]) (fun i => x.gs.length - i) 0 ⟨Nat.zero_le _, rfl⟩ (fun a hA => (Sx.Ag.and hA (Sx.Ag.and hA (Sx.Ag.and hA (Sx.Ag.none hA) _ _ (by kernel_rfl)) _ _ (by kernel_rfl)) _ _ (by kernel_rfl))) (fun w S => S) (fun i hx => ?_)
  have hxi := hx.1
  refine Sx.C.seq ?_
  refine Sx.C.seq ?_
  refine Sx.C.region ?_
  refine Sx.G.pure (.int .i64 (i : Int)) (by kernel_rfl) (fun w => by kernel_rfl) ?_
  refine Sx.G.pure (.pointer (some ⟨b1, 1, none⟩)) (by kernel_rfl) (fun w => by kernel_rfl) ?_
  refine Sx.G.ld1 25 (.tmp 5) b1 1 0 [.slice hA0 x.mem.length hK0, .slice hA1 x.gs.length hK1, .slice hA2 x.outs.length hK2, .int .i64 x.pd] (.slice hA1 x.gs.length hK1) rfl (by kernel_rfl) (by kernel_rfl) rfl (by kernel_rfl) (by kernel_rfl) ?_
  refine Sx.G.pure (.int .i64 ((x.gs.length : Nat) : Int)) (by kernel_rfl) (fun w => by kernel_rfl) ?_
  refine Sx.G.pure (.bool (decide ((i : Int) < ((x.gs.length : Nat) : Int)))) (by kernel_rfl) (fun w => by kernel_rfl) ?_
  refine Sx.G.nil ?_
  refine Sx.E.next ?_
  cases hc2 : (decide ((i : Int) < ((x.gs.length : Nat) : Int)))
  · have hb2 := hc2
    replace hc2 := of_decide_eq_false hc2
    refine Sx.C.no (by kernel_rfl) (by kernel_rfl) ?_
    refine Sx.C.exit ?_
    refine Sx.E.then_exit ?_
    refine Sx.E.then_exit ?_
    refine Sx.E.block_hit ?_
    refine Sx.E.next ?_
    refine Sx.C.seq ?_
    refine Sx.C.region ?_
    refine Sx.G.pure (.pointer (some ⟨b1, 0, none⟩)) (by kernel_rfl) (fun w => by kernel_rfl) ?_
    refine Sx.G.ld1 24 (.tmp 18) b1 0 0 [.slice hA0 x.mem.length hK0, .slice hA1 x.gs.length hK1, .slice hA2 x.outs.length hK2, .int .i64 x.pd] (.slice hA0 x.mem.length hK0) rfl (by kernel_rfl) (by kernel_rfl) rfl (by kernel_rfl) (by kernel_rfl) ?_
    refine Sx.G.plain 56 #[.slice hA0 x.mem.length hK0, .int .i64 8] (.bool (Grid.memB x.mem 8)) (by kernel_rfl) (fun w => by kernel_rfl) (fun w S => by exact specx_memok x.mem hA0 hK0 8 _ hcap0 (St.old (r := (rLsw (rLsw rInt))) S hf0)) ?_
    refine Sx.G.pure (.bool (Grid.memB x.mem 8)) (by kernel_rfl) (fun w => by kernel_rfl) ?_
    cases hc3 : (Grid.memB x.mem 8)
    · have hb3 := hc3
      refine Sx.G.skip (by kernel_rfl) ?_
      refine Sx.G.skip (by kernel_rfl) ?_
      refine Sx.G.skip (by kernel_rfl) ?_
      refine Sx.G.skip (by kernel_rfl) ?_
      refine Sx.G.pure (.bool false) (by kernel_rfl) (fun w => by kernel_rfl) ?_
      refine Sx.G.pure (.bool false) (by kernel_rfl) (fun w => by kernel_rfl) ?_
      refine Sx.G.skip (by kernel_rfl) ?_
      refine Sx.G.skip (by kernel_rfl) ?_
      refine Sx.G.skip (by kernel_rfl) ?_
      refine Sx.G.skip (by kernel_rfl) ?_
      refine Sx.G.pure (.bool false) (by kernel_rfl) (fun w => by kernel_rfl) ?_
      refine Sx.G.pure (.bool false) (by kernel_rfl) (fun w => by kernel_rfl) ?_
      refine Sx.G.skip (by kernel_rfl) ?_
      refine Sx.G.skip (by kernel_rfl) ?_
      refine Sx.G.skip (by kernel_rfl) ?_
      refine Sx.G.pure (.bool false) (by kernel_rfl) (fun w => by kernel_rfl) ?_
      refine Sx.G.pure (.bool false) (by kernel_rfl) (fun w => by kernel_rfl) ?_
      refine Sx.G.nil ?_
      refine Sx.E.next ?_
      refine Sx.C.ret ?_
      refine Sx.E.ret1 (.bool false) rfl (by kernel_rfl) (fun w S => ?_)
      have hall : x.gs.all guestOk = true := by have h2 := hx.2; rwa [List.take_of_length_le (by omega)] at h2
      have hall' : bareOk x = (Grid.memB x.mem 8 && inB ((x.gs.length : Nat) : Int) 1 2 && decide (((x.outs.length : Nat) : Int) ≤ 40) && Irqs.pend x.pd) := by unfold bareOk; rw [hall]; simp only [Bool.true_and]
      exact ⟨congrArg Ending.returned (congrArg Value.bool (by simp only [hall', hb2, hb3, Bool.and_true, Bool.and_false, Bool.false_and, Bool.true_and])), S.below⟩
    · have hb3 := hc3
      refine Sx.G.pure (.pointer (some ⟨b1, 1, none⟩)) (by kernel_rfl) (fun w => by kernel_rfl) ?_
      refine Sx.G.ld1 25 (.tmp 22) b1 1 0 [.slice hA0 x.mem.length hK0, .slice hA1 x.gs.length hK1, .slice hA2 x.outs.length hK2, .int .i64 x.pd] (.slice hA1 x.gs.length hK1) rfl (by kernel_rfl) (by kernel_rfl) rfl (by kernel_rfl) (by kernel_rfl) ?_
      refine Sx.G.pure (.int .i64 ((x.gs.length : Nat) : Int)) (by kernel_rfl) (fun w => by kernel_rfl) ?_
      refine Sx.G.plain 57 #[.int .i64 ((x.gs.length : Nat) : Int), .int .i64 1, .int .i64 2] (.bool (inB ((x.gs.length : Nat) : Int) 1 2)) (by kernel_rfl) (fun w => by kernel_rfl) (fun w S => by exact ((spec_in ((x.gs.length : Nat) : Int) 1 2 _).mono fun e w' h => And.intro h.1 (Guests.below_same h.2))) ?_
      refine Sx.G.pure (.bool (inB ((x.gs.length : Nat) : Int) 1 2)) (by kernel_rfl) (fun w => by kernel_rfl) ?_
      refine Sx.G.pure (.bool (inB ((x.gs.length : Nat) : Int) 1 2)) (by kernel_rfl) (fun w => by kernel_rfl) ?_
      cases hc4 : (inB ((x.gs.length : Nat) : Int) 1 2)
      · have hb4 := hc4
        refine Sx.G.skip (by kernel_rfl) ?_
        refine Sx.G.skip (by kernel_rfl) ?_
        refine Sx.G.skip (by kernel_rfl) ?_
        refine Sx.G.skip (by kernel_rfl) ?_
        refine Sx.G.pure (.bool false) (by kernel_rfl) (fun w => by kernel_rfl) ?_
        refine Sx.G.pure (.bool false) (by kernel_rfl) (fun w => by kernel_rfl) ?_
        refine Sx.G.skip (by kernel_rfl) ?_
        refine Sx.G.skip (by kernel_rfl) ?_
        refine Sx.G.skip (by kernel_rfl) ?_
        refine Sx.G.pure (.bool false) (by kernel_rfl) (fun w => by kernel_rfl) ?_
        refine Sx.G.pure (.bool false) (by kernel_rfl) (fun w => by kernel_rfl) ?_
        refine Sx.G.nil ?_
        refine Sx.E.next ?_
        refine Sx.C.ret ?_
        refine Sx.E.ret1 (.bool false) rfl (by kernel_rfl) (fun w S => ?_)
        have hall : x.gs.all guestOk = true := by have h2 := hx.2; rwa [List.take_of_length_le (by omega)] at h2
        have hall' : bareOk x = (Grid.memB x.mem 8 && inB ((x.gs.length : Nat) : Int) 1 2 && decide (((x.outs.length : Nat) : Int) ≤ 40) && Irqs.pend x.pd) := by unfold bareOk; rw [hall]; simp only [Bool.true_and]
        exact ⟨congrArg Ending.returned (congrArg Value.bool (by simp only [hall', hb2, hb3, hb4, Bool.and_true, Bool.and_false, Bool.false_and, Bool.true_and])), S.below⟩
      · have hb4 := hc4
        refine Sx.G.pure (.pointer (some ⟨b1, 2, none⟩)) (by kernel_rfl) (fun w => by kernel_rfl) ?_
        refine Sx.G.ld1 26 (.tmp 28) b1 2 0 [.slice hA0 x.mem.length hK0, .slice hA1 x.gs.length hK1, .slice hA2 x.outs.length hK2, .int .i64 x.pd] (.slice hA2 x.outs.length hK2) rfl (by kernel_rfl) (by kernel_rfl) rfl (by kernel_rfl) (by kernel_rfl) ?_
        refine Sx.G.pure (.int .i64 ((x.outs.length : Nat) : Int)) (by kernel_rfl) (fun w => by kernel_rfl) ?_
        refine Sx.G.pure (.bool (decide (((x.outs.length : Nat) : Int) ≤ 40))) (by kernel_rfl) (fun w => by kernel_rfl) ?_
        refine Sx.G.pure (.bool (decide (((x.outs.length : Nat) : Int) ≤ 40))) (by kernel_rfl) (fun w => by kernel_rfl) ?_
        refine Sx.G.pure (.bool (decide (((x.outs.length : Nat) : Int) ≤ 40))) (by kernel_rfl) (fun w => by kernel_rfl) ?_
        cases hc5 : (decide (((x.outs.length : Nat) : Int) ≤ 40))
        · have hb5 := hc5
          replace hc5 := of_decide_eq_false hc5
          refine Sx.G.skip (by kernel_rfl) ?_
          refine Sx.G.skip (by kernel_rfl) ?_
          refine Sx.G.skip (by kernel_rfl) ?_
          refine Sx.G.pure (.bool false) (by kernel_rfl) (fun w => by kernel_rfl) ?_
          refine Sx.G.pure (.bool false) (by kernel_rfl) (fun w => by kernel_rfl) ?_
          refine Sx.G.nil ?_
          refine Sx.E.next ?_
          refine Sx.C.ret ?_
          refine Sx.E.ret1 (.bool false) rfl (by kernel_rfl) (fun w S => ?_)
          have hall : x.gs.all guestOk = true := by have h2 := hx.2; rwa [List.take_of_length_le (by omega)] at h2
          have hall' : bareOk x = (Grid.memB x.mem 8 && inB ((x.gs.length : Nat) : Int) 1 2 && decide (((x.outs.length : Nat) : Int) ≤ 40) && Irqs.pend x.pd) := by unfold bareOk; rw [hall]; simp only [Bool.true_and]
          exact ⟨congrArg Ending.returned (congrArg Value.bool (by simp only [hall', hb2, hb3, hb4, hb5, Bool.and_true, Bool.and_false, Bool.false_and, Bool.true_and])), S.below⟩
        · have hb5 := hc5
          replace hc5 := of_decide_eq_true hc5
          refine Sx.G.pure (.pointer (some ⟨b1, 3, none⟩)) (by kernel_rfl) (fun w => by kernel_rfl) ?_
          refine Sx.G.ld1 3 (.tmp 34) b1 3 0 [.slice hA0 x.mem.length hK0, .slice hA1 x.gs.length hK1, .slice hA2 x.outs.length hK2, .int .i64 x.pd] (.int .i64 x.pd) rfl (by kernel_rfl) (by kernel_rfl) rfl (by kernel_rfl) (by kernel_rfl) ?_
          refine Sx.G.plain 58 #[.int .i64 x.pd] (.bool (Irqs.pend x.pd)) (by kernel_rfl) (fun w => by kernel_rfl) (fun w S => by exact ((Irqs.spec_pend x.pd _).mono fun e w' h => And.intro h.1 (Guests.below_same h.2))) ?_
          refine Sx.G.pure (.bool (Irqs.pend x.pd)) (by kernel_rfl) (fun w => by kernel_rfl) ?_
          refine Sx.G.pure (.bool (Irqs.pend x.pd)) (by kernel_rfl) (fun w => by kernel_rfl) ?_
          refine Sx.G.nil ?_
          refine Sx.E.next ?_
          refine Sx.C.ret ?_
          refine Sx.E.ret1 (.bool (Irqs.pend x.pd)) rfl (by kernel_rfl) (fun w S => ?_)
          have hall : x.gs.all guestOk = true := by have h2 := hx.2; rwa [List.take_of_length_le (by omega)] at h2
          have hall' : bareOk x = (Grid.memB x.mem 8 && inB ((x.gs.length : Nat) : Int) 1 2 && decide (((x.outs.length : Nat) : Int) ≤ 40) && Irqs.pend x.pd) := by unfold bareOk; rw [hall]; simp only [Bool.true_and]
          exact ⟨congrArg Ending.returned (congrArg Value.bool (by simp only [hall', hb2, hb3, hb4, hb5, Bool.and_true, Bool.and_false, Bool.false_and, Bool.true_and])), S.below⟩
  · have hb2 := hc2
    replace hc2 := of_decide_eq_true hc2
    refine Sx.C.yes (by kernel_rfl) (by kernel_rfl) ?_
    refine Sx.C.skip ?_
    refine Sx.E.next ?_
    refine Sx.C.seq ?_
    refine Sx.C.block ?_
    refine Sx.C.seq ?_
    refine Sx.C.region ?_
    refine Sx.G.pure (.pointer (some ⟨b1, 1, none⟩)) (by kernel_rfl) (fun w => by kernel_rfl) ?_
    refine Sx.G.ld1 25 (.tmp 11) b1 1 0 [.slice hA0 x.mem.length hK0, .slice hA1 x.gs.length hK1, .slice hA2 x.outs.length hK2, .int .i64 x.pd] (.slice hA1 x.gs.length hK1) rfl (by kernel_rfl) (by kernel_rfl) rfl (by kernel_rfl) (by kernel_rfl) ?_
    refine Sx.G.pure (.int .i64 (i : Int)) (by kernel_rfl) (fun w => by kernel_rfl) ?_
    obtain ⟨b6, f6, es6, eA6, hr6, hl6, hm6⟩ := Sx.old_elem (by decide) hf1 i (by omega)
    subst eA6
    obtain ⟨x6, hx6⟩ : ∃ z_, z_ = (x.gs[i]'(by omega)) := ⟨_, rfl⟩
    rw [← hx6] at hr6
    have hR6 := hr6
    obtain ⟨P6_0, P6_1, P6_2, P6_3, rfl, hf6_0, hf6_1, hf6_2, hf6_3⟩ := wG_rd hr6
    obtain ⟨A6_0, c6_0, e6_0, -⟩ := lst_val hf6_0
    subst e6_0
    obtain ⟨A6_1, c6_1, e6_1, -⟩ := lst_val hf6_1
    subst e6_1
    obtain ⟨A6_2, c6_2, e6_2, -⟩ := lst_val hf6_2
    subst e6_2
    obtain ⟨A6_3, c6_3, e6_3, -⟩ := lst_val hf6_3
    subst e6_3
    refine Sx.G.elem 25 51 (.tmp 12) (.tmp 13) 15 184 b6 f6 x.gs.length hK1 i rfl (by kernel_rfl) (by kernel_rfl) (by kernel_rfl) (by kernel_rfl) (by omega) ?_
    refine Sx.G.ldr 51 (.tmp 14) b6 (f6 + i * 15) [.slice A6_0 x6.prog.length c6_0, .int .i64 x6.a, .int .i64 x6.pc, .slice A6_1 x6.wr.length c6_1, .slice A6_2 x6.lv.length c6_2, .int .i64 x6.t.1, .int .i64 x6.t.2.1, .bool x6.t.2.2, .int .i64 x6.pd, .int .i64 x6.x.1, .int .i64 x6.x.2.1, .bool x6.x.2.2.1, .int .i64 x6.x.2.2.2, .bool x6.hl, .slice A6_3 x6.seen.length c6_3] rfl (by kernel_rfl) (by kernel_rfl) (fun w S => hm6 w _ S) (by kernel_rfl) (by kernel_rfl) ?_
    refine Sx.G.plain 55 #[.agg #[.slice A6_0 x6.prog.length c6_0, .int .i64 x6.a, .int .i64 x6.pc, .slice A6_1 x6.wr.length c6_1, .slice A6_2 x6.lv.length c6_2, .int .i64 x6.t.1, .int .i64 x6.t.2.1, .bool x6.t.2.2, .int .i64 x6.pd, .int .i64 x6.x.1, .int .i64 x6.x.2.1, .bool x6.x.2.2.1, .int .i64 x6.x.2.2.2, .bool x6.hl, .slice A6_3 x6.seen.length c6_3]] (.bool (guestOk x6)) (by kernel_rfl) (fun w => by kernel_rfl) (fun w S => by exact Guests.specx_ok x6 _ _ (cap_G (hcap1.2 _ (hx6 ▸ List.getElem_mem _))) (rd_G (St.old S hR6))) ?_
    refine Sx.G.pure (.bool (!(guestOk x6))) (by kernel_rfl) (fun w => by kernel_rfl) ?_
    refine Sx.G.nil ?_
    refine Sx.E.next ?_
    cases hc7 : (guestOk x6)
    · have hb7 := hc7
      refine Sx.C.yes (by kernel_rfl) (by kernel_rfl) ?_
      refine Sx.C.seq ?_
      refine Sx.C.region ?_
      refine Sx.G.pure (.bool false) (by kernel_rfl) (fun w => by kernel_rfl) ?_
      refine Sx.G.nil ?_
      refine Sx.E.next ?_
      refine Sx.C.ret ?_
      refine Sx.E.block_ret ?_
      refine Sx.E.then_ret ?_
      refine Sx.E.then_ret ?_
      refine Sx.E.block_ret ?_
      refine Sx.E.then_ret ?_
      refine Sx.E.ret1 (.bool false) rfl (by kernel_rfl) (fun w S => ?_)
      have hall : x.gs.all guestOk = false := by rw [Bool.eq_false_iff]; intro h2; have h3 := List.all_eq_true.1 h2 _ (List.getElem_mem (show i < x.gs.length by omega)); rw [← hx6, hc7] at h3; cases h3
      exact ⟨by unfold bareOk; rw [hall]; rfl, S.below⟩
    · have hb7 := hc7
      refine Sx.C.no (by kernel_rfl) (by kernel_rfl) ?_
      refine Sx.C.skip ?_
      refine Sx.E.block_normal ?_
      refine Sx.E.next ?_
      refine Sx.C.region ?_
      refine Sx.G.pure (.int .i64 (i : Int)) (by kernel_rfl) (fun w => by kernel_rfl) ?_
      refine Sx.G.pureq (.int .i64 (IntKind.i64.wrap ((i : Int) + 1))) (.int .i64 ((i + 1 : Nat) : Int)) (by kernel_rfl) (fun w => by kernel_rfl) (congrArg (Value.int .i64) (Sx.wrap_up i (by omega))) ?_
      refine Sx.G.pure (.int .i64 ((i + 1 : Nat) : Int)) (by kernel_rfl) (fun w => by kernel_rfl) ?_
      refine Sx.G.nil ?_
      have hup : (x.gs.take (i + 1)).all guestOk = true := by rw [Kit.take_step (by omega), List.all_append, hx.2, ← hx6]; simp [hc7]
      exact Sx.E.again (i + 1) ⟨by omega, hup⟩ (by omega) (fun a hA => (Sx.Ag.and hA (Sx.Ag.and hA (Sx.Ag.and hA (Sx.Ag.none hA) _ _ (by kernel_rfl)) _ _ (by kernel_rfl)) _ _ (by kernel_rfl))) (fun w S => S)
end Go.Proofs.Ytldgadmpclgfhaa.Kit
namespace Go.Proofs.Ytldgadmpclgfhaa.Irqs
set_option maxRecDepth 100000
open Go.ChangeShapes Go.WideShapes Go.ChangeAt Go.RowKit
open Go.Proofs.Ytldgadmpclgfhaa.Base Go.Proofs.Ytldgadmpclgfhaa.Mem
set_option linter.unusedVariables false
set_option linter.unusedSimpArgs false
attribute [local go_sem] Oper.semAt_some
section
variable (p n : Int) (w : World)
theorem impl_postOk' : Calls Try.prog 106 #[.int .i64 n] w fun e w' => e = .returned (.bool (pend n)) ∧ w = w' := by
  have hv : pend n = (decide (n ≥ 0) && decide (n ≤ 255)) := rfl
  cases h1 : decide (n ≥ 0)
  all_goals
    cases h2 : decide (n ≤ 255)
    all_goals
      rw [h1, h2] at hv
      simp only [Bool.and_false, Bool.and_true] at hv
      rw [hv]; clear hv
      go_enter Try.func106, Try.ntmps106
      go_wp2
      go_ret
      exact ⟨rfl, rfl⟩
theorem impl_pend' : Calls Try.prog 66 #[.int .i64 p] w fun e w' => e = .returned (.bool (pend p)) ∧ w = w' := by
  have K := Lib.hid (fun V : World => impl_postOk' p V)
  generalize pend p = x at K ⊢
  go_enter Try.func66, Try.ntmps66
  go_wp2_with fail
  refine (K.out _).mono ?_
  rintro e w' ⟨rfl, rfl⟩
  go_wp2_with fail
  go_ret
  exact ⟨rfl, rfl⟩
theorem impl_pend (wp : (Lit.int .i64 p).wf = true) : Calls Try.prog 66 #[.int .i64 p] w fun e w' => e = .returned (.bool (pend p)) ∧ Below w.heap.size w w' :=
  (impl_pend' p w).mono fun e w' h => ⟨h.1, h.2 ▸ Below.refl _ _⟩
end
end Go.Proofs.Ytldgadmpclgfhaa.Irqs
