/-
  For every slice of bytes the law FnPutTwice returns true: setting two different slots commutes, setting the same slot twice keeps the last value, and the table stays valid. No condition.
-/
import Derived.Test.YtocclalchakibaaTabN
import Derived.Test.YtocclalchakibaaTabOk
import Derived.Test.YtocclalchakibaaSame
import Derived.Test.YtocclalchakibaaSlotArgs
import Derived.Test.YtocclalchakibaaPlaces
import Derived.Test.YtocclalchakibaaBig
import Derived.Test.YtocclalchakibaaOrd
namespace Go.Proofs.Ytocclalchakibaa.fnPutTwice
open Go.ChangeShapes Go.WideShapes Go.ChangeAt Go.RowKit
open Go.Proofs.Ytocclalchakibaa.Base Go.Proofs.Ytocclalchakibaa.Mem Go.Proofs.Ytocclalchakibaa.Slots Go.Proofs.Ytocclalchakibaa.Ints Go.Proofs.Ytocclalchakibaa.Draw
set_option linter.unusedVariables false

theorem new4 : newN 4 = 4 := by decide
theorem put_laws {i k : Nat} (hi : i < 4) (hk : k < 4) {a b : Sl} (ha : 0 ≤ a.1 ∧ a.1 < 8 ∧ 1 ≤ a.2 ∧ a.2 ≤ 3) (hb : 0 ≤ b.1 ∧ b.1 < 8 ∧ 1 ≤ b.2 ∧ b.2 ≤ 3) :
    (i ≠ k → withS (withS (nosL 4) i a) k b = withS (withS (nosL 4) k b) i a) ∧ mapS (withS (withS (nosL 4) i a) k b) = (if i = k then 1 else 2) ∧
    withS (withS (withS (nosL 4) i a) k b) k b = withS (withS (nosL 4) i a) k b ∧ okTab (withS (withS (nosL 4) i a) k b) 4 8 = true := by
  obtain ⟨a1, a2⟩ := a
  obtain ⟨b1, b2⟩ := b
  simp only at ha hb
  have na : ¬ a1 = -1 := by omega
  have nb : ¬ b1 = -1 := by omega
  have ea : okS a1 a2 8 = true := by simp [okS]; omega
  have eb : okS b1 b2 8 = true := by simp [okS]; omega
  have en : okS (-1) 0 8 = true := by decide
  have hi' : i = 0 ∨ i = 1 ∨ i = 2 ∨ i = 3 := by omega
  have hk' : k = 0 ∨ k = 1 ∨ k = 2 ∨ k = 3 := by omega
  rcases hi' with rfl | rfl | rfl | rfl <;> rcases hk' with rfl | rfl | rfl | rfl <;>
    simp [withS, nosL, mapS, okTab, okT, List.replicate, na, nb, ea, eb, en]

theorem wf_mk {x : Int} (h0 : -1 ≤ x) (h1 : x ≤ 8) : (Lit.int .i64 x).wf = true := by
  have : x = -1 ∨ x = 0 ∨ x = 1 ∨ x = 2 ∨ x = 3 ∨ x = 4 ∨ x = 5 ∨ x = 6 ∨ x = 7 ∨ x = 8 := by omega
  rcases this with rfl | rfl | rfl | rfl | rfl | rfl | rfl | rfl | rfl | rfl <;> decide
theorem wf_set {l : List Sl} {k : Int} {s : Sl} (h : wfL l) (hs : wfS s) : wfL (withS l k s) := fun t ht => by
  unfold withS at ht
  split at ht
  · rcases List.mem_or_eq_of_mem_set ht with h1 | h1
    · exact h t h1
    · rw [h1]; exact hs
  · exact h t ht
theorem put_wf {x1 y1 x2 y2 : Int} (h1 : 0 ≤ x1 ∧ x1 < 8 ∧ 1 ≤ y1 ∧ y1 ≤ 3) (h2 : 0 ≤ x2 ∧ x2 < 8 ∧ 1 ≤ y2 ∧ y2 ≤ 3) (i k : Nat) : wfL (withS (withS (nosL 4) i (x1, y1)) k (x2, y2)) :=
  wf_set (wf_set (fun s hs => by
    have : s = (-1, 0) := List.eq_of_mem_replicate hs
    rw [this]; exact ⟨by decide, by decide⟩) ⟨wf_mk (by omega) (by omega), wf_mk (by omega) (by omega)⟩) ⟨wf_mk (by omega) (by omega), wf_mk (by omega) (by omega)⟩

set_option maxRecDepth 100000 in
set_option maxHeartbeats 8000000 in
theorem walk (A : Option Addr) (n c : Nat) (hn : n ≤ maxLen) {w : World} (hcode : CodeAt w A n) :
    Calls Try.prog 5 #[.slice A n c] w fun e w' => e = .returned (.bool true) ∧ Below w.heap.size w w' := by
  have hn' : n ≤ 9223372036854775807 := hn
  have HC := Lib.hid hcode
  clear hcode hn
  by_cases h1 : 1048576 < n
  · go_enter Try.func5, Try.ntmps5
    go_wp2_with (go_at_call 15; refine (big_yes A n c _ hn' h1).mono ?_; rintro e w' ⟨rfl, rfl⟩)
    go_ret
    exact ⟨rfl, Below.refl _ _⟩
  · have hn2 : n ≤ 1048576 := by omega
    clear h1 hn'
    have hK := fun V : World => impl_new 4 V
    rw [new4] at hK
    have HK := Lib.hid hK
    clear hK
    go_enter Try.func5, Try.ntmps5
    go_wp2_with (go_at_call 15; refine (big_no A n c _ hn2).mono ?_; rintro e w' ⟨rfl, rfl⟩)
    refine (places_any A n c _ hn2 HC.out).mono ?_
    rintro e w1 ⟨g, cap, l, rfl, hl, hall, hown, hb1⟩
    obtain ⟨p0, p1, p2, p3, p4, p5, p6, p7, p8, p9, p10, p11, rfl⟩ := list12 hl
    have HR := Lib.hid (And.intro (hall p0 (by simp)) (And.intro (hall p1 (by simp)) (And.intro (hall p2 (by simp)) (And.intro (hall p3 (by simp)) (And.intro (hall p4 (by simp)) (hall p5 (by simp)))))))
    have hgl := (hown.lt g rfl).2
    have HO := Lib.hid hown
    have HB1 := Lib.hid hb1
    clear hall hown hl HC hb1
    go_wp2_with fail
    refine (HK.out _).mono ?_
    rintro e w2 ⟨ad2, c2, rfl, hc2, ho2, hb2⟩
    have HO2 := Lib.hid ho2
    have HB2 := Lib.hid hb2
    have hK2 : ∀ j u, [Value.int .i64 p0, .int .i64 p1, .int .i64 p2, .int .i64 p3, .int .i64 p4, .int .i64 p5][j]? = some u → w2.cell? ⟨g, j, none⟩ = some u := fun j u hu => (hb2.cell (p := ⟨g, j, none⟩) hgl).trans (by
      have hj := (List.getElem?_eq_some_iff.1 hu).1
      simp at hj
      rw [HO.out.cellAt j (by omega), ← hu]
      have : j = 0 ∨ j = 1 ∨ j = 2 ∨ j = 3 ∨ j = 4 ∨ j = 5 := by omega
      rcases this with rfl | rfl | rfl | rfl | rfl | rfl <;> rfl)
    have k0 := hK2 0 _ rfl
    have k1 := hK2 1 _ rfl
    have k2 := hK2 2 _ rfl
    have k3 := hK2 3 _ rfl
    have k4 := hK2 4 _ rfl
    have k5 := hK2 5 _ rfl
    have hgl2 : g < w2.heap.size := Nat.lt_of_lt_of_le hgl hb2.size
    have hg2 : g ≠ w2.heap.size := by omega
    clear hK2 ho2 hb2 HO
    have t0 : p0.tmod 8 = p0 % 8 := Int.tmod_eq_emod_of_nonneg HR.out.1.1
    have t1 : p1.tmod 3 = p1 % 3 := Int.tmod_eq_emod_of_nonneg HR.out.2.1.1
    have t2 : p2.tmod 8 = p2 % 8 := Int.tmod_eq_emod_of_nonneg HR.out.2.2.1.1
    have t3 : p3.tmod 3 = p3 % 3 := Int.tmod_eq_emod_of_nonneg HR.out.2.2.2.1.1
    have t4 : p4.tmod 4 = p4 % 4 := Int.tmod_eq_emod_of_nonneg HR.out.2.2.2.2.1.1
    have t5 : p5.tmod 4 = p5 % 4 := Int.tmod_eq_emod_of_nonneg HR.out.2.2.2.2.2.1
    have z1 : IntKind.i64.wrap (1 + p1 % 3) = 1 + p1 % 3 := IntWalk.i64_in _ (by omega)
    have z3 : IntKind.i64.wrap (1 + p3 % 3) = 1 + p3 % 3 := IntWalk.i64_in _ (by omega)
    go_wp2_with fail
    refine Ord.wp_region_ord (fun w' => w'.cell? ⟨g, 0, none⟩ = some (.int .i64 p0) ∧ w'.cell? ⟨g, 1, none⟩ = some (.int .i64 p1)) [(0, true), (1, true), (2, true), (3, true), (4, true), (5, true), (6, true), (7, true), (8, true), (9, true), (10, false), (11, false)] (by kernel_rfl) (by kernel_rfl) rfl (by kernel_rfl) ⟨k0, k1⟩ ?_
    simp only [Ord.ordOps, List.getElem?_toArray, List.getElem?_cons_zero, List.getElem?_cons_succ]
    repeat (first
      | (refine Ord.ord_plain (v := ?_) rfl (fun w' hS => ?_) ?_; rotate_left; (focus ((try dsimp only at hS); go_simp; first | done | with_reducible rfl)); simp only [Act.put, List.setIfInBounds_toArray, List.set_cons_zero, List.set_cons_succ])
      | (refine Ord.ord_skip (by rfl) ?_; simp only [Act.put, List.setIfInBounds_toArray, List.set_cons_zero, List.set_cons_succ])
      | (refine Ord.ord_take (v := ?_) (by rfl) (fun w' hS => ?_) ?_; rotate_left; (focus ((try dsimp only at hS); go_simp; first | done | with_reducible rfl)); simp only [Act.put, List.setIfInBounds_toArray, List.set_cons_zero, List.set_cons_succ]))
    refine Ord.ord_call (fun K hK => ?_)
    go_simp
    refine hK.out _ _ (by constructor <;> go_simp) ?_
    clear hK K
    repeat (first
      | (refine Ord.ord_plain (v := ?_) rfl (fun w' hS => ?_) ?_; rotate_left; (focus ((try dsimp only at hS); go_simp; first | done | with_reducible rfl)); simp only [Act.put, List.setIfInBounds_toArray, List.set_cons_zero, List.set_cons_succ])
      | (refine Ord.ord_skip (by rfl) ?_; simp only [Act.put, List.setIfInBounds_toArray, List.set_cons_zero, List.set_cons_succ])
      | (refine Ord.ord_take (v := ?_) (by rfl) (fun w' hS => ?_) ?_; rotate_left; (focus ((try dsimp only at hS); go_simp; first | done | with_reducible rfl)); simp only [Act.put, List.setIfInBounds_toArray, List.set_cons_zero, List.set_cons_succ]))
    refine Ord.ord_call (fun K hK => ?_)
    go_simp
    refine hK.out _ _ (by constructor <;> go_simp) ?_
    clear hK K
    repeat (first
      | (refine Ord.ord_plain (v := ?_) rfl (fun w' hS => ?_) ?_; rotate_left; (focus ((try dsimp only at hS); go_simp; first | done | with_reducible rfl)); simp only [Act.put, List.setIfInBounds_toArray, List.set_cons_zero, List.set_cons_succ])
      | (refine Ord.ord_skip (by rfl) ?_; simp only [Act.put, List.setIfInBounds_toArray, List.set_cons_zero, List.set_cons_succ])
      | (refine Ord.ord_take (v := ?_) (by rfl) (fun w' hS => ?_) ?_; rotate_left; (focus ((try dsimp only at hS); go_simp; first | done | with_reducible rfl)); simp only [Act.put, List.setIfInBounds_toArray, List.set_cons_zero, List.set_cons_succ]))
    refine Ord.ord_nil ?_
    obtain ⟨A0_w3, A1_w3, hB_w3, hz_w3⟩ := boxed w2 (.int .i64 (p0 % 8)) (.int .i64 (1 + p1 % 3)) 26
    have hD_w3 : Below w2.heap.size w2 ((w2.alloc (.cells #[.int .i64 (p0 % 8), .int .i64 (1 + p1 % 3)] 26)).drew) := hB_w3.drew
    have a0_w3 : ((w2.alloc (.cells #[.int .i64 (p0 % 8), .int .i64 (1 + p1 % 3)] 26)).drew).cell? ⟨w2.heap.size, 0, none⟩ = some (.int .i64 (p0 % 8)) := A0_w3
    have a1_w3 : ((w2.alloc (.cells #[.int .i64 (p0 % 8), .int .i64 (1 + p1 % 3)] 26)).drew).cell? ⟨w2.heap.size, 1, none⟩ = some (.int .i64 (1 + p1 % 3)) := A1_w3
    have hy_w3 : w2.heap.size < ((w2.alloc (.cells #[.int .i64 (p0 % 8), .int .i64 (1 + p1 % 3)] 26)).drew).heap.size := hz_w3
    have k2_w3 : ((w2.alloc (.cells #[.int .i64 (p0 % 8), .int .i64 (1 + p1 % 3)] 26)).drew).cell? ⟨g, 2, none⟩ = some (.int .i64 (p2)) := (hD_w3.cell (p := ⟨g, 2, none⟩) (by show _ < w2.heap.size; omega)).trans k2
    have k3_w3 : ((w2.alloc (.cells #[.int .i64 (p0 % 8), .int .i64 (1 + p1 % 3)] 26)).drew).cell? ⟨g, 3, none⟩ = some (.int .i64 (p3)) := (hD_w3.cell (p := ⟨g, 3, none⟩) (by show _ < w2.heap.size; omega)).trans k3
    have k4_w3 : ((w2.alloc (.cells #[.int .i64 (p0 % 8), .int .i64 (1 + p1 % 3)] 26)).drew).cell? ⟨g, 4, none⟩ = some (.int .i64 (p4)) := (hD_w3.cell (p := ⟨g, 4, none⟩) (by show _ < w2.heap.size; omega)).trans k4
    have k5_w3 : ((w2.alloc (.cells #[.int .i64 (p0 % 8), .int .i64 (1 + p1 % 3)] 26)).drew).cell? ⟨g, 5, none⟩ = some (.int .i64 (p5)) := (hD_w3.cell (p := ⟨g, 5, none⟩) (by show _ < w2.heap.size; omega)).trans k5
    clear A0_w3 A1_w3 hB_w3 hz_w3 k2 k3 k4 k5
    generalize ((w2.alloc (.cells #[.int .i64 (p0 % 8), .int .i64 (1 + p1 % 3)] 26)).drew) = w3 at hD_w3 a0_w3 a1_w3 hy_w3 k2_w3 k3_w3 k4_w3 k5_w3 ⊢
    have k2 := k2_w3
    clear k2_w3
    have k3 := k3_w3
    clear k3_w3
    have k4 := k4_w3
    clear k4_w3
    have k5 := k5_w3
    clear k5_w3
    have hg3 : g < w3.heap.size := by omega
    have hg3' : g ≠ w3.heap.size := by omega
    have HQ1 := Lib.hid (show 0 ≤ p0 % 8 ∧ p0 % 8 < 8 ∧ 1 ≤ 1 + p1 % 3 ∧ 1 + p1 % 3 ≤ 3 by omega)
    clear t0 t1 z1
    generalize p0 % 8 = x1 at a0_w3 HQ1 ⊢
    generalize 1 + p1 % 3 = y1 at a1_w3 HQ1 ⊢
    go_wp2_with fail
    refine Ord.wp_region_ord (fun w' => w'.cell? ⟨g, 2, none⟩ = some (.int .i64 p2) ∧ w'.cell? ⟨g, 3, none⟩ = some (.int .i64 p3)) [(0, true), (1, true), (2, true), (3, true), (4, true), (5, true), (6, true), (7, true), (8, true), (9, true), (10, false), (11, false)] (by kernel_rfl) (by kernel_rfl) rfl (by kernel_rfl) ⟨k2, k3⟩ ?_
    simp only [Ord.ordOps, List.getElem?_toArray, List.getElem?_cons_zero, List.getElem?_cons_succ]
    repeat (first
      | (refine Ord.ord_plain (v := ?_) rfl (fun w' hS => ?_) ?_; rotate_left; (focus ((try dsimp only at hS); go_simp; first | done | with_reducible rfl)); simp only [Act.put, List.setIfInBounds_toArray, List.set_cons_zero, List.set_cons_succ])
      | (refine Ord.ord_skip (by rfl) ?_; simp only [Act.put, List.setIfInBounds_toArray, List.set_cons_zero, List.set_cons_succ])
      | (refine Ord.ord_take (v := ?_) (by rfl) (fun w' hS => ?_) ?_; rotate_left; (focus ((try dsimp only at hS); go_simp; first | done | with_reducible rfl)); simp only [Act.put, List.setIfInBounds_toArray, List.set_cons_zero, List.set_cons_succ]))
    refine Ord.ord_call (fun K hK => ?_)
    go_simp
    refine hK.out _ _ (by constructor <;> go_simp) ?_
    clear hK K
    repeat (first
      | (refine Ord.ord_plain (v := ?_) rfl (fun w' hS => ?_) ?_; rotate_left; (focus ((try dsimp only at hS); go_simp; first | done | with_reducible rfl)); simp only [Act.put, List.setIfInBounds_toArray, List.set_cons_zero, List.set_cons_succ])
      | (refine Ord.ord_skip (by rfl) ?_; simp only [Act.put, List.setIfInBounds_toArray, List.set_cons_zero, List.set_cons_succ])
      | (refine Ord.ord_take (v := ?_) (by rfl) (fun w' hS => ?_) ?_; rotate_left; (focus ((try dsimp only at hS); go_simp; first | done | with_reducible rfl)); simp only [Act.put, List.setIfInBounds_toArray, List.set_cons_zero, List.set_cons_succ]))
    refine Ord.ord_call (fun K hK => ?_)
    go_simp
    refine hK.out _ _ (by constructor <;> go_simp) ?_
    clear hK K
    repeat (first
      | (refine Ord.ord_plain (v := ?_) rfl (fun w' hS => ?_) ?_; rotate_left; (focus ((try dsimp only at hS); go_simp; first | done | with_reducible rfl)); simp only [Act.put, List.setIfInBounds_toArray, List.set_cons_zero, List.set_cons_succ])
      | (refine Ord.ord_skip (by rfl) ?_; simp only [Act.put, List.setIfInBounds_toArray, List.set_cons_zero, List.set_cons_succ])
      | (refine Ord.ord_take (v := ?_) (by rfl) (fun w' hS => ?_) ?_; rotate_left; (focus ((try dsimp only at hS); go_simp; first | done | with_reducible rfl)); simp only [Act.put, List.setIfInBounds_toArray, List.set_cons_zero, List.set_cons_succ]))
    refine Ord.ord_nil ?_
    obtain ⟨A0_w4, A1_w4, hB_w4, hz_w4⟩ := boxed w3 (.int .i64 (p2 % 8)) (.int .i64 (1 + p3 % 3)) 26
    have hD_w4 : Below w3.heap.size w3 ((w3.alloc (.cells #[.int .i64 (p2 % 8), .int .i64 (1 + p3 % 3)] 26)).drew) := hB_w4.drew
    have a0_w4 : ((w3.alloc (.cells #[.int .i64 (p2 % 8), .int .i64 (1 + p3 % 3)] 26)).drew).cell? ⟨w3.heap.size, 0, none⟩ = some (.int .i64 (p2 % 8)) := A0_w4
    have a1_w4 : ((w3.alloc (.cells #[.int .i64 (p2 % 8), .int .i64 (1 + p3 % 3)] 26)).drew).cell? ⟨w3.heap.size, 1, none⟩ = some (.int .i64 (1 + p3 % 3)) := A1_w4
    have hy_w4 : w3.heap.size < ((w3.alloc (.cells #[.int .i64 (p2 % 8), .int .i64 (1 + p3 % 3)] 26)).drew).heap.size := hz_w4
    have a0_w3_w4 : ((w3.alloc (.cells #[.int .i64 (p2 % 8), .int .i64 (1 + p3 % 3)] 26)).drew).cell? ⟨w2.heap.size, 0, none⟩ = some (.int .i64 (x1)) := (hD_w4.cell (p := ⟨w2.heap.size, 0, none⟩) (by show _ < w3.heap.size; omega)).trans a0_w3
    have a1_w3_w4 : ((w3.alloc (.cells #[.int .i64 (p2 % 8), .int .i64 (1 + p3 % 3)] 26)).drew).cell? ⟨w2.heap.size, 1, none⟩ = some (.int .i64 (y1)) := (hD_w4.cell (p := ⟨w2.heap.size, 1, none⟩) (by show _ < w3.heap.size; omega)).trans a1_w3
    have k4_w4 : ((w3.alloc (.cells #[.int .i64 (p2 % 8), .int .i64 (1 + p3 % 3)] 26)).drew).cell? ⟨g, 4, none⟩ = some (.int .i64 (p4)) := (hD_w4.cell (p := ⟨g, 4, none⟩) (by show _ < w3.heap.size; omega)).trans k4
    have k5_w4 : ((w3.alloc (.cells #[.int .i64 (p2 % 8), .int .i64 (1 + p3 % 3)] 26)).drew).cell? ⟨g, 5, none⟩ = some (.int .i64 (p5)) := (hD_w4.cell (p := ⟨g, 5, none⟩) (by show _ < w3.heap.size; omega)).trans k5
    clear A0_w4 A1_w4 hB_w4 hz_w4 a0_w3 a1_w3 k4 k5
    generalize ((w3.alloc (.cells #[.int .i64 (p2 % 8), .int .i64 (1 + p3 % 3)] 26)).drew) = w4 at hD_w4 a0_w4 a1_w4 hy_w4 a0_w3_w4 a1_w3_w4 k4_w4 k5_w4 ⊢
    have a0_w3 := a0_w3_w4
    clear a0_w3_w4
    have a1_w3 := a1_w3_w4
    clear a1_w3_w4
    have k4 := k4_w4
    clear k4_w4
    have k5 := k5_w4
    clear k5_w4
    have HQ2 := Lib.hid (show 0 ≤ p2 % 8 ∧ p2 % 8 < 8 ∧ 1 ≤ 1 + p3 % 3 ∧ 1 + p3 % 3 ≤ 3 by omega)
    clear t2 t3 z3
    generalize p2 % 8 = x2 at a0_w4 HQ2 ⊢
    generalize 1 + p3 % 3 = y2 at a1_w4 HQ2 ⊢
    go_wp2_with fail
    go_quiet (fail)
    have hb5 : Below w4.heap.size w4 (w4.drewN nq) := below_drewN (Below.refl _ _) _
    have b0 : (w4.drewN nq).cell? ⟨w2.heap.size, 0, none⟩ = some (.int .i64 x1) := a0_w3
    have b1 : (w4.drewN nq).cell? ⟨w2.heap.size, 1, none⟩ = some (.int .i64 y1) := a1_w3
    have c0 : (w4.drewN nq).cell? ⟨w3.heap.size, 0, none⟩ = some (.int .i64 x2) := a0_w4
    have c1 : (w4.drewN nq).cell? ⟨w3.heap.size, 1, none⟩ = some (.int .i64 y2) := a1_w4
    have hs5 : w4.heap.size ≤ (w4.drewN nq).heap.size := Nat.le_refl _
    generalize w4.drewN nq = w5 at hb5 b0 b1 c0 c1 hs5 ⊢
    obtain ⟨i, hi⟩ := Int.eq_ofNat_of_zero_le (show 0 ≤ p4 % 4 by omega)
    obtain ⟨k, hk⟩ := Int.eq_ofNat_of_zero_le (show 0 ≤ p5 % 4 by omega)
    have hi4 : i < 4 := by omega
    have hk4 : k < 4 := by omega
    rw [hi, hk]
    have hb25 := Lib.hid (btr (btr hD_w3 hD_w4) hb5)
    have HS := Lib.hid (show ∀ V, Below w5.heap.size w5 V → (V.cell? ⟨w2.heap.size, 0, none⟩ = some (.int .i64 x1) ∧ V.cell? ⟨w2.heap.size, 1, none⟩ = some (.int .i64 y1)) ∧ V.cell? ⟨w3.heap.size, 0, none⟩ = some (.int .i64 x2) ∧ V.cell? ⟨w3.heap.size, 1, none⟩ = some (.int .i64 y2) from fun V hb =>
      ⟨⟨(hb.cell (p := ⟨w2.heap.size, 0, none⟩) (by show w2.heap.size < _; omega)).trans b0, (hb.cell (p := ⟨w2.heap.size, 1, none⟩) (by show w2.heap.size < _; omega)).trans b1⟩, (hb.cell (p := ⟨w3.heap.size, 0, none⟩) (by show w3.heap.size < _; omega)).trans c0, (hb.cell (p := ⟨w3.heap.size, 1, none⟩) (by show w3.heap.size < _; omega)).trans c1⟩)
    have HO5 := Lib.hid (HO2.out.below hb25.out (Nat.le_refl _))
    have hs25 := hb25.out.size
    have hlw := put_laws hi4 hk4 (a := (x1, y1)) (b := (x2, y2)) HQ1.out HQ2.out
    clear hi hk t4 t5 k4 k5 a0_w3 a1_w3 a0_w4 a1_w4 b0 b1 c0 c1 hb5 HO2
    have q1 := fun (ad : Addr) (c lo : Nat) (V : World) (h : Lies V lo V.heap.size (some ad) (scells (nosL 4))) => impl_with ad 4 c lo (i : Int) x1 y1 (nosL 4) V (by omega) rfl h
    have q2 := fun (ad : Addr) (c lo : Nat) (V : World) (h : Lies V lo V.heap.size (some ad) (scells (withS (nosL 4) i (x1, y1)))) => impl_with ad 4 c lo (k : Int) x2 y2 (withS (nosL 4) i (x1, y1)) V (by omega) (by rw [withS_len]; rfl) h
    have q3 := fun (ad : Addr) (c lo : Nat) (V : World) (h : Lies V lo V.heap.size (some ad) (scells (nosL 4))) => impl_with ad 4 c lo (k : Int) x2 y2 (nosL 4) V (by omega) rfl h
    have q4 := fun (ad : Addr) (c lo : Nat) (V : World) (h : Lies V lo V.heap.size (some ad) (scells (withS (nosL 4) k (x2, y2)))) => impl_with ad 4 c lo (i : Int) x1 y1 (withS (nosL 4) k (x2, y2)) V (by omega) (by rw [withS_len]; rfl) h
    have q5 := fun (ad : Addr) (c lo : Nat) (V : World) (h : Lies V lo V.heap.size (some ad) (scells (withS (withS (nosL 4) i (x1, y1)) k (x2, y2)))) => impl_with ad 4 c lo (k : Int) x2 y2 (withS (withS (nosL 4) i (x1, y1)) k (x2, y2)) V (by omega) (by rw [withS_len, withS_len]; rfl) h
    rw [hlw.2.2.1] at q5
    have hX := hlw.1
    have hM := hlw.2.1
    have hT := hlw.2.2.2
    have hLX : (withS (withS (nosL 4) i (x1, y1)) k (x2, y2)).length = 4 := by rw [withS_len, withS_len]; rfl
    have hLY : (withS (withS (nosL 4) k (x2, y2)) i (x1, y1)).length = 4 := by rw [withS_len, withS_len]; rfl
    have hW := put_wf HQ1.out HQ2.out i k
    have HOn := HO5
    generalize withS (withS (nosL 4) i (x1, y1)) k (x2, y2) = X at q2 q5 hX hM hT hLX hW
    generalize withS (withS (nosL 4) k (x2, y2)) i (x1, y1) = Y at q4 hX hLY
    generalize withS (nosL 4) i (x1, y1) = T1 at q1 q2
    generalize withS (nosL 4) k (x2, y2) = T2 at q3 q4
    generalize nosL 4 = N at q1 q3 HO5 HOn
    have HQ := Lib.hid (And.intro q1 (And.intro q2 (And.intro q3 (And.intro q4 q5))))
    have HLX := Lib.hid hLX
    have HLY := Lib.hid hLY
    have HM := Lib.hid hM
    have HT := Lib.hid hT
    have HX := Lib.hid hX
    have HW := Lib.hid hW
    clear q1 q2 q3 q4 q5 hlw hX hM hT hLX hLY hW HOn
    go_wp2_with fail
    have hR5 := Below.refl w5.heap.size w5
    refine Ord.wp_region_ord (fun w' => (w'.cell? ⟨w2.heap.size, 0, none⟩ = some (.int .i64 x1) ∧ w'.cell? ⟨w2.heap.size, 1, none⟩ = some (.int .i64 y1)) ∧ w'.cell? ⟨w3.heap.size, 0, none⟩ = some (.int .i64 x2) ∧ w'.cell? ⟨w3.heap.size, 1, none⟩ = some (.int .i64 y2)) [(0, true), (1, true), (2, true), (4, true), (5, true), (3, false), (6, false), (7, true)] (by kernel_rfl) (by kernel_rfl) rfl (by kernel_rfl) (HS.out _ hR5.drew) ?_
    simp only [Ord.ordOps, List.getElem?_toArray, List.getElem?_cons_zero, List.getElem?_cons_succ]
    repeat (first
      | (refine Ord.ord_plain (v := ?_) rfl (fun w' hS => ?_) ?_; rotate_left; (focus ((try dsimp only at hS); go_simp; first | done | with_reducible rfl)); simp only [Act.put, List.setIfInBounds_toArray, List.set_cons_zero, List.set_cons_succ])
      | (refine Ord.ord_skip (by rfl) ?_; simp only [Act.put, List.setIfInBounds_toArray, List.set_cons_zero, List.set_cons_succ])
      | (refine Ord.ord_take (v := ?_) (by rfl) (fun w' hS => ?_) ?_; rotate_left; (focus ((try dsimp only at hS); go_simp; first | done | with_reducible rfl)); simp only [Act.put, List.setIfInBounds_toArray, List.set_cons_zero, List.set_cons_succ]))
    refine Ord.ord_call (fun K hK => ?_)
    go_simp
    go_wp2_with fail
    refine (HQ.out.1 ad2 c2 _ w5.drew (HO5.out.1.wide (Nat.le_refl _) (show w2.heap.size ≤ w5.heap.size by omega))).mono ?_
    rintro e w6 ⟨ad6, c6, rfl, hc6, ho6, hb6⟩
    have hR6 := btr hR5.drew hb6
    have hO6 := Lib.hid ho6
    have hs6 : w5.heap.size ≤ w6.heap.size := hb6.size
    have HN_6 := Lib.hid (HO5.out.below (btr ((Below.refl w5.heap.size w5).drew) hb6) (by omega))
    clear ho6 hb6
    refine hK.out _ _ (HS.out _ hR6) ?_
    clear hK K
    repeat (first
      | (refine Ord.ord_plain (v := ?_) rfl (fun w' hS => ?_) ?_; rotate_left; (focus ((try dsimp only at hS); go_simp; first | done | with_reducible rfl)); simp only [Act.put, List.setIfInBounds_toArray, List.set_cons_zero, List.set_cons_succ])
      | (refine Ord.ord_skip (by rfl) ?_; simp only [Act.put, List.setIfInBounds_toArray, List.set_cons_zero, List.set_cons_succ])
      | (refine Ord.ord_take (v := ?_) (by rfl) (fun w' hS => ?_) ?_; rotate_left; (focus ((try dsimp only at hS); go_simp; first | done | with_reducible rfl)); simp only [Act.put, List.setIfInBounds_toArray, List.set_cons_zero, List.set_cons_succ]))
    refine Ord.ord_call (fun K hK => ?_)
    go_simp
    go_wp2_with fail
    refine (HQ.out.2.1 ad6 c6 _ _ hO6.out.1).mono ?_
    rintro e w7 ⟨ad7, c7, rfl, hc7, ho7, hb7⟩
    have hR7 := btr hR6 hb7
    have hO7 := Lib.hid ho7
    have hs7 := hb7.size
    have HN_7 := Lib.hid (HN_6.out.below hb7 (by omega))
    clear ho7 hb7 hO6
    refine hK.out _ _ (HS.out _ hR7) ?_
    clear hK K
    repeat (first
      | (refine Ord.ord_plain (v := ?_) rfl (fun w' hS => ?_) ?_; rotate_left; (focus ((try dsimp only at hS); go_simp; first | done | with_reducible rfl)); simp only [Act.put, List.setIfInBounds_toArray, List.set_cons_zero, List.set_cons_succ])
      | (refine Ord.ord_skip (by rfl) ?_; simp only [Act.put, List.setIfInBounds_toArray, List.set_cons_zero, List.set_cons_succ])
      | (refine Ord.ord_take (v := ?_) (by rfl) (fun w' hS => ?_) ?_; rotate_left; (focus ((try dsimp only at hS); go_simp; first | done | with_reducible rfl)); simp only [Act.put, List.setIfInBounds_toArray, List.set_cons_zero, List.set_cons_succ]))
    refine Ord.ord_nil ?_
    go_wp2_with fail
    refine Ord.wp_region_ord (fun w' => (w'.cell? ⟨w2.heap.size, 0, none⟩ = some (.int .i64 x1) ∧ w'.cell? ⟨w2.heap.size, 1, none⟩ = some (.int .i64 y1)) ∧ w'.cell? ⟨w3.heap.size, 0, none⟩ = some (.int .i64 x2) ∧ w'.cell? ⟨w3.heap.size, 1, none⟩ = some (.int .i64 y2)) [(0, true), (1, true), (2, true), (4, true), (5, true), (3, false), (6, false), (7, true)] (by kernel_rfl) (by kernel_rfl) rfl (by kernel_rfl) (HS.out _ hR7.drew) ?_
    simp only [Ord.ordOps, List.getElem?_toArray, List.getElem?_cons_zero, List.getElem?_cons_succ]
    repeat (first
      | (refine Ord.ord_plain (v := ?_) rfl (fun w' hS => ?_) ?_; rotate_left; (focus ((try dsimp only at hS); go_simp; first | done | with_reducible rfl)); simp only [Act.put, List.setIfInBounds_toArray, List.set_cons_zero, List.set_cons_succ])
      | (refine Ord.ord_skip (by rfl) ?_; simp only [Act.put, List.setIfInBounds_toArray, List.set_cons_zero, List.set_cons_succ])
      | (refine Ord.ord_take (v := ?_) (by rfl) (fun w' hS => ?_) ?_; rotate_left; (focus ((try dsimp only at hS); go_simp; first | done | with_reducible rfl)); simp only [Act.put, List.setIfInBounds_toArray, List.set_cons_zero, List.set_cons_succ]))
    refine Ord.ord_call (fun K hK => ?_)
    go_simp
    go_wp2_with fail
    refine (HQ.out.2.2.1 ad2 c2 _ w7.drew (HN_7.out.1.wide (Nat.le_refl _) (show w2.heap.size ≤ w7.heap.size by omega))).mono ?_
    rintro e w8 ⟨ad8, c8, rfl, hc8, ho8, hb8⟩
    have hR8 := btr hR7.drew hb8
    have hO8 := Lib.hid ho8
    have hs8 : w7.heap.size ≤ w8.heap.size := hb8.size
    have HX7_8 := Lib.hid (hO7.out.below (btr ((Below.refl w7.heap.size w7).drew) hb8) (by omega))
    clear ho8 hb8
    refine hK.out _ _ (HS.out _ hR8) ?_
    clear hK K
    repeat (first
      | (refine Ord.ord_plain (v := ?_) rfl (fun w' hS => ?_) ?_; rotate_left; (focus ((try dsimp only at hS); go_simp; first | done | with_reducible rfl)); simp only [Act.put, List.setIfInBounds_toArray, List.set_cons_zero, List.set_cons_succ])
      | (refine Ord.ord_skip (by rfl) ?_; simp only [Act.put, List.setIfInBounds_toArray, List.set_cons_zero, List.set_cons_succ])
      | (refine Ord.ord_take (v := ?_) (by rfl) (fun w' hS => ?_) ?_; rotate_left; (focus ((try dsimp only at hS); go_simp; first | done | with_reducible rfl)); simp only [Act.put, List.setIfInBounds_toArray, List.set_cons_zero, List.set_cons_succ]))
    refine Ord.ord_call (fun K hK => ?_)
    go_simp
    go_wp2_with fail
    refine (HQ.out.2.2.2.1 ad8 c8 _ _ hO8.out.1).mono ?_
    rintro e w9 ⟨ad9, c9, rfl, hc9, ho9, hb9⟩
    have hR9 := btr hR8 hb9
    have hO9 := Lib.hid ho9
    have hs9 := hb9.size
    have HX7_9 := Lib.hid (HX7_8.out.below hb9 (by omega))
    clear ho9 hb9 hO8
    refine hK.out _ _ (HS.out _ hR9) ?_
    clear hK K
    repeat (first
      | (refine Ord.ord_plain (v := ?_) rfl (fun w' hS => ?_) ?_; rotate_left; (focus ((try dsimp only at hS); go_simp; first | done | with_reducible rfl)); simp only [Act.put, List.setIfInBounds_toArray, List.set_cons_zero, List.set_cons_succ])
      | (refine Ord.ord_skip (by rfl) ?_; simp only [Act.put, List.setIfInBounds_toArray, List.set_cons_zero, List.set_cons_succ])
      | (refine Ord.ord_take (v := ?_) (by rfl) (fun w' hS => ?_) ?_; rotate_left; (focus ((try dsimp only at hS); go_simp; first | done | with_reducible rfl)); simp only [Act.put, List.setIfInBounds_toArray, List.set_cons_zero, List.set_cons_succ]))
    refine Ord.ord_nil ?_
    have hR9' := hR9
    by_cases hik : i = k
    · subst hik
      have hmv := HM.out
      rw [if_pos rfl] at hmv
      have HMv := Lib.hid hmv
      clear hmv
      have qm := fun (ad : Addr) (c lo : Nat) (V : World) (h : Lies V lo V.heap.size (some ad) (scells X)) => impl_mapped (some ad) 4 c lo X V (by omega) HLX.out h
      rw [HMv.out, show ((1 : Nat) : Int) = 1 from rfl] at qm
      have QM := Lib.hid qm
      have qt := fun (ad : Addr) (c lo : Nat) (V : World) (h : Lies V lo V.heap.size (some ad) (scells X)) => impl_tabOk (some ad) 4 c lo 4 8 X V (by omega) HLX.out HW.out h
      rw [HT.out] at qt
      have QT := Lib.hid qt
      clear qm qt
      have hRc := hR9
      have HXc := HX7_9
      have hsc : w9.heap.size ≤ w9.heap.size := Nat.le_refl _
      go_wp2_with fail
      refine (QM.out ad7 c7 _ _ (HXc.out.1.wide (Nat.le_refl _) (by omega))).mono ?_
      rintro e w20 ⟨rfl, hb20⟩
      have hR20 := btr hRc hb20
      obtain ⟨_, j0, j1⟩ := HS.out _ hR20
      have HX20 := Lib.hid (HXc.out.below hb20 (by omega))
      have hs20 := hb20.size
      clear hb20 HXc
      go_wp2_with fail
      refine (HQ.out.2.2.2.2 ad7 c7 _ _ (HX20.out.1.wide (Nat.le_refl _) (by omega))).mono ?_
      rintro e w21 ⟨ad21, c21, rfl, hc21, ho21, hb21⟩
      have hR21 := btr hR20 hb21
      have HO21 := Lib.hid ho21
      have HX21 := Lib.hid (HX20.out.below hb21 (by omega))
      have hs21 := hb21.size
      clear ho21 hb21 HX20 j0 j1
      go_wp2_with fail
      refine (law_same (some ad21) (some ad7) 4 4 c21 c7 _ _ _ _ X X _ (by omega) (by omega) HLX.out HLX.out HO21.out.1 HX21.out.1).mono ?_
      rintro e w' ⟨rfl, dq, rfl⟩
      rw [decide_eq_true (rfl : X = X)]
      have hR22 : Below w5.heap.size w5 (w21.drewN dq) := below_drewN hR21 dq
      have HX22 := Lib.hid (HX21.out.drewN dq)
      have hs22 : w21.heap.size ≤ (w21.drewN dq).heap.size := Nat.le_refl _
      generalize w21.drewN dq = w22 at hR22 HX22 hs22 ⊢
      clear HX21 HO21
      go_wp2_with fail
      refine (QT.out ad7 c7 _ _ (HX22.out.1.wide (Nat.le_refl _) (by omega))).mono ?_
      rintro e w23 ⟨rfl, hb23⟩
      have HBf := Lib.hid (btr (btr (btr (btr HB1.out HB2.out) hb25.out) hR22) hb23)
      clear hb23
      go_wp2_with fail
      go_ret
      exact ⟨rfl, HBf.out⟩
    · have hmv := HM.out
      rw [if_neg hik] at hmv
      have HMv := Lib.hid hmv
      have hxy := HX.out hik
      subst hxy
      have hd1 : ((i : Int) == (k : Int)) = false := by simp; omega
      have hd2 : (i == k) = false := by simpa using hik
      clear hmv
      have qm := fun (ad : Addr) (c lo : Nat) (V : World) (h : Lies V lo V.heap.size (some ad) (scells X)) => impl_mapped (some ad) 4 c lo X V (by omega) HLX.out h
      rw [HMv.out, show ((2 : Nat) : Int) = 2 from rfl] at qm
      have QM := Lib.hid qm
      have qt := fun (ad : Addr) (c lo : Nat) (V : World) (h : Lies V lo V.heap.size (some ad) (scells X)) => impl_tabOk (some ad) 4 c lo 4 8 X V (by omega) HLX.out HW.out h
      rw [HT.out] at qt
      have QT := Lib.hid qt
      clear qm qt
      go_wp2_with fail
      refine (law_same (some ad7) (some ad9) 4 4 c7 c9 _ _ _ _ X X _ (by omega) (by omega) HLX.out HLX.out HX7_9.out.1 hO9.out.1).mono ?_
      rintro e w' ⟨rfl, dq, rfl⟩
      rw [decide_eq_true (rfl : X = X)]
      have hRc : Below w5.heap.size w5 (w9.drewN dq) := below_drewN hR9 dq
      have HXc := Lib.hid (HX7_9.out.drewN dq)
      have hsc : w9.heap.size ≤ (w9.drewN dq).heap.size := Nat.le_refl _
      generalize w9.drewN dq = wc at hRc HXc hsc ⊢
      go_wp2_with fail
      refine (QM.out ad7 c7 _ _ (HXc.out.1.wide (Nat.le_refl _) (by omega))).mono ?_
      rintro e w20 ⟨rfl, hb20⟩
      have hR20 := btr hRc hb20
      obtain ⟨_, j0, j1⟩ := HS.out _ hR20
      have HX20 := Lib.hid (HXc.out.below hb20 (by omega))
      have hs20 := hb20.size
      clear hb20 HXc
      go_wp2_with fail
      refine (HQ.out.2.2.2.2 ad7 c7 _ _ (HX20.out.1.wide (Nat.le_refl _) (by omega))).mono ?_
      rintro e w21 ⟨ad21, c21, rfl, hc21, ho21, hb21⟩
      have hR21 := btr hR20 hb21
      have HO21 := Lib.hid ho21
      have HX21 := Lib.hid (HX20.out.below hb21 (by omega))
      have hs21 := hb21.size
      clear ho21 hb21 HX20 j0 j1
      go_wp2_with fail
      refine (law_same (some ad21) (some ad7) 4 4 c21 c7 _ _ _ _ X X _ (by omega) (by omega) HLX.out HLX.out HO21.out.1 HX21.out.1).mono ?_
      rintro e w' ⟨rfl, dq, rfl⟩
      rw [decide_eq_true (rfl : X = X)]
      have hR22 : Below w5.heap.size w5 (w21.drewN dq) := below_drewN hR21 dq
      have HX22 := Lib.hid (HX21.out.drewN dq)
      have hs22 : w21.heap.size ≤ (w21.drewN dq).heap.size := Nat.le_refl _
      generalize w21.drewN dq = w22 at hR22 HX22 hs22 ⊢
      clear HX21 HO21
      go_wp2_with fail
      refine (QT.out ad7 c7 _ _ (HX22.out.1.wide (Nat.le_refl _) (by omega))).mono ?_
      rintro e w23 ⟨rfl, hb23⟩
      have HBf := Lib.hid (btr (btr (btr (btr HB1.out HB2.out) hb25.out) hR22) hb23)
      clear hb23
      go_wp2_with fail
      go_ret
      exact ⟨rfl, HBf.out⟩

/-! ### The row's step -/
set_option maxRecDepth 100000 in
theorem lifted (os : Os) (started : os.Started) (H : Type) (enc : TypeId × Value → H) :
    ReturnsInHanded {} Try.checked os 5 .any (Rows.fnPutTwiceSpec.pre6 enc Try.prog Try.f5 Rows.fnPutTwiceRow.domain false) (Rows.fnPutTwiceSpec.post enc Try.prog Try.f5 false true false false) := by
  refine returnsInHanded_of_change (C := Try.checked) Base.own started (by kernel_rfl) Try.func5
    (ChangeSpec.witness6 (enc := enc) (C := Try.checked) false ⟨#[], #[.slice none 0 0], []⟩ 8 (by kernel_rfl) (by kernel_rfl) (by kernel_rfl) (by kernel_rfl)) ?_
  intro W base args ds gs before hval0 hW hcnd _
  have hval : ∀ (j : Nat) t v, Try.f5.params[j]? = some t → args[j]? = some v → Value.okWide Try.prog W .any base t v := hval0
  have hW' := hW
  obtain ⟨p, q, hA0, hV, rfl, hfz, hnd⟩ := hW
  have hA : DataW.TrodAll enc Try.prog W 0 (fun _ => true) true Try.f5.params.toList args.toList ds p := hA0
  have hA1 := hA
  rw [Try.params5] at hA hval
  obtain ⟨v0, vs0, d0, ds0, p0, q0, hargs, rfl, rfl, h0, r0⟩ := trodAll_cons hA
  obtain ⟨rfl, rfl, rfl⟩ := trodAll_nil r0
  obtain rfl : args = #[v0] := by cases args; simp_all
  obtain ⟨rfl, rfl⟩ := trodVars_none hV
  obtain ⟨A0, n0, c0, rfl, hn0, hcode0, _⟩ := Draw.open_code (hval 0 22 v0 rfl rfl) h0
  clear hA0 hval0
  rw [List.append_nil] at hW'
  refine (walk A0 n0 c0 hn0 hcode0).mono fun e W' ⟨he, hg⟩ => ?_
  subst he
  exact ⟨_, rfl, Mem.post_args Slots.laid (by kernel_rfl) rfl rfl rfl hW' hA1 hg (fun _ _ _ => (trodAll_cons_mk (shut_bool Try.underlying4 _) trodAll_mk0)) (ok_one (by kernel_rfl) rfl (okWide_bool_mk Try.underlying4 _))⟩

theorem over : Rows.fnPutTwiceRow.holds Try.pinned (OpenSpec.ofChange Rows.fnPutTwiceSpec) :=
  OpenClaim.holds_of_wide 5 Try.f5 rfl rfl rfl rfl rfl rfl rfl ⟨rfl, rfl, rfl, rfl, rfl⟩ rfl rfl rfl rfl rfl (by kernel_rfl) Try.func5 (by kernel_rfl)
    (of_decide_eq_true (by kernel_rfl)) (by unfold Func.isWrapper; first | (rw [if_pos (by decide +kernel)]; kernel_rfl) | (rw [if_neg (by decide +kernel)]; exact ⟨rfl, rfl⟩))
    (fun os started H enc _ => lifted os started H enc)

/-- The given statement. -/
theorem proved : Rows.FnPutTwiceSaid :=
  over
#print axioms proved
end Go.Proofs.Ytocclalchakibaa.fnPutTwice
