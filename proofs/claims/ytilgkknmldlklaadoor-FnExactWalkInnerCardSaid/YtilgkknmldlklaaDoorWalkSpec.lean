/-
  Walks through page tables: the given model's functions of chapter 6. No condition beyond a table's length.
-/
import Derived.Test.YtilgkknmldlklaaDoorTwoImpl
import Derived.Test.YtilgkknmldlklaaDoorWalkMath
import Derived.Test.YtilgkknmldlklaaDoorRights
import Derived.Test.YtilgkknmldlklaaDoorUses
namespace Go.Proofs.YtilgkknmldlklaaDoor.Slots
set_option maxRecDepth 100000
open Go.ChangeShapes Go.WideShapes Go.ChangeAt Go.RowKit
open Go.Proofs.YtilgkknmldlklaaDoor.Base Go.Proofs.YtilgkknmldlklaaDoor.Mem Go.Proofs.YtilgkknmldlklaaDoor.Ints
set_option linter.unusedVariables false

/-- What the model asks of a slot, in its own order. -/
theorem perm_four (p r need : Int) : (p = -1 ∧ perm (p, r) need = false) ∨ (p ≠ -1 ∧ Rights.enough r need = false ∧ perm (p, r) need = false) ∨
    (p ≠ -1 ∧ Rights.enough r need = true ∧ need = 0 ∧ perm (p, r) need = false) ∨ (p ≠ -1 ∧ Rights.enough r need = true ∧ need ≠ 0 ∧ perm (p, r) need = true) := by
  by_cases h1 : p = -1
  · exact .inl ⟨h1, by rw [h1]; exact perm_no1⟩
  · cases h2 : Rights.enough r need
    · exact .inr (.inl ⟨h1, rfl, by simp [perm, h2]⟩)
    · by_cases h3 : need = 0
      · exact .inr (.inr (.inl ⟨h1, rfl, h3, by rw [h3]; exact perm_no0⟩))
      · exact .inr (.inr (.inr ⟨h1, rfl, h3, by rw [perm_en h1 h3]; exact h2⟩))
section
variable (A B : Option Addr) (n m c d : Nat) (page need : Int) (l o : List Sl) (w : World)

set_option maxHeartbeats 1000000 in
theorem spec_inner (hn : n ≤ 1048576) (hl : l.length = n) (h1 : Lies w 0 w.heap.size A (scells l)) :
    Calls Tryd.prog 13 #[.slice A n c, .int .i64 page, .int .i64 need] w fun e w' => e = .returned (.tuple #[.int .i64 (innerW l page need).1, .bool (innerW l page need).2]) ∧ Below w.heap.size w w' := by
  have hK := spec_at A n c 0 page l w hn hl h1
  unfold innerW
  generalize atS l page = s at hK ⊢
  obtain ⟨x, y⟩ := s
  have HK := Lib.hid hK
  have hE := fun V : World => Rights.spec_enough y need V
  clear hK h1 hl
  rcases perm_four x y need with ⟨rfl, hp⟩ | ⟨hx, he, hp⟩ | ⟨hx, he, rfl, hp⟩ | ⟨hx, he, hn0, hp⟩
  · rw [if_neg (by simp [hp])]
    clear hp hE
    go_enter Tryd.func13, Tryd.ntmps13
    go_wp2_with fail
    refine (HK.out).mono ?_
    rintro e w1 ⟨rfl, hb1⟩
    have HB1 := Lib.hid (hb1.alloc hb1.size (.cells #[.int .i64 (-1), .int .i64 y] 39))
    clear hb1
    go_wp2_with fail
    go_ret2
    exact ⟨rfl, HB1.out⟩
  · rw [if_neg (by simp [hp])]
    rw [he] at hE
    have HE := Lib.hid hE
    have hx' : (x == -1) = false := by simpa using hx
    clear hE he hx hp
    go_enter Tryd.func13, Tryd.ntmps13
    go_wp2_with fail
    refine (HK.out).mono ?_
    rintro e w1 ⟨rfl, hb1⟩
    have HB1 := Lib.hid (hb1.alloc hb1.size (.cells #[.int .i64 x, .int .i64 y] 39))
    clear hb1
    go_wp2_with (go_at_call 20; refine (HE.out _).mono ?_; rintro e w' ⟨rfl, rfl⟩)
    go_ret2
    exact ⟨rfl, HB1.out⟩
  · rw [if_neg (by simp [hp])]
    rw [he] at hE
    have HE := Lib.hid hE
    have hx' : (x == -1) = false := by simpa using hx
    clear hE he hx hp
    go_enter Tryd.func13, Tryd.ntmps13
    go_wp2_with fail
    refine (HK.out).mono ?_
    rintro e w1 ⟨rfl, hb1⟩
    have HB1 := Lib.hid (hb1.alloc hb1.size (.cells #[.int .i64 x, .int .i64 y] 39))
    clear hb1
    go_wp2_with (go_at_call 20; refine (HE.out _).mono ?_; rintro e w' ⟨rfl, rfl⟩)
    go_ret2
    exact ⟨rfl, HB1.out⟩
  · rw [if_pos hp]
    rw [he] at hE
    have HE := Lib.hid hE
    have hx' : (x == -1) = false := by simpa using hx
    clear hE he hx hp
    have hn1 : (need == 0) = false := by simpa using hn0
    clear hn0
    go_enter Tryd.func13, Tryd.ntmps13
    go_wp2_with fail
    refine (HK.out).mono ?_
    rintro e w1 ⟨rfl, hb1⟩
    have HB1 := Lib.hid (hb1.alloc hb1.size (.cells #[.int .i64 x, .int .i64 y] 39))
    clear hb1
    go_wp2_with (go_at_call 20; refine (HE.out _).mono ?_; rintro e w' ⟨rfl, rfl⟩)
    go_ret2
    exact ⟨rfl, HB1.out⟩

set_option maxHeartbeats 1000000 in
theorem spec_walk (hn : n ≤ 1048576) (hm : m ≤ 1048576) (hl : l.length = n) (ho : o.length = m) (h1 : Lies w 0 w.heap.size A (scells l)) (h2 : Lies w 0 w.heap.size B (scells o)) :
    Calls Tryd.prog 10 #[.slice A n c, .slice B m d, .int .i64 page, .int .i64 need] w fun e w' => e = .returned (.tuple #[.int .i64 (walkW l o page need).1, .int .i64 (walkW l o page need).2]) ∧ Below w.heap.size w w' := by
  have hI := spec_inner A n c page need l w hn hl h1
  have HO := Lib.hid h2
  clear h1 h2 hl
  cases hp : perm (atS l page) need
  · rw [innerW_no hp] at hI
    rw [walkW_no hp]
    have HI := Lib.hid hI
    clear hI hp ho
    go_enter Tryd.func10, Tryd.ntmps10
    go_wp2_with (go_at_call 13; refine (HI.out).mono ?_; rintro e w1 ⟨rfl, hb1⟩)
    go_ret2
    exact ⟨rfl, hb1⟩
  · rw [innerW_yes hp] at hI
    unfold walkW
    rw [if_pos hp]
    have hneed : need ≠ 0 := by rintro rfl; rw [perm_no0] at hp; cases hp
    clear hp
    generalize (atS l page).1 = q at hI ⊢
    have HI := Lib.hid hI
    clear hI
    have hK := fun (V : World) (h : Lies V 0 V.heap.size B (scells o)) => spec_at B m d 0 q o V hm ho h
    generalize atS o q = s at hK ⊢
    obtain ⟨x, y⟩ := s
    have HK := Lib.hid hK
    have hE := fun V : World => Rights.spec_enough y need V
    clear hK ho
    rcases perm_four x y need with ⟨rfl, hp⟩ | ⟨hx, he, hp⟩ | ⟨hx, he, h0, hp⟩ | ⟨hx, he, hn0, hp⟩
    · rw [if_neg (by simp [hp])]
      clear hp hE
      clear hneed
      go_enter Tryd.func10, Tryd.ntmps10
      go_wp2_with fail
      refine (HI.out).mono ?_
      rintro e w0 ⟨rfl, hb0⟩
      have HO1 := Lib.hid ((HO.out.below hb0 (Nat.le_refl _)).wide (Nat.le_refl _) hb0.size)
      have HB0 := Lib.hid hb0
      clear hb0
      go_wp2_with fail
      refine (HK.out _ HO1.out).mono ?_
      rintro e w1 ⟨rfl, hb1⟩
      have HB1 := Lib.hid (hb1.alloc hb1.size (.cells #[.int .i64 (-1), .int .i64 y] 39))
      clear hb1
      go_wp2_with fail
      go_ret2
      exact ⟨rfl, btr HB0.out HB1.out⟩
    · rw [if_neg (by simp [hp])]
      rw [he] at hE
      have HE := Lib.hid hE
      have hx' : (x == -1) = false := by simpa using hx
      clear hE he hx hp
      clear hneed
      go_enter Tryd.func10, Tryd.ntmps10
      go_wp2_with fail
      refine (HI.out).mono ?_
      rintro e w0 ⟨rfl, hb0⟩
      have HO1 := Lib.hid ((HO.out.below hb0 (Nat.le_refl _)).wide (Nat.le_refl _) hb0.size)
      have HB0 := Lib.hid hb0
      clear hb0
      go_wp2_with fail
      refine (HK.out _ HO1.out).mono ?_
      rintro e w1 ⟨rfl, hb1⟩
      have HB1 := Lib.hid (hb1.alloc hb1.size (.cells #[.int .i64 x, .int .i64 y] 39))
      clear hb1
      go_wp2_with (go_at_call 20; refine (HE.out _).mono ?_; rintro e w' ⟨rfl, rfl⟩)
      go_ret2
      exact ⟨rfl, btr HB0.out HB1.out⟩
    · exact absurd h0 hneed
    · rw [if_pos hp]
      rw [he] at hE
      have HE := Lib.hid hE
      have hx' : (x == -1) = false := by simpa using hx
      clear hE he hx hp
      clear hn0
      clear hneed
      go_enter Tryd.func10, Tryd.ntmps10
      go_wp2_with fail
      refine (HI.out).mono ?_
      rintro e w0 ⟨rfl, hb0⟩
      have HO1 := Lib.hid ((HO.out.below hb0 (Nat.le_refl _)).wide (Nat.le_refl _) hb0.size)
      have HB0 := Lib.hid hb0
      clear hb0
      go_wp2_with fail
      refine (HK.out _ HO1.out).mono ?_
      rintro e w1 ⟨rfl, hb1⟩
      have HB1 := Lib.hid (hb1.alloc hb1.size (.cells #[.int .i64 x, .int .i64 y] 39))
      clear hb1
      go_wp2_with (go_at_call 20; refine (HE.out _).mono ?_; rintro e w' ⟨rfl, rfl⟩)
      go_ret2
      exact ⟨rfl, btr HB0.out HB1.out⟩
end
end Go.Proofs.YtilgkknmldlklaaDoor.Slots
