/-
  Walks through page tables: the project's functions of chapter 6 and the given model's. The project's two sentinels are different pointers to cells of their own; no condition beyond a table's length and its numbers being of an int's range.
-/
import Derived.Test.YtilgkknmldlklaaDoorTwoImpl
import Derived.Test.YtilgkknmldlklaaDoorWalkMath
import Derived.Test.YtilgkknmldlklaaDoorWalkIs
import Derived.Test.YtilgkknmldlklaaDoorRights
import Derived.Test.YtilgkknmldlklaaDoorUses
namespace Go.Proofs.YtilgkknmldlklaaDoor.Slots
set_option maxRecDepth 100000
open Go.ChangeShapes Go.WideShapes Go.ChangeAt Go.RowKit
open Go.Proofs.YtilgkknmldlklaaDoor.Base Go.Proofs.YtilgkknmldlklaaDoor.Mem Go.Proofs.YtilgkknmldlklaaDoor.Ints
set_option linter.unusedVariables false

/-- The one sentinel lies in its variable. -/
def Sent1 (W : World) (a : Addr) : Prop := W.cell? ⟨0, 0, none⟩ = some (.iface 100 (.pointer (some a)))
theorem Sent1.below {W W' : World} {a : Addr} (h : Sent1 W a) (hb : Below W.heap.size W W') : Sent1 W' a := (hb.cell (World.block_lt_of_cell? W _ h)).trans h
/-- Both sentinels, different pointers to cells of their own. -/
structure Sent (W : World) (a b : Addr) : Prop where
  one : Sent1 W a
  two : W.cell? ⟨1, 0, none⟩ = some (.iface 100 (.pointer (some b)))
  ne : b ≠ a
  ra : ∃ c t, W.heap[a.block]? = some (.cells c t (0, 0))
  rb : ∃ c t, W.heap[b.block]? = some (.cells c t (0, 0))
theorem row_below {W W' : World} {k : Nat} {o : Obj} (h : W.heap[k]? = some o) (hb : Below W.heap.size W W') : W'.heap[k]? = some o := by
  have hlt : k < W.heap.size := by
    rcases Nat.lt_or_ge k W.heap.size with x | x
    · exact x
    · rw [Array.getElem?_eq_none x] at h; cases h
  rw [hb.block k hlt, h]
theorem Sent.below {W W' : World} {a b : Addr} (h : Sent W a b) (hb : Below W.heap.size W W') : Sent W' a b := by
  obtain ⟨h1, h2, h3, ⟨c, t, h4⟩, c', t', h5⟩ := h
  exact ⟨h1.below hb, (hb.cell (World.block_lt_of_cell? W _ h2)).trans h2, h3, ⟨c, t, row_below h4 hb⟩, c', t', row_below h5 hb⟩

set_option maxHeartbeats 1000000 in
theorem impl_permits (p r need : Int) (w : World) (hr : (Lit.int .i64 r).wf = true) (hn : (Lit.int .i64 need).wf = true) :
    Calls Tryd.prog 54 #[.agg #[.int .i64 p, .int .i64 r], .int .i64 need] w fun e w' => e = .returned (.bool (perm (p, r) need)) ∧ Below w.heap.size w w' := by
  have HR := Lib.hid hr
  have HN := Lib.hid hn
  clear hr hn
  obtain ⟨k0, k1, hW, hsz⟩ := boxed w (.int .i64 p) (.int .i64 r) 39
  have HB := Lib.hid hW
  by_cases h1 : p = -1
  · subst h1
    rw [perm_no1]
    go_enter Tryd.func54, Tryd.ntmps54
    go_wp2
    go_ret
    exact ⟨rfl, HB.out⟩
  · have h1' : (p != -1) = true := by simpa using h1
    by_cases h2 : need = 0
    · subst h2
      rw [perm_no0]
      clear h1
      go_enter Tryd.func54, Tryd.ntmps54
      go_wp2
      go_ret
      exact ⟨rfl, HB.out⟩
    · have h2' : (need != 0) = true := by simpa using h2
      rw [perm_en h1 h2]
      clear h1 h2
      go_enter Tryd.func54, Tryd.ntmps54
      go_wp2_with (go_at_call 63; refine (Rights.impl_enough r need _ HR.out HN.out).mono ?_; rintro e w' ⟨rfl, rfl⟩)
      go_ret
      exact ⟨rfl, HB.out⟩

section
variable (A : Option Addr) (n c : Nat) (page need : Int) (l : List Sl) (w : World)

set_option maxHeartbeats 1000000 in
theorem impl_level_yes (f : Value) (hn : n ≤ 1048576) (hl : l.length = n) (wl : wfL l) (hneed : (Lit.int .i64 need).wf = true) (h1 : Lies w 0 w.heap.size A (scells l)) (hp : perm (atS l page) need = true) :
    Calls Tryd.prog 40 #[.slice A n c, .int .i64 page, .int .i64 need, f] w fun e w' => e = .returned (.tuple #[.int .i64 (atS l page).1, .nilIface]) ∧ Below w.heap.size w w' := by
  have hK := impl_at A n c 0 page l w hn hl h1
  have hwf := (wf_atS wl page).2
  have HP := fun V : World => impl_permits (atS l page).1 (atS l page).2 need V hwf hneed
  rw [show ((atS l page).1, (atS l page).2) = atS l page from rfl, hp] at HP
  clear hwf hp
  generalize atS l page = s at hK HP ⊢
  obtain ⟨x, y⟩ := s
  have HK := Lib.hid hK
  have HP := Lib.hid HP
  clear hK h1 hl
  go_enter Tryd.func40, Tryd.ntmps40
  go_wp2_with fail
  refine (HK.out).mono ?_
  rintro e w1 ⟨rfl, hb1⟩
  have hT := Two.new w1 (.int .i64 x) (.int .i64 y) 39
  have HB := Lib.hid (hb1.alloc hb1.size (.cells #[.int .i64 x, .int .i64 y] 39))
  clear hb1
  go_wp2_with fail
  refine (HP.out _).mono ?_
  rintro e w2 ⟨rfl, hb2⟩
  obtain ⟨j0, j1, _, _, _⟩ := hT.below hb2
  have HB2 := Lib.hid (btr HB.out hb2)
  clear hb2 hT
  go_wp2_with fail
  go_ret2
  exact ⟨rfl, HB2.out⟩

set_option maxHeartbeats 1000000 in
theorem impl_level_no (f : Value) (hn : n ≤ 1048576) (hl : l.length = n) (wl : wfL l) (hneed : (Lit.int .i64 need).wf = true) (h1 : Lies w 0 w.heap.size A (scells l)) (hp : perm (atS l page) need = false) :
    Calls Tryd.prog 40 #[.slice A n c, .int .i64 page, .int .i64 need, f] w fun e w' => e = .returned (.tuple #[.int .i64 (-1), f]) ∧ Below w.heap.size w w' := by
  have hK := impl_at A n c 0 page l w hn hl h1
  have hwf := (wf_atS wl page).2
  have HP := fun V : World => impl_permits (atS l page).1 (atS l page).2 need V hwf hneed
  rw [show ((atS l page).1, (atS l page).2) = atS l page from rfl, hp] at HP
  clear hwf hp
  generalize atS l page = s at hK HP ⊢
  obtain ⟨x, y⟩ := s
  have HK := Lib.hid hK
  have HP := Lib.hid HP
  clear hK h1 hl
  go_enter Tryd.func40, Tryd.ntmps40
  go_wp2_with fail
  refine (HK.out).mono ?_
  rintro e w1 ⟨rfl, hb1⟩
  have hT := Two.new w1 (.int .i64 x) (.int .i64 y) 39
  have HB := Lib.hid (hb1.alloc hb1.size (.cells #[.int .i64 x, .int .i64 y] 39))
  clear hb1
  go_wp2_with fail
  refine (HP.out _).mono ?_
  rintro e w2 ⟨rfl, hb2⟩
  have HB2 := Lib.hid (btr HB.out hb2)
  clear hb2 hT
  go_wp2_with fail
  go_ret2
  exact ⟨rfl, HB2.out⟩
end

section
variable (A B : Option Addr) (n m c d : Nat) (page need : Int) (l o : List Sl) (w : World) (a b : Addr)

set_option maxHeartbeats 1000000 in
theorem impl_inner (hn : n ≤ 1048576) (hl : l.length = n) (wl : wfL l) (hneed : (Lit.int .i64 need).wf = true) (h1 : Lies w 0 w.heap.size A (scells l)) (hs : Sent1 w a) :
    Calls Tryd.prog 12 #[.slice A n c, .int .i64 page, .int .i64 need] w fun e w' => e = .returned (.tuple #[.int .i64 (innerW l page need).1, .bool (innerW l page need).2]) ∧ Below w.heap.size w w' := by
  unfold Sent1 at hs
  cases hp : perm (atS l page) need
  · have HK := Lib.hid (fun f : Value => impl_level_no A n c page need l w f hn hl wl hneed h1 hp)
    rw [innerW_no hp]
    clear h1 hl hp
    go_enter Tryd.func12, Tryd.ntmps12
    go_wp2_with (go_at_call 40; refine (HK.out _).mono ?_; rintro e w1 ⟨rfl, hb1⟩)
    go_region
    go_wp2_with fail
    go_ret2
    exact ⟨rfl, hb1.drew⟩
  · have HK := Lib.hid (fun f : Value => impl_level_yes A n c page need l w f hn hl wl hneed h1 hp)
    rw [innerW_yes hp]
    clear h1 hl hp
    generalize (atS l page).1 = x at HK ⊢
    go_enter Tryd.func12, Tryd.ntmps12
    go_wp2_with (go_at_call 40; refine (HK.out _).mono ?_; rintro e w1 ⟨rfl, hb1⟩)
    go_region
    go_wp2_with fail
    go_ret2
    exact ⟨rfl, hb1.drew⟩

/-- What the two levels hand back: the page and no error, or the sentinel of the level. -/
def levelsR (a b : Addr) (v : Int × Int) : Value :=
  .tuple #[.int .i64 v.1, if v.2 = 0 then .nilIface else .iface 100 (.pointer (some (if v.2 = 1 then a else b)))]
theorem levelsR_0 (x : Int) : levelsR a b (x, 0) = .tuple #[.int .i64 x, .nilIface] := rfl
theorem levelsR_1 (x : Int) : levelsR a b (x, 1) = .tuple #[.int .i64 x, .iface 100 (.pointer (some a))] := rfl
theorem levelsR_2 (x : Int) : levelsR a b (x, 2) = .tuple #[.int .i64 x, .iface 100 (.pointer (some b))] := rfl

set_option maxHeartbeats 1000000 in
theorem impl_levels (hn : n ≤ 1048576) (hm : m ≤ 1048576) (hl : l.length = n) (ho : o.length = m) (wl : wfL l) (wo : wfL o) (hneed : (Lit.int .i64 need).wf = true) (h1 : Lies w 0 w.heap.size A (scells l)) (h2 : Lies w 0 w.heap.size B (scells o)) (hs : Sent w a b) :
    Calls Tryd.prog 38 #[.slice A n c, .slice B m d, .int .i64 page, .int .i64 need] w fun e w' => e = .returned (levelsR a b (walkW l o page need)) ∧ Below w.heap.size w w' := by
  have HS := Lib.hid hs
  have s1 : w.cell? ⟨0, 0, none⟩ = some (.iface 100 (.pointer (some a))) := hs.one
  clear hs
  cases hp : perm (atS l page) need
  · have HK := Lib.hid (fun f : Value => impl_level_no A n c page need l w f hn hl wl hneed h1 hp)
    rw [walkW_no hp, levelsR_1]
    clear h1 hl hp h2 ho
    go_enter Tryd.func38, Tryd.ntmps38
    go_wp2_with (go_at_call 40; refine (HK.out _).mono ?_; rintro e w1 ⟨rfl, hb1⟩)
    go_ret2
    exact ⟨rfl, hb1⟩
  · have HK := Lib.hid (fun f : Value => impl_level_yes A n c page need l w f hn hl wl hneed h1 hp)
    have HY := Lib.hid hp
    clear h1 hl
    have HO := Lib.hid h2
    clear h2
    cases hq : perm (atS o (atS l page).1) need
    · have HL := Lib.hid (fun (V : World) (h : Lies V 0 V.heap.size B (scells o)) (f : Value) => impl_level_no B m d (atS l page).1 need o V f hm ho wo hneed h hq)
      rw [walkW_out hp hq, levelsR_2]
      clear hp hq ho HY
      generalize (atS l page).1 = x at HK HL ⊢
      go_enter Tryd.func38, Tryd.ntmps38
      go_wp2_with fail
      refine (HK.out _).mono ?_
      rintro e w1 ⟨rfl, hb1⟩
      have s2 : w1.cell? ⟨1, 0, none⟩ = some (.iface 100 (.pointer (some b))) := (HS.out.below hb1).two
      have HO1 := Lib.hid ((HO.out.below hb1 (Nat.le_refl _)).wide (Nat.le_refl _) hb1.size)
      have HB1 := Lib.hid hb1
      clear hb1
      go_wp2_with fail
      refine (HL.out _ HO1.out _).mono ?_
      rintro e w2 ⟨rfl, hb2⟩
      have HB2 := Lib.hid (btr HB1.out hb2)
      clear hb2
      go_wp2_with fail
      go_ret2
      exact ⟨rfl, HB2.out⟩
    · have HL := Lib.hid (fun (V : World) (h : Lies V 0 V.heap.size B (scells o)) (f : Value) => impl_level_yes B m d (atS l page).1 need o V f hm ho wo hneed h hq)
      rw [walkW_yes hp hq, levelsR_0]
      clear hp hq ho HY
      generalize (atS l page).1 = x at HK HL ⊢
      generalize (atS o x).1 = y at HL ⊢
      go_enter Tryd.func38, Tryd.ntmps38
      go_wp2_with fail
      refine (HK.out _).mono ?_
      rintro e w1 ⟨rfl, hb1⟩
      have s2 : w1.cell? ⟨1, 0, none⟩ = some (.iface 100 (.pointer (some b))) := (HS.out.below hb1).two
      have HO1 := Lib.hid ((HO.out.below hb1 (Nat.le_refl _)).wide (Nat.le_refl _) hb1.size)
      have HB1 := Lib.hid hb1
      clear hb1
      go_wp2_with fail
      refine (HL.out _ HO1.out _).mono ?_
      rintro e w2 ⟨rfl, hb2⟩
      have HB2 := Lib.hid (btr HB1.out hb2)
      clear hb2
      go_wp2_with fail
      go_ret2
      exact ⟨rfl, HB2.out⟩

theorem code_0 (w : World) : Calls Tryd.prog 39 #[.nilIface] w fun e w' => e = .returned (.int .i64 0) ∧ w = w' := by
  go_enter Tryd.func39, Tryd.ntmps39
  go_wp2_with fail
  go_ret
  exact ⟨rfl, rfl⟩
theorem code_1 (hs : Sent w a b) : Calls Tryd.prog 39 #[.iface 100 (.pointer (some a))] w fun e w' => e = .returned (.int .i64 1) ∧ w = w' := by
  have s1 : w.cell? ⟨0, 0, none⟩ = some (.iface 100 (.pointer (some a))) := hs.one
  clear hs
  go_enter Tryd.func39, Tryd.ntmps39
  go_wp2_with (go_at_call 52; refine (Walks.is_same a _).mono ?_; rintro e w' ⟨rfl, rfl⟩)
  go_ret
  exact ⟨rfl, rfl⟩
theorem code_2 (hs : Sent w a b) : Calls Tryd.prog 39 #[.iface 100 (.pointer (some b))] w fun e w' => e = .returned (.int .i64 2) ∧ w = w' := by
  have s1 : w.cell? ⟨0, 0, none⟩ = some (.iface 100 (.pointer (some a))) := hs.one
  obtain ⟨ca, ta, ra⟩ := hs.ra
  obtain ⟨cb, tb, rb⟩ := hs.rb
  have HN := Lib.hid (Walks.is_other b a cb ca tb ta w hs.ne rb ra)
  clear hs ra rb
  go_enter Tryd.func39, Tryd.ntmps39
  go_wp2_with (go_at_call 52; refine (HN.out).mono ?_; rintro e w' ⟨rfl, rfl⟩)
  go_ret
  exact ⟨rfl, rfl⟩

def WalkPost (w : World) (v : Int × Int) (e : Ending) (w' : World) : Prop := e = .returned (.tuple #[.int .i64 v.1, .int .i64 v.2]) ∧ Below w.heap.size w w'
theorem walkW_three (l o : List Sl) (page need : Int) : ∃ x y, walkW l o page need = (x, y) ∧ (y = 0 ∨ y = 1 ∨ y = 2) := by
  cases hp : perm (atS l page) need
  · exact ⟨_, _, walkW_no hp, by simp⟩
  · cases hq : perm (atS o (atS l page).1) need
    · exact ⟨_, _, walkW_out hp hq, by simp⟩
    · exact ⟨_, _, walkW_yes hp hq, by simp⟩

set_option maxHeartbeats 1000000 in
theorem impl_walk (hn : n ≤ 1048576) (hm : m ≤ 1048576) (hl : l.length = n) (ho : o.length = m) (wl : wfL l) (wo : wfL o) (hneed : (Lit.int .i64 need).wf = true) (h1 : Lies w 0 w.heap.size A (scells l)) (h2 : Lies w 0 w.heap.size B (scells o)) (hs : Sent w a b) :
    Calls Tryd.prog 9 #[.slice A n c, .slice B m d, .int .i64 page, .int .i64 need] w (WalkPost w (walkW l o page need)) := by
  have hK := impl_levels A B n m c d page need l o w a b hn hm hl ho wl wo hneed h1 h2 hs
  have HS := Lib.hid hs
  clear hs h1 h2 hl ho
  obtain ⟨x, y, e, hy⟩ := walkW_three l o page need
  rw [e] at hK ⊢
  clear e
  rcases hy with rfl | rfl | rfl
  · rw [levelsR_0] at hK
    have HK := Lib.hid hK
    clear hK
    go_enter Tryd.func9, Tryd.ntmps9
    go_wp2_with (first | (go_at_call 38; refine (HK.out).mono ?_; rintro e w1 ⟨rfl, hb1⟩) | (go_at_call 39; refine (code_0 _).mono ?_; rintro e w' ⟨rfl, rfl⟩))
    go_ret2
    exact ⟨rfl, hb1⟩
  · rw [levelsR_1] at hK
    have HK := Lib.hid hK
    clear hK
    go_enter Tryd.func9, Tryd.ntmps9
    go_wp2_with (first | (go_at_call 38; refine (HK.out).mono ?_; rintro e w1 ⟨rfl, hb1⟩) | (go_at_call 39; refine (code_1 _ a b (HS.out.below hb1)).mono ?_; rintro e w' ⟨rfl, rfl⟩))
    go_ret2
    exact ⟨rfl, hb1⟩
  · rw [levelsR_2] at hK
    have HK := Lib.hid hK
    clear hK
    go_enter Tryd.func9, Tryd.ntmps9
    go_wp2_with (first | (go_at_call 38; refine (HK.out).mono ?_; rintro e w1 ⟨rfl, hb1⟩) | (go_at_call 39; refine (code_2 _ a b (HS.out.below hb1)).mono ?_; rintro e w' ⟨rfl, rfl⟩))
    go_ret2
    exact ⟨rfl, hb1⟩
end
end Go.Proofs.YtilgkknmldlklaaDoor.Slots
