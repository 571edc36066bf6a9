/-
  Page tables: SlotAt, Mapped, UsesOf and WithSlot of the project and of the given model. No condition beyond a table's length.
-/
import Derived.Test.YtfgckkgakghenaaSlotOne
namespace Go.Proofs.Ytfgckkgakghenaa.Slots
set_option maxRecDepth 100000
open Go.ChangeShapes Go.WideShapes Go.ChangeAt Go.RowKit
open Go.Proofs.Ytfgckkgakghenaa.Base Go.Proofs.Ytfgckkgakghenaa.Mem Go.Proofs.Ytfgckkgakghenaa.Ints
set_option linter.unusedVariables false

theorem impl_has_no (A : Option Addr) (n c : Nat) (page : Int) (w : World) (hn : n ≤ 1048576) (h : ¬ (0 ≤ page ∧ page < n)) :
    Calls Try.prog 93 #[.slice A n c, .int .i64 page] w fun e w' => e = .returned (.bool false) ∧ w = w' := by
  by_cases h0 : 0 ≤ page
  · have h1 : ¬ page < n := by omega
    go_enter Try.func93, Try.ntmps93
    go_wp2
    go_ret
    exact ⟨rfl, rfl⟩
  · go_enter Try.func93, Try.ntmps93
    go_wp2
    go_ret
    exact ⟨rfl, rfl⟩
theorem impl_has_yes (A : Option Addr) (n c : Nat) (page : Int) (w : World) (hn : n ≤ 1048576) (h0 : 0 ≤ page) (h1 : page < n) :
    Calls Try.prog 93 #[.slice A n c, .int .i64 page] w fun e w' => e = .returned (.bool true) ∧ w = w' := by
  go_enter Try.func93, Try.ntmps93
  go_wp2
  go_ret
  exact ⟨rfl, rfl⟩

theorem atS_no {l : List Sl} {page : Int} (h : ¬ (0 ≤ page ∧ page < l.length)) : atS l page = (-1, 0) := by
  unfold atS
  split
  · rw [List.getD_eq_getElem?_getD, List.getElem?_eq_none (by omega)]; rfl
  · rfl
theorem atS_yes {l : List Sl} {k : Nat} (h : k < l.length) : atS l k = l[k] := by
  unfold atS
  rw [if_pos (by omega), Int.toNat_natCast, List.getD_eq_getElem?_getD, List.getElem?_eq_getElem h]; rfl

/-- A block of two cells behind a call that left it alone. -/
theorem two_kept {w w1 : World} {u v : Value} {T : TypeId} (hb : Below (w.alloc (.cells #[u, v] T)).heap.size (w.alloc (.cells #[u, v] T)) w1) :
    w1.cell? ⟨w.heap.size, 0, none⟩ = some u ∧ w1.cell? ⟨w.heap.size, 1, none⟩ = some v ∧ w1.frozen? ⟨w.heap.size, 0, none⟩ = false ∧ w1.frozen? ⟨w.heap.size, 1, none⟩ = false ∧ Below w.heap.size w w1 := by
  obtain ⟨k0, k1, hW, hsz⟩ := boxed w u v T
  refine ⟨(hb.cell (p := ⟨w.heap.size, 0, none⟩) hsz).trans k0, (hb.cell (p := ⟨w.heap.size, 1, none⟩) hsz).trans k1, ?_, ?_, btr hW hb⟩
  · exact (hb.frozen (p := ⟨w.heap.size, 0, none⟩) hsz).trans (frozen_of_row _ _ _ _ _ (heap_alloc_new w _))
  · exact (hb.frozen (p := ⟨w.heap.size, 1, none⟩) hsz).trans (frozen_of_row _ _ _ _ _ (heap_alloc_new w _))

def AtPost (w : World) (s : Sl) (e : Ending) (w' : World) : Prop := e = .returned (.agg #[.int .i64 s.1, .int .i64 s.2]) ∧ Below w.heap.size w w'

set_option maxHeartbeats 1000000 in
theorem impl_at (A : Option Addr) (n c lo : Nat) (page : Int) (l : List Sl) (w : World) (hn : n ≤ 1048576) (hl : l.length = n) (h1 : Lies w lo w.heap.size A (scells l)) :
    Calls Try.prog 104 #[.slice A n c, .int .i64 page] w (AtPost w (atS l page)) := by
  have H1 := Lib.hid h1
  have HL := Lib.hid hl
  clear h1 hl
  by_cases h : 0 ≤ page ∧ page < n
  · obtain ⟨h0, h1⟩ := h
    obtain ⟨k, rfl⟩ := Int.eq_ofNat_of_zero_le h0
    have hk : k < n := by omega
    have hkl : k < l.length := by have := HL.out; omega
    rw [atS_yes hkl, show l[k] = (l[k].1, l[k].2) from rfl]
    obtain ⟨b, off, rfl, _, hbw, c1, c2⟩ := slot_at H1.out k hkl
    have hne : b ≠ w.heap.size := by omega
    generalize l[k].1 = x at c1 ⊢
    generalize l[k].2 = y at c2 ⊢
    go_enter Try.func104, Try.ntmps104
    go_wp2_with (go_at_call 93; refine (impl_has_yes _ n c k _ hn h0 h1).mono ?_; rintro e w' ⟨rfl, rfl⟩)
    exact bodyPost_ret (v := .agg #[.int .i64 x, .int .i64 y]) (by simp [results, Try.results104, go_sem]) rfl ⟨rfl, (Below.refl _ _).alloc (Nat.le_refl _) _⟩
  · have HA := Lib.hid (atS_no (l := l) (page := page) (by rw [HL.out]; exact h))
    go_enter Try.func104, Try.ntmps104
    go_wp2_with (first | (go_at_call 93; refine (impl_has_no A n c page _ hn h).mono ?_; rintro e w' ⟨rfl, rfl⟩) | (go_at_call 68; refine (impl_no _).mono ?_; rintro e w1 ⟨rfl, hb1⟩; obtain ⟨j0, j1, f0, f1, hbw⟩ := two_kept hb1; have HB := Lib.hid hbw; clear hb1 hbw))
    exact bodyPost_ret (v := .agg #[.int .i64 (-1), .int .i64 0]) (by simp [results, Try.results104, go_sem, j0, j1]) rfl ⟨by rw [HA.out], (HB.out.setCell (p := ⟨w.heap.size, 0, none⟩) (Nat.le_refl _) _).setCell (p := ⟨w.heap.size, 1, none⟩) (Nat.le_refl _) _⟩

set_option maxHeartbeats 1000000 in
theorem spec_at (A : Option Addr) (n c lo : Nat) (page : Int) (l : List Sl) (w : World) (hn : n ≤ 1048576) (hl : l.length = n) (h1 : Lies w lo w.heap.size A (scells l)) :
    Calls Try.prog 39 #[.slice A n c, .int .i64 page] w (AtPost w (atS l page)) := by
  have H1 := Lib.hid h1
  have HL := Lib.hid hl
  clear h1 hl
  by_cases h : 0 ≤ page ∧ page < n
  · obtain ⟨h0, h1⟩ := h
    obtain ⟨k, rfl⟩ := Int.eq_ofNat_of_zero_le h0
    have hk : k < n := by omega
    have hkl : k < l.length := by have := HL.out; omega
    rw [atS_yes hkl, show l[k] = (l[k].1, l[k].2) from rfl]
    obtain ⟨b, off, rfl, _, hbw, c1, c2⟩ := slot_at H1.out k hkl
    have hne : b ≠ w.heap.size := by omega
    have hK := fun V : World => spec_in (k : Int) 0 ((n : Int) - 1) V
    rw [show inB (k : Int) 0 ((n : Int) - 1) = true from inB_iff.2 ⟨by omega, by omega⟩] at hK
    have HK := Lib.hid hK
    clear hK
    generalize l[k].1 = x at c1 ⊢
    generalize l[k].2 = y at c2 ⊢
    go_enter Try.func39, Try.ntmps39
    go_wp2_with (go_at_call 75; refine (HK.out _).mono ?_; rintro e w' ⟨rfl, rfl⟩)
    exact bodyPost_ret (v := .agg #[.int .i64 x, .int .i64 y]) (by simp [results, Try.results39, go_sem]) rfl ⟨rfl, (Below.refl _ _).alloc (Nat.le_refl _) _⟩
  · have hK := fun V : World => spec_in page 0 ((n : Int) - 1) V
    rw [show inB page 0 ((n : Int) - 1) = false from inB_false.2 (by omega)] at hK
    have HK := Lib.hid hK
    clear hK
    have HA := Lib.hid (atS_no (l := l) (page := page) (by rw [HL.out]; exact h))
    go_enter Try.func39, Try.ntmps39
    go_wp2_with (first | (go_at_call 75; refine (HK.out _).mono ?_; rintro e w' ⟨rfl, rfl⟩) | (go_at_call 66; refine (spec_no _).mono ?_; rintro e w1 ⟨rfl, hb1⟩; obtain ⟨j0, j1, f0, f1, hbw⟩ := two_kept hb1; have HB := Lib.hid hbw; clear hb1 hbw))
    exact bodyPost_ret (v := .agg #[.int .i64 (-1), .int .i64 0]) (by simp [results, Try.results39, go_sem, j0, j1]) rfl ⟨by rw [HA.out], (HB.out.setCell (p := ⟨w.heap.size, 0, none⟩) (Nat.le_refl _) _).setCell (p := ⟨w.heap.size, 1, none⟩) (Nat.le_refl _) _⟩

theorem mapS_snoc (l : List Sl) (x y : Int) : mapS (l ++ [(x, y)]) = mapS l + if x = -1 then 0 else 1 := by
  unfold mapS
  rw [List.countP_append]
  by_cases h : x = -1 <;> simp [h]
theorem mapS_le (l : List Sl) : mapS l ≤ l.length := List.countP_le_length

end Go.Proofs.Ytfgckkgakghenaa.Slots
