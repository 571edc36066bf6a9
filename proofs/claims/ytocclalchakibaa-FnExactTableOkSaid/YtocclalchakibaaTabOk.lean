/-
  Page tables: TableOk of the project and of the given model. No condition beyond a table's length and its numbers being of an int's range.
-/
import Derived.Test.YtocclalchakibaaTabA
import Derived.Test.YtocclalchakibaaSlotOneS
namespace Go.Proofs.Ytocclalchakibaa.Slots
open Go.ChangeShapes Go.WideShapes Go.ChangeAt Go.RowKit
open Go.Proofs.Ytocclalchakibaa.Base Go.Proofs.Ytocclalchakibaa.Mem Go.Proofs.Ytocclalchakibaa.Ints
set_option linter.unusedVariables false

def okTab (l : List Sl) (size pages : Int) : Bool := okT l pages && decide ((l.length : Int) = size)
theorem okT_snoc (l : List Sl) (k : Nat) (h : k < l.length) (pages : Int) (ht : okT (l.take k) pages = true) : okT (l.take (k + 1)) pages = okS l[k].1 l[k].2 pages := by
  unfold okT at ht ⊢
  rw [List.take_succ_eq_append_getElem h, List.all_append, ht]
  simp
theorem okT_stop (l : List Sl) (k : Nat) (h : k < l.length) (pages : Int) (hs : okS l[k].1 l[k].2 pages = false) : okT l pages = false := by
  unfold okT
  rw [List.all_eq_false]
  exact ⟨l[k], List.getElem_mem h, by simpa using hs⟩

set_option maxHeartbeats 2000000 in
theorem impl_tabOk (A : Option Addr) (n c lo : Nat) (size pages : Int) (l : List Sl) (w : World) (hn : n ≤ 1048576) (hl : l.length = n) (hw : wfL l) (h1 : Lies w lo w.heap.size A (scells l)) :
    Calls Try.prog 27 #[.slice A n c, .int .i64 size, .int .i64 pages] w (OkPost w (okTab l size pages)) := by
  have H1 := Lib.hid h1
  have HL := Lib.hid hl
  have HW := Lib.hid hw
  clear h1 hl hw
  by_cases hsz : (n : Int) = size
  · subst hsz
    go_enter Try.func27, Try.ntmps27
    go_wp2
    go_loopw [8, 15] (fun _ i wr => ∃ (k : Nat), k ≤ n ∧ i = .int .i64 k ∧ okT (l.take k) pages = true ∧ Below w.heap.size w wr) (fun _ i _ => n - (intOf i).toNat)
    case atStart => exact ⟨0, Nat.zero_le _, rfl, rfl, Below.refl _ _⟩
    case round =>
      obtain ⟨k, hk, rfl, ht, hb⟩ := hrel
      have HT := Lib.hid ht
      clear ht
      by_cases hlt : k < n
      · have hkl : k < l.length := by have := HL.out; omega
        obtain ⟨b, off, rfl, _, hbw, c1, c2⟩ := slot_at H1.out k hkl
        have d1 : wr.cell? ⟨b, off + k * 2, none⟩ = some (.int .i64 l[k].1) := (hb.cell hbw).trans c1
        have d2 : wr.cell? ⟨b, off + k * 2 + 1, none⟩ = some (.int .i64 l[k].2) := (hb.cell hbw).trans c2
        have hi0 : (0 : Int) ≤ (k : Int) := Int.natCast_nonneg _
        have hi1 : (k : Int) < (n : Int) := by omega
        have hK := fun V : World => impl_okS l[k].1 l[k].2 pages V (HW.out l[k] (List.getElem_mem hkl)).2
        have hs := okT_snoc l k hkl pages HT.out
        have hf := okT_stop l k hkl pages
        have hbs := hb.size
        generalize l[k].1 = x at d1 hK hs hf
        generalize l[k].2 = y at d2 hK hs hf
        have HB := Lib.hid hb
        clear c1 c2 hb
        cases hv : okS x y pages
        · rw [hv] at hK
          have HK := Lib.hid hK
          have HF := Lib.hid (hf hv)
          clear hK hf hs hv
          go_wp2_with fail
          refine (HK.out _).mono ?_
          rintro e w1 ⟨rfl, hb1⟩
          have hbw1 : Below w.heap.size w w1 := (HB.out.alloc hbs _).trans (hb1.mono (by simp; omega))
          clear hb1
          go_wp2_with fail
          go_ret
          exact ⟨by rw [okTab, HF.out]; rfl, hbw1⟩
        · rw [hv] at hK hs
          have HK := Lib.hid hK
          have HS := Lib.hid hs
          clear hK hf hs hv
          go_wp2_with fail
          refine (HK.out _).mono ?_
          rintro e w1 ⟨rfl, hb1⟩
          have hbw1 : Below w.heap.size w w1 := (HB.out.alloc hbs _).trans (hb1.mono (by simp; omega))
          clear hb1
          go_wp2_with fail
          go_roundw
          case rel => exact ⟨k + 1, by omega, by go_num, HS.out, hbw1⟩
          case measure => simp [intOf]; omega
      · have hkn : k = n := by omega
        subst hkn
        have ht := HT.out
        rw [List.take_of_length_le (by have := HL.out; omega)] at ht
        have HT := Lib.hid ht
        clear ht
        go_wp2_with fail
        go_ret
        exact ⟨by rw [okTab, HT.out, HL.out]; simp, hb⟩
  · have hd : ((n : Int) == size) = false := by simpa using hsz
    have hd' : ((n : Int) != size) = true := by simpa using hsz
    go_enter Try.func27, Try.ntmps27
    go_wp2
    go_ret
    exact ⟨by rw [okTab, HL.out, decide_eq_false hsz, Bool.and_false]; rfl, Below.refl _ _⟩

set_option maxHeartbeats 2000000 in
theorem spec_tabOk (A : Option Addr) (n c lo : Nat) (size pages : Int) (l : List Sl) (w : World) (hn : n ≤ 1048576) (hl : l.length = n) (hp : (Lit.int .i64 pages).wf = true) (h1 : Lies w lo w.heap.size A (scells l)) :
    Calls Try.prog 28 #[.slice A n c, .int .i64 size, .int .i64 pages] w (OkPost w (okTab l size pages)) := by
  have H1 := Lib.hid h1
  have HL := Lib.hid hl
  have HP := Lib.hid hp
  clear h1 hl hp
  go_enter Try.func28, Try.ntmps28
  go_wp2
  go_loopw [7] (fun i wr => ∃ (k : Nat), k ≤ n ∧ i = .int .i64 k ∧ okT (l.take k) pages = true ∧ Below w.heap.size w wr) (fun i _ => n - (intOf i).toNat)
  case atStart => exact ⟨0, Nat.zero_le _, rfl, rfl, Below.refl _ _⟩
  case round =>
    obtain ⟨k, hk, rfl, ht, hb⟩ := hrel
    have HT := Lib.hid ht
    clear ht
    by_cases hlt : k < n
    · have hkl : k < l.length := by have := HL.out; omega
      obtain ⟨b, off, rfl, _, hbw, c1, c2⟩ := slot_at H1.out k hkl
      have d1 : wr.cell? ⟨b, off + k * 2, none⟩ = some (.int .i64 l[k].1) := (hb.cell hbw).trans c1
      have d2 : wr.cell? ⟨b, off + k * 2 + 1, none⟩ = some (.int .i64 l[k].2) := (hb.cell hbw).trans c2
      have hi0 : (0 : Int) ≤ (k : Int) := Int.natCast_nonneg _
      have hi1 : (k : Int) < (n : Int) := by omega
      have hK := fun V : World => spec_okS l[k].1 l[k].2 pages V HP.out
      have hs := okT_snoc l k hkl pages HT.out
      have hf := okT_stop l k hkl pages
      have hbs := hb.size
      generalize l[k].1 = x at d1 hK hs hf
      generalize l[k].2 = y at d2 hK hs hf
      have HB := Lib.hid hb
      clear c1 c2 hb
      cases hv : okS x y pages
      · rw [hv] at hK
        have HK := Lib.hid hK
        have HF := Lib.hid (hf hv)
        clear hK hf hs hv
        go_wp2_with fail
        refine (HK.out _).mono ?_
        rintro e w1 ⟨rfl, hb1⟩
        have hbw1 : Below w.heap.size w w1 := HB.out.trans (hb1.mono hbs)
        clear hb1
        go_wp2_with fail
        go_ret
        exact ⟨by rw [okTab, HF.out]; rfl, hbw1⟩
      · rw [hv] at hK hs
        have HK := Lib.hid hK
        have HS := Lib.hid hs
        clear hK hf hs hv
        go_wp2_with fail
        refine (HK.out _).mono ?_
        rintro e w1 ⟨rfl, hb1⟩
        have hbw1 : Below w.heap.size w w1 := HB.out.trans (hb1.mono hbs)
        clear hb1
        go_wp2_with fail
        go_roundw
        case rel => exact ⟨k + 1, by omega, by go_num, HS.out, hbw1⟩
        case measure => simp [intOf]; omega
    · have hkn : k = n := by omega
      subst hkn
      have ht := HT.out
      rw [List.take_of_length_le (by have := HL.out; omega)] at ht
      have HT := Lib.hid ht
      clear ht
      go_wp2_with fail
      go_ret
      exact ⟨by rw [okTab, HT.out, HL.out, Bool.true_and]; rfl, hb⟩
end Go.Proofs.Ytocclalchakibaa.Slots
