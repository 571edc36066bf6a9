/-
  The given model's DrawPlaces: twelve numbers of 0 .. 9999 in new memory; no statement about the project's code stands here. No condition.
-/
import Derived.Test.YtflnjbcediecjaaDraw
namespace Go.Proofs.Ytflnjbcediecjaa.Draw
set_option maxRecDepth 100000
open Go.ChangeShapes Go.WideShapes Go.ChangeAt Go.RowKit
open Go.Proofs.Ytflnjbcediecjaa.Base

theorem Try.infoInt : (Try.prog.info? 3).map (fun i => (i.zero, i.size, i.bytes)) = some (some (.int .i64 0), 1, 8) := by kernel_rfl

def icells (l : List Int) : List Value := l.map (Value.int .i64)
def PlacesPost (w : World) (e : Ending) (w' : World) : Prop :=
  ∃ (g' cap' : Nat) (l : List Int), e = .returned (.slice (some ⟨g', 0, none⟩) 12 cap') ∧ l.length = 12 ∧ (∀ x ∈ l, 0 ≤ x ∧ x < 10000) ∧ w'.ownsRow w.heap.size 3 1 (.slice (some ⟨g', 0, none⟩) 12 cap') 12 (icells l) ∧ Below w.heap.size w w'

set_option maxRecDepth 100000 in
set_option maxHeartbeats 1000000 in
theorem places_any (A : Option Addr) (n c : Nat) (w : World) (hn : n ≤ 1048576) (hcode : CodeAt w A n) :
    Calls Try.prog 27 #[.slice A n c] w (PlacesPost w) := by
  obtain ⟨i0, hi0, hz0, hz1, hz2⟩ := info_parts Try.infoInt
  have HC := Lib.hid hcode
  clear hcode
  go_enter Try.func27, Try.ntmps27
  go_wp2_with fail
  refine (new_any A n c _ hn HC.out).mono ?_
  rintro e w0 ⟨rfl, hcur, hsz⟩
  have HU := Lib.hid hcur
  have hsz1 : w.heap.size + 1 ≤ w0.heap.size := by omega
  have hb0 := hcur.1
  clear hcur hsz
  go_wp2_with fail
  go_loopw [4, 5] (fun v i wr => ∃ (k g cap : Nat) (l : List Int), k ≤ 12 ∧ i = .int .i64 k ∧ v = .slice (some ⟨g, 0, none⟩) k cap ∧ l.length = k ∧ (∀ x ∈ l, 0 ≤ x ∧ x < 10000) ∧ wr.ownsRow w.heap.size 3 1 (.slice (some ⟨g, 0, none⟩) k cap) k (icells l) ∧ Cur w A n c wr w.heap.size) (fun _ i _ => 12 - (intOf i).toNat)
  case atStart =>
    exact ⟨0, w0.heap.size, 0, [], Nat.zero_le _, rfl, rfl, rfl, (fun _ h => by cases h), World.ownsRow_made w0 #[] 0 hb0.size (Nat.zero_le _) rfl, HU.out.alloc _⟩
  case round =>
    obtain ⟨k, g, cap, l, hk, rfl, rfl, hl, hall, hown, hcur⟩ := hrel
    have HL := Lib.hid hl
    have HA := Lib.hid hall
    have HU := Lib.hid hcur
    have hbs := hcur.1.size
    clear hl hall hcur
    by_cases hlt : k < 12
    · go_wp2_with fail
      refine (below_any w A n c w.heap.size _ 10000 (by omega) (by omega) hn HC.out HU.out).mono ?_
      rintro e w1 ⟨x, rfl, hx0, hx1, hc1, hg1⟩
      have hown1 := hown.kept hg1 (.inr (HU.out.ne hown (by decide)))
      have HU1 := Lib.hid hc1
      have hbs1 := hc1.1.size
      clear hc1 hg1
      go_wp2_with (at_builtin; refine wpList_append_lies _ rfl _ _ 34 rfl w.heap.size 3 i0 _ 1 8 Try.underlying34 hi0 hz0 hz1 hz2 rfl (by omega) (.slice (some ⟨g, 0, none⟩) k cap) k _ rfl (hown1.alloc _) ⟨w1.heap.size, 0, none⟩ 1 1 [.int .i64 x] rfl rfl (World.news_of_block (heap_alloc_new w1 _)) (by simp [Value.oneCell']) (by omega) (by simp only [maxLen]; omega) (by omega) (by simp; omega) (w1.heap.size + 1) (by simp) ?_; intro g' cap' w2 hown2 hgrow hat hg2)
      have hcur2 : Cur w A n c w2 w.heap.size := (HU1.out.alloc _).grown hgrow (HU1.out.ne hown1 (by decide)) (fun j hj => (hown1.lt j hj).1)
      have hall2 : ∀ y ∈ l ++ [x], 0 ≤ y ∧ y < 10000 := fun y hy => by
        rcases List.mem_append.1 hy with h | h
        · exact HA.out y h
        · have : y = x := by simpa using h
          subst this; exact ⟨hx0, hx1⟩
      have hown3 : w2.ownsRow w.heap.size 3 1 (.slice (some ⟨g', 0, none⟩) (k + 1) cap') (k + 1) (icells (l ++ [x])) := by simpa [icells] using hown2
      have hlen : (l ++ [x]).length = k + 1 := by simp [HL.out]
      have HF := Lib.hid (And.intro hcur2 (And.intro hall2 hlen))
      clear hown2 hgrow hat hg2 hcur2 hall2 hlen
      go_roundw
      case rel => exact ⟨k + 1, g', cap', l ++ [x], by omega, by go_num, rfl, HF.out.2.2, HF.out.2.1, hown3, HF.out.1⟩
      case measure => simp [intOf]; omega
    · obtain rfl : k = 12 := by omega
      go_wp2_with fail
      go_ret
      exact ⟨g, cap, l, rfl, HL.out, HA.out, hown, HU.out.1⟩
end Go.Proofs.Ytflnjbcediecjaa.Draw
