/-
  A slice of bytes that came in: its bytes lie in memory, and it reads the same in every world that agrees with the old one on what was there; no statement about the project's code stands here. No condition.
-/
import Derived.Test.YtflnjbcediecjaaDraw
namespace Go.Proofs.Ytflnjbcediecjaa.Draw
set_option maxRecDepth 100000
open Go.ChangeShapes Go.WideShapes Go.ChangeAt Go.RowKit
open Go.Proofs.Ytflnjbcediecjaa.Base

theorem cellsByte : Try.prog.cellsOf 5 = 1 := by kernel_rfl
section
variable {H : Type} {enc : TypeId × Value → H}
theorem open_code {W : World} {base : Nat} {v : Value} {d : DataW H} {p : List MemPlace} (hval : Value.okWide Try.prog W .any base 22 v) (h : DataW.Trod enc Try.prog W 0 (fun _ => true) true 22 v d p) :
    ∃ A n c, v = .slice A n c ∧ n ≤ maxLen ∧ CodeAt W A n ∧ ∀ W' : World, Below W.heap.size W W' → ∀ sp : Nat → Bool, (∀ q ∈ p, sp q.block = true) → DataW.Trod enc Try.prog W' 0 sp true 22 v d p := by
  obtain ⟨a1, len, cap, rfl⟩ := okWide_slice Try.underlying22 hval
  obtain ⟨fuel, hf⟩ := h
  rcases open_ints Try.underlying22 Try.underlying5 cellsByte hf with ⟨hcs, hx⟩ | ⟨a, len', cap', zs, hcs, hb0, hl, hm, hz, hx, hcell, hwz⟩
  · simp [Value.cells] at hcs
    obtain ⟨rfl, rfl, rfl⟩ := hcs
    simp only [Prod.mk.injEq] at hx
    obtain ⟨rfl, rfl⟩ := hx
    refine ⟨none, 0, 0, rfl, Nat.zero_le _, fun k hk => by omega, fun W' _ sp _ => ⟨2, ?_⟩⟩
    simp [DataW.trod, Value.cells, Try.underlying22]
  · simp [Value.cells] at hcs
    obtain ⟨rfl, rfl, rfl⟩ := hcs
    simp only [Prod.mk.injEq] at hx
    obtain ⟨rfl, rfl⟩ := hx
    simp only [if_true] at hz
    have hin : ∀ i, i < zs.length → (a.add i).block < W.heap.size := fun i hi => World.block_lt_of_cell? W _ (hcell i hi)
    refine ⟨some a, len, cap, rfl, Nat.le_trans hl hm, fun k hk => ?_, fun W' hb sp hsp => ⟨2, ?_⟩⟩
    · obtain ⟨ab, ao, spot⟩ := a
      have hspot : spot = none := by simpa [Addr.add] using World.cell?_spot (hcell 0 (by omega))
      subst hspot
      have hk' : k < zs.length := by omega
      have hc := hcell k hk'
      have hw := hwz (zs.getD k 0) (by simp [List.getD_eq_getElem?_getD, List.getElem?_eq_getElem hk'])
      rw [Addr.add_lit] at hc
      have hr : 0 ≤ zs.getD k 0 ∧ zs.getD k 0 ≤ 255 := by
        have h0 : IntKind.u8.min = 0 := by decide
        have h1 : IntKind.u8.max = 255 := by decide
        generalize zs.getD k 0 = z at hw ⊢
        simp [Lit.wf] at hw
        omega
      exact ⟨ab, ao, _, rfl, World.block_lt_of_cell? W _ hc, hr.1, hr.2, hc⟩
    · refine shut_ints 0 Try.underlying22 Try.underlying5 cellsByte (Nat.zero_le _) hl hm ?_ (fun i hi => (hb.cell (hin i hi)).trans (hcell i hi)) hwz
      by_cases h0 : zs.length = 0
      · rw [h0]; split <;> omega
      · have : sp a.block = true := hsp (.cell a.block a.off) (by
          simp only [MemPlace.row, List.mem_map, List.mem_range]
          exact ⟨0, by omega, by simp⟩)
        rw [this, if_pos rfl]; exact hz
end
end Go.Proofs.Ytflnjbcediecjaa.Draw
