/-
  Arguments that are slices of ints, or slices of slices of ints, opened to their numbers and cells; no statement about the project's code stands here. No condition.
-/
import Derived.Test.YtkbcmeachfplnaaGridM
import Derived.Deep.Matrix
import Derived.Lib.SmallJoins
namespace Go.Proofs.Ytkbcmeachfplnaa.Grid
open Go.ChangeShapes Go.WideShapes Go.ChangeAt Go.RowKit Go.Deep
open Go.Proofs.Ytkbcmeachfplnaa.Base Go.Proofs.Ytkbcmeachfplnaa.Mem Go.Proofs.Ytkbcmeachfplnaa.Ints

theorem laid : laidOutB Try.prog = true := by kernel_rfl
theorem intCells : Try.prog.cellsOf 3 = 1 := by kernel_rfl
theorem pageCells : Try.prog.cellsOf 32 = 1 := by kernel_rfl

theorem lies_ints {w : World} {a : Addr} {l : List Int} (h : ∀ i, i < l.length → w.cell? (a.add i) = some (.int .i64 (l.getD i 0))) : Lies w 0 w.heap.size (some a) (ncells l) := by
  by_cases hl : l = []
  · subst hl
    exact Lies.nil
  have h0 := h 0 (List.length_pos_iff.2 hl)
  obtain ⟨ab, ao, spot⟩ := a
  have hs : spot = none := by simpa [Addr.add] using World.cell?_spot h0
  subst hs
  intro j u hu
  have hj : j < l.length := by
    have := (List.getElem?_eq_some_iff.1 hu).1
    rwa [ncells_len] at this
  have h1 := h j hj
  rw [ncells_at l j hj] at hu
  cases hu
  rw [Addr.add_lit, List.getD_eq_getElem?_getD, List.getElem?_eq_getElem hj] at h1
  exact ⟨ab, ao, rfl, Nat.zero_le _, World.block_lt_of_cell? w _ h1, h1⟩
theorem getD_take {l : List Int} {n i : Nat} (h : i < (l.take n).length) : (l.take n).getD i 0 = l.getD i 0 := by
  rw [List.length_take] at h
  rw [List.getD_eq_getElem?_getD, List.getD_eq_getElem?_getD, List.getElem?_take, if_pos (by omega)]

section
variable {H : Type} {enc : TypeId × Value → H}
theorem open_intsA {W : World} {base : Nat} {v : Value} {d : DataW H} {p : List MemPlace} (hval : Value.okWide Try.prog W .any base 32 v) (h : DataW.Trod enc Try.prog W 0 (fun _ => true) true 32 v d p) :
    ∃ A n c l, v = .slice A n c ∧ n ≤ 9223372036854775807 ∧ l.length = n ∧ Lies W 0 W.heap.size A (ncells l) := by
  obtain ⟨a1, len, cap, rfl⟩ := okWide_slice Try.underlying32 hval
  obtain ⟨fuel, hf⟩ := h
  rcases open_ints Try.underlying32 Try.underlying3 intCells hf with ⟨hcs, hx⟩ | ⟨a, len', cap', zs, hcs, hb0, hl, hm, hz, hx, hcell, hwz⟩
  · simp [Value.cells] at hcs
    obtain ⟨rfl, rfl, rfl⟩ := hcs
    exact ⟨none, 0, 0, [], rfl, Nat.zero_le _, rfl, Lies.nil⟩
  · simp [Value.cells] at hcs
    obtain ⟨rfl, rfl, rfl⟩ := hcs
    simp only [if_true] at hz
    refine ⟨some a, len, cap, zs.take len, rfl, Nat.le_trans hl hm, by rw [List.length_take]; omega, lies_ints fun i hi => ?_⟩
    rw [getD_take hi]
    exact hcell i (by rw [List.length_take] at hi; omega)

theorem open_grid {W : World} {base : Nat} {v : Value} {d : DataW H} {p : List MemPlace} (hval : Value.okWide Try.prog W .any base 24 v) (h : DataW.Trod enc Try.prog W 0 (fun _ => true) true 24 v d p) :
    ∃ A n c M hs, v = .slice A n c ∧ n ≤ 9223372036854775807 ∧ M.length = n ∧ fitG M ∧ RG W 0 W.heap.size A M hs := by
  obtain ⟨a1, len, cap, rfl⟩ := okWide_slice Try.underlying24 hval
  obtain ⟨fuel, hf⟩ := h
  rcases open_int_rows Try.underlying24 Try.underlying32 Try.underlying3 pageCells intCells hf with ⟨hcs, hx⟩ | ⟨a, len', cap', A, L, C, Z, hcs, hb0, hl, hm, hx, hcell⟩
  · simp [Value.cells] at hcs
    obtain ⟨rfl, rfl, rfl⟩ := hcs
    exact ⟨none, 0, 0, [], [], rfl, Nat.zero_le _, rfl, (fun r hr => by cases hr), Lies.nil, rfl, fun i r k h1 => by simp at h1⟩
  · simp [Value.cells] at hcs
    obtain ⟨rfl, rfl, rfl⟩ := hcs
    have hZ : ∀ r, r < len → ((Z r).take (L r)).length = L r := fun r hr => by
      obtain ⟨_, q1, _, q2, _⟩ := hcell r (by omega)
      rw [List.length_take]
      omega
    have hMat : ∀ i r, ((List.range len).map fun r => (Z r).take (L r))[i]? = some r → i < len ∧ r = (Z i).take (L i) := fun i r h1 => by
      have hi := (List.getElem?_eq_some_iff.1 h1).1
      simp at hi
      refine ⟨hi, ?_⟩
      simp [List.getElem?_map, List.getElem?_range hi] at h1
      exact h1.symm
    have hHat : ∀ i k, ((List.range len).map fun r => (A r, C r))[i]? = some k → k = (A i, C i) := fun i k h1 => by
      have hi := (List.getElem?_eq_some_iff.1 h1).1
      simp at hi
      simp [List.getElem?_map, List.getElem?_range hi] at h1
      exact h1.symm
    refine ⟨some a, len, cap, (List.range len).map fun r => (Z r).take (L r), (List.range len).map fun r => (A r, C r), rfl, Nat.le_trans hl hm, by simp, ?_, ?_, by simp, ?_⟩
    · intro r hr
      obtain ⟨i, hi, rfl⟩ := List.mem_map.1 hr
      have hi' := List.mem_range.1 hi
      obtain ⟨_, q1, q2, q3, _⟩ := hcell i (by omega)
      rw [hZ i hi']
      exact Nat.le_trans q1 q2
    · intro j u hu
      have hj := (List.getElem?_eq_some_iff.1 hu).1
      rw [hcells_len (by simp)] at hj
      have hj : j < len := by simpa using hj
      have hu2 := hcells_at (M := (List.range len).map fun r => (Z r).take (L r)) (hs := (List.range len).map fun r => (A r, C r)) (i := j) (r := (Z j).take (L j)) (h := (A j, C j)) (by simp [hj]) (by simp [hj])
      rw [hu2, hZ j hj] at hu
      cases hu
      have h1 := (hcell j (by omega)).1
      obtain ⟨ab, ao, spot⟩ := a
      have hs : spot = none := by simpa [Addr.add] using World.cell?_spot (hcell 0 (by omega)).1
      subst hs
      rw [Addr.add_lit] at h1
      exact ⟨ab, ao, rfl, Nat.zero_le _, World.block_lt_of_cell? W _ h1, h1⟩
    · intro i r k h1 h2
      obtain ⟨hi, rfl⟩ := hMat i r h1
      have hk := hHat i k h2
      subst hk
      obtain ⟨_, q1, _, q3, _, q5, q6⟩ := hcell i (by omega)
      show Lies W 0 W.heap.size (A i) (ncells ((Z i).take (L i)))
      rcases hA : A i with _ | a'
      · have := q5 hA
        have hz : (Z i).take (L i) = [] := List.eq_nil_of_length_eq_zero (by rw [hZ i hi]; omega)
        rw [hz]
        exact Lies.nil
      · refine lies_ints fun j hj => ?_
        rw [getD_take hj]
        exact (q6 a' hA).2 j (by rw [hZ i hi] at hj; omega)
end
end Go.Proofs.Ytkbcmeachfplnaa.Grid
