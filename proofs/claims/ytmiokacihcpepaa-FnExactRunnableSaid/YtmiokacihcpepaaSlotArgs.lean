/-
  Arguments that are slots, or slices of slots, opened to their numbers and cells; no statement about the project's code stands here. No condition.
-/
import Derived.Test.YtmiokacihcpepaaSlotMath
import Derived.Deep.SlicePairs
import Derived.Lib.SmallJoins
namespace Go.Proofs.Ytmiokacihcpepaa.Slots
set_option maxRecDepth 100000
open Go.ChangeShapes Go.WideShapes Go.ChangeAt Go.RowKit Go.Deep
open Go.Proofs.Ytmiokacihcpepaa.Base Go.Proofs.Ytmiokacihcpepaa.Mem

theorem laid : laidOutB Try.prog = true := by kernel_rfl
theorem slotCells : Try.prog.cellsOf 98 = 2 := by kernel_rfl
theorem intCells : Try.prog.cellsOf 3 = 1 := by kernel_rfl

theorem lies_pairs {w : World} {A : Option Addr} {l : List Sl} (h : ∀ k (hk : k < l.length), ∃ b off, A = some ⟨b, off, none⟩ ∧ b < w.heap.size ∧ w.cell? ⟨b, off + k * 2, none⟩ = some (.int .i64 l[k].1) ∧ w.cell? ⟨b, off + k * 2 + 1, none⟩ = some (.int .i64 l[k].2)) :
    Lies w 0 w.heap.size A (scells l) := fun j u hu => by
  have hj := (List.getElem?_eq_some_iff.1 hu).1
  rw [scells_len] at hj
  obtain ⟨b, off, e, hb, h0, h1⟩ := h (j / 2) (by omega)
  refine ⟨b, off, e, Nat.zero_le _, hb, ?_⟩
  rcases Nat.mod_two_eq_zero_or_one j with hp | hp
  · have hj2 : j = j / 2 * 2 := by omega
    rw [hj2, scells_fst l _ (by omega)] at hu
    rw [hj2, h0]
    exact hu
  · have hj2 : j = j / 2 * 2 + 1 := by omega
    rw [hj2, scells_snd l _ (by omega)] at hu
    rw [hj2, ← Nat.add_assoc, h1]
    exact hu

section
variable {H : Type} {enc : TypeId × Value → H}
theorem open_slots {W : World} {base : Nat} {v : Value} {d : DataW H} {p : List MemPlace} (hval : Value.okWide Try.prog W .any base 63 v) (h : DataW.Trod enc Try.prog W 0 (fun _ => true) true 63 v d p) :
    ∃ A n c l, v = .slice A n c ∧ n ≤ 9223372036854775807 ∧ l.length = n ∧ wfL l ∧ Lies W 0 W.heap.size A (scells l) := by
  obtain ⟨a1, len, cap, rfl⟩ := okWide_slice Try.underlying63 hval
  obtain ⟨fuel, hf⟩ := h
  rcases open_slice_pairs Try.underlying63 Try.underlying98 slotCells rfl rfl intCells intCells hf with ⟨hcs, hx⟩ | ⟨a, len', cap', m, n, V0, V1, D0, D1, P0, P1, hcs, hb0, hl, hm, hmm, hx, hcell⟩
  · simp [Value.cells] at hcs
    obtain ⟨rfl, rfl, rfl⟩ := hcs
    exact ⟨none, 0, 0, [], rfl, Nat.zero_le _, rfl, (fun s hs => by cases hs), Lies.nil⟩
  · simp [Value.cells] at hcs
    obtain ⟨rfl, rfl, rfl⟩ := hcs
    have hmc : m = cap := by simpa using hmm
    subst hmc
    have hint : ∀ i, i < m → ∃ x y : Int, V0 i = .int .i64 x ∧ V1 i = .int .i64 y ∧ wfS (x, y) := fun i hi => by
      obtain ⟨_, _, t0, t1⟩ := hcell i hi
      obtain ⟨x, hx1, _, hx2⟩ := DataW.trod_int Try.underlying3 t0
      obtain ⟨y, hy1, _, hy2⟩ := DataW.trod_int Try.underlying3 t1
      simp at hx1 hy1
      exact ⟨x, y, hx1, hy1, hx2, hy2⟩
    obtain ⟨f, hf⟩ := choose_lt (p := fun i (s : Int × Int) => V0 i = .int .i64 s.1 ∧ V1 i = .int .i64 s.2 ∧ wfS s) (fun i hi => by
      obtain ⟨x, y, h1, h2, h3⟩ := hint i hi
      exact ⟨(x, y), h1, h2, h3⟩)
    refine ⟨some a, len, m, (List.range len).map f, rfl, Nat.le_trans hl hm, by simp, ?_, ?_⟩
    · intro s hs
      obtain ⟨i, hi, rfl⟩ := List.mem_map.1 hs
      exact (hf i (by have := List.mem_range.1 hi; omega)).2.2
    · refine lies_pairs fun k hk => ?_
      have hkm : k < m := by simp at hk; omega
      obtain ⟨h0, h1, _⟩ := hcell k hkm
      obtain ⟨e0, e1, _⟩ := hf k hkm
      have hg : ((List.range len).map f)[k] = f k := by simp
      rw [hg, ← e0, ← e1]
      obtain ⟨ab, ao, spot⟩ := a
      have hs : spot = none := by simpa [Addr.add] using World.cell?_spot (hcell 0 (by omega)).1
      subst hs
      rw [Addr.add_lit] at h0 h1
      exact ⟨ab, ao, rfl, World.block_lt_of_cell? W _ h0, h0, by rw [Nat.add_assoc]; exact h1⟩
theorem open_slot {W : World} {base : Nat} {v : Value} {d : DataW H} {p : List MemPlace} (hval : Value.okWide Try.prog W .any base 98 v) (h : DataW.Trod enc Try.prog W 0 (fun _ => true) true 98 v d p) :
    ∃ a b, v = .agg #[.int .i64 a, .int .i64 b] ∧ wfS (a, b) := by
  obtain ⟨v0, v1, y0, y1, n, rfl, _, _, t0, t1⟩ := Joins.open_agg2 Try.underlying98 (by kernel_rfl) slotCells hval h
  obtain ⟨x, hx1, _, hx2⟩ := DataW.trod_int Try.underlying3 t0
  obtain ⟨y, hy1, _, hy2⟩ := DataW.trod_int Try.underlying3 t1
  simp at hx1 hy1
  subst hx1 hy1
  exact ⟨x, y, rfl, hx2, hy2⟩
end
end Go.Proofs.Ytmiokacihcpepaa.Slots
