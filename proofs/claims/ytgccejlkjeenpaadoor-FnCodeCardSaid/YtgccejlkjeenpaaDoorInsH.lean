/-
  Contracts of the law package's helpers over a struct of 2 ints (Ins) and slices of it (equality, conversion, marking, looking the marks up, size), and such arguments opened; no statement about the project's code stands here. No condition.
-/
import Derived.Test.YtgccejlkjeenpaaDoorSlotArgs
import Derived.Test.YtgccejlkjeenpaaDoorDataO
import Derived.Deep.RegionHeld3
namespace Go.Proofs.YtgccejlkjeenpaaDoor.Inss
set_option maxRecDepth 100000
open Go.ChangeShapes Go.WideShapes Go.ChangeAt Go.RowKit
open Go.Proofs.YtgccejlkjeenpaaDoor.Base Go.Proofs.YtgccejlkjeenpaaDoor.Mem Go.Proofs.YtgccejlkjeenpaaDoor.Data
set_option linter.unusedVariables false
set_option linter.unusedSimpArgs false

abbrev JT := Int × Int
/-- The cells of a list of them. -/
def jcells : List JT → List Value
  | [] => []
  | p :: l => .int .i64 p.1 :: .int .i64 p.2 :: jcells l
theorem jcells_len : ∀ l, (jcells l).length = 2 * l.length
  | [] => rfl
  | p :: l => by simp [jcells, jcells_len l]; omega
theorem jcells_at0 : ∀ (l : List JT) (k : Nat) (h : k < l.length), (jcells l)[k * 2]? = some (.int .i64 l[k].1)
  | p :: l, 0, _ => rfl
  | p :: l, k + 1, h => by
    have := jcells_at0 l k (by simpa using h)
    rw [show (k + 1) * 2 = k * 2 + 1 + 1 by omega]
    simpa [jcells] using this
theorem jcells_at1 : ∀ (l : List JT) (k : Nat) (h : k < l.length), (jcells l)[k * 2 + 1]? = some (.int .i64 l[k].2)
  | p :: l, 0, _ => rfl
  | p :: l, k + 1, h => by
    have := jcells_at1 l k (by simpa using h)
    rw [show (k + 1) * 2 + 1 = k * 2 + 1 + 1 + 1 by omega]
    simpa [jcells] using this
theorem jcells_append : ∀ l m, jcells (l ++ m) = jcells l ++ jcells m
  | [], m => rfl
  | p :: l, m => by simp [jcells, jcells_append l m]
theorem jcells_one : ∀ l, ∀ u ∈ jcells l, u.oneCell' = true
  | [], u, h => by simp [jcells] at h
  | p :: l, u, h => by
    simp [jcells] at h
    rcases h with rfl | rfl | h
    · rfl
    · rfl
    · exact jcells_one l u h
theorem j_at {w : World} {lo hi : Nat} {A : Option Addr} {l : List JT} (h : Lies w lo hi A (jcells l)) (k : Nat) (hk : k < l.length) :
    ∃ b off, A = some ⟨b, off, none⟩ ∧ lo ≤ b ∧ b < hi ∧ w.cell? ⟨b, off + k * 2, none⟩ = some (.int .i64 l[k].1) ∧ w.cell? ⟨b, off + k * 2 + 1, none⟩ = some (.int .i64 l[k].2) := by
  obtain ⟨b, off, e, x, y, hc⟩ := h.at_ (by rw [jcells_len]; omega)
  exact ⟨b, off, e, x, y, hc _ _ (jcells_at0 l k hk), by rw [Nat.add_assoc]; exact hc _ _ (jcells_at1 l k hk)⟩
theorem jset {l : List JT} {k : Nat} (hk : k < l.length) (x0 x1 : Int) : ((jcells l).set (k * 2) (.int .i64 x0)).set (k * 2 + 1) (.int .i64 x1) = jcells (l.set k (x0, x1)) := by
  induction l generalizing k with
  | nil => simp at hk
  | cons p l ih => cases k with
    | zero => simp [jcells]
    | succ k =>
      have h := ih (k := k) (by simpa using hk)
      simp only [List.set_cons_succ, jcells]
      rw [← h]
      rw [show (k + 1) * 2 + 1 = k * 2 + 1 + 1 + 1 by omega]
      rw [show (k + 1) * 2 = k * 2 + 1 + 1 by omega]
      simp only [List.set_cons_succ]

/-- The cells of a row may be written. -/
theorem jrow_some {w : World} {base g n c : Nat} {e : TypeId} {xs : List Value} (h : w.ownsRow base e 2 (.slice (some ⟨g, 0, none⟩) n c) n xs) {k : Nat} (hk : k < n) :
    (∃ u, w.cell? ⟨g, k * 2, none⟩ = some u) ∧ (∃ u, w.cell? ⟨g, k * 2 + 1, none⟩ = some u) ∧ w.frozen? ⟨g, k * 2, none⟩ = false ∧ w.frozen? ⟨g, k * 2 + 1, none⟩ = false := by
  have hl := h.1
  refine ⟨⟨xs[k * 2]'(by omega), ?_⟩, ⟨xs[k * 2 + 1]'(by omega), ?_⟩, h.frozenAt _, h.frozenAt _⟩
  · rw [h.cellAt _ (by omega)]; exact List.getElem?_eq_getElem _
  · rw [h.cellAt _ (by omega)]; exact List.getElem?_eq_getElem _
theorem jrow_set {w : World} {base g n c : Nat} {e : TypeId} {xs : List Value} (h : w.ownsRow base e 2 (.slice (some ⟨g, 0, none⟩) n c) n xs) (k : Nat) (u0 u1 : Value) :
    ((w.setCell ⟨g, k * 2, none⟩ u0).setCell ⟨g, k * 2 + 1, none⟩ u1).ownsRow base e 2 (.slice (some ⟨g, 0, none⟩) n c) n ((xs.set (k * 2) u0).set (k * 2 + 1) u1) :=
  (h.stored (k * 2) u0).1.stored (k * 2 + 1) u1 |>.1
theorem jtake_set {xs : List Value} {k : Nat} {l : List JT} {x0 x1 : Int} (h : xs.take (k * 2) = jcells (l.take k)) (hl : k * 2 + 1 < xs.length) (ht : l.take (k + 1) = l.take k ++ [(x0, x1)]) :
    ((xs.set (k * 2) (.int .i64 x0)).set (k * 2 + 1) (.int .i64 x1)).take ((k + 1) * 2) = jcells (l.take (k + 1)) := by
  rw [ht, jcells_append, ← h]
  rw [show (k + 1) * 2 = k * 2 + 1 + 1 by omega, List.take_succ_eq_append_getElem (by simp; omega), List.take_succ_eq_append_getElem (by simp; omega)]
  simp [jcells, List.take_set_of_le]

def InssP (w : World) (n : Nat) (l : List JT) (e : Ending) (w' : World) : Prop :=
  ∃ ad c, e = .returned (.slice (some ad) n c) ∧ n ≤ c ∧ Owned w' w.heap.size w'.heap.size (some ad) (jcells l) ∧ Below w.heap.size w w'

theorem Tryd.infoIns : (Tryd.prog.info? 25).map (fun i => (i.zero, i.size, i.bytes)) = some (some (.agg #[.int .i64 0, .int .i64 0]), 2, 16) := by kernel_rfl

/-- The marks k, k + 1, .. -/
def jmarks (k n : Nat) : List JT := (List.range n).map fun (j : Nat) => ((k : Int) + 2 * j, (k : Int) + 2 * j + 1)
theorem jmarks_len (k n : Nat) : (jmarks k n).length = n := by simp [jmarks]
theorem jmarks_at (k n j : Nat) (h : j < (jmarks k n).length) : (jmarks k n)[j] = ((k : Int) + 2 * j, (k : Int) + 2 * j + 1) := by simp [jmarks]

theorem jmarks_step (k0 k : Nat) (l : List JT) (hk : k < l.length) :
    ((jcells (jmarks k0 k ++ l.drop k)).set (k * 2) (.int .i64 ((k0 : Int) + 2 * k))).set (k * 2 + 1) (.int .i64 ((k0 : Int) + 2 * k + 1)) = jcells (jmarks k0 (k + 1) ++ l.drop (k + 1)) := by
  have hl : k < (jmarks k0 k ++ l.drop k).length := by simp [jmarks_len]; omega
  rw [jset hl]
  congr 1
  have h1 : l.drop k = l[k] :: l.drop (k + 1) := List.drop_eq_getElem_cons hk
  have h3 : jmarks k0 (k + 1) = jmarks k0 k ++ [((k0 : Int) + 2 * k, (k0 : Int) + 2 * k + 1)] := by simp [jmarks, List.range_succ]
  rw [List.set_append_right _ _ (Nat.le_of_eq (jmarks_len _ _)), jmarks_len, Nat.sub_self, h1, h3, List.set_cons_zero, List.append_assoc]
  rfl

/-! ### An argument opened -/
def wfJ (s : JT) : Prop := (Lit.int .i64 s.1).wf = true ∧ (Lit.int .i64 s.2).wf = true
def wfJL (l : List JT) : Prop := ∀ s ∈ l, wfJ s
def rIns : Rp JT := rPair rInt rInt
def rInss : Rp (List JT) := rList rIns
section
variable {w : World} {lo hi : Nat}
theorem jone_cells {s : JT} {cs : List Value} (h : rIns.rd w lo hi s cs) : cs = [.int .i64 s.1, .int .i64 s.2] := by
  obtain ⟨a0, b0, rfl, h0, h⟩ := h
  rw [show a0 = _ from h0]
  rw [show b0 = _ from h]
  rfl
theorem jall_cells : ∀ {l : List JT} {ds : List Value}, rdAll rIns w lo hi l ds → ds = jcells l
  | [], ds, h => h
  | s :: l, ds, h => by
    obtain ⟨c1, c2, rfl, h1, h2⟩ := h
    rw [jone_cells h1, jall_cells h2]
    rfl
end

section
variable {H : Type} {enc : TypeId × Value → H}

end
end Go.Proofs.YtgccejlkjeenpaaDoor.Inss
