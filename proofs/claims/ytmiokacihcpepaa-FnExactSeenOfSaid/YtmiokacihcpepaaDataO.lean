/-
  Lists in memory taken at an index, and arguments of whatever nested type opened to what they hold; no statement about the program stands here. No condition.
-/
import Derived.Test.YtmiokacihcpepaaData
import Derived.Deep.Slices
import Derived.ChangeArms
namespace Go.Proofs.Ytmiokacihcpepaa.Data
set_option maxRecDepth 100000
open Go.ChangeShapes Go.WideShapes Go.ChangeAt Go.RowKit Go.Deep
open Go.Proofs.Ytmiokacihcpepaa.Base Go.Proofs.Ytmiokacihcpepaa.Mem
set_option linter.unusedVariables false

section
variable {α β : Type} {r : Rp α} {q : Rp β} {w w' : World} {lo hi lo' hi' : Nat}
/-- The cells of the element at k. -/
theorem rdAll_at : ∀ {xs : List α} {ds : List Value} (k : Nat) (hk : k < xs.length), rdAll r w lo hi xs ds → r.rd w lo hi xs[k] ((ds.drop (k * r.sz)).take r.sz)
  | x :: xs, ds, 0, _, h => by
    obtain ⟨c1, c2, rfl, h1, h2⟩ := h
    have hl := r.len h1
    simpa [← hl] using h1
  | x :: xs, ds, k + 1, hk, h => by
    obtain ⟨c1, c2, rfl, h1, h2⟩ := h
    have hl := r.len h1
    have := rdAll_at k (by simpa using hk) h2
    rw [show (k + 1) * r.sz = c1.length + k * r.sz by rw [hl, Nat.add_mul]; omega, ← List.drop_drop, List.drop_left]
    exact this
/-- .. and where they lie. -/
theorem list_at {xs : List α} {A : Option Addr} {ds : List Value} (hs : 0 < r.sz) (h : rdAll r w lo hi xs ds) (hl : Lies w lo hi A ds) (k : Nat) (hk : k < xs.length) :
    ∃ b off es, A = some ⟨b, off, none⟩ ∧ lo ≤ b ∧ b < hi ∧ r.rd w lo hi xs[k] es ∧ es.length = r.sz ∧ ∀ j u, es[j]? = some u → w.cell? ⟨b, off + (k * r.sz + j), none⟩ = some u := by
  have h1 := rdAll_at k hk h
  have hlen := rdAll_len h
  have hd : k * r.sz + r.sz ≤ ds.length := by
    have := Nat.mul_le_mul_right r.sz (show k + 1 ≤ xs.length from hk)
    rw [Nat.add_mul] at this
    omega
  obtain ⟨b, off, e, x, y, hc⟩ := hl.at_ (show 0 < ds.length by omega)
  refine ⟨b, off, _, e, x, y, h1, r.len h1, fun j u hu => ?_⟩
  have hj : j < r.sz := by
    have := (List.getElem?_eq_some_iff.1 hu).1
    rw [List.length_take] at this
    omega
  rw [List.getElem?_take, if_pos hj, List.getElem?_drop] at hu
  exact hc _ u hu
theorem rdAll_append : ∀ {xs ys : List α} {ds es : List Value}, rdAll r w lo hi xs ds → rdAll r w lo hi ys es → rdAll r w lo hi (xs ++ ys) (ds ++ es)
  | [], ys, ds, es, h, h' => by rw [show ds = [] from h]; exact h'
  | x :: xs, ys, ds, es, h, h' => by
    obtain ⟨c1, c2, rfl, h1, h2⟩ := h
    exact ⟨c1, c2 ++ es, by simp, h1, rdAll_append h2 h'⟩
theorem ownAll_append : ∀ {xs ys : List α} {ds es : List Value} {F G : List Nat}, ownAll r w lo hi xs ds F → ownAll r w lo hi ys es G → ownAll r w lo hi (xs ++ ys) (ds ++ es) (F ++ G)
  | [], ys, ds, es, F, G, h, h' => by rw [show ds = [] from h.1, show F = [] from h.2]; exact h'
  | x :: xs, ys, ds, es, F, G, h, h' => by
    obtain ⟨c1, c2, F1, F2, rfl, rfl, h1, h2⟩ := h
    exact ⟨c1, c2 ++ es, F1, F2 ++ G, by simp, by simp, h1, ownAll_append h2 h'⟩
theorem ownAll_one {x : α} {cs : List Value} {F : List Nat} (h : r.own w lo hi x cs F) : ownAll r w lo hi [x] cs F := ⟨cs, [], F, [], by simp, by simp, h, rfl, rfl⟩
theorem rdAll_one {x : α} {cs : List Value} (h : r.rd w lo hi x cs) : rdAll r w lo hi [x] cs := ⟨cs, [], by simp, h, rfl⟩
theorem rdAll_map {ι : Type} {f : ι → α} {g : ι → List Value} : ∀ (L : List ι), (∀ i ∈ L, r.rd w lo hi (f i) (g i)) → rdAll r w lo hi (L.map f) (L.flatMap g)
  | [], _ => rfl
  | i :: L, h => ⟨g i, L.flatMap g, by simp, h i (by simp), rdAll_map L fun j hj => h j (by simp [hj])⟩
end

theorem flatMap_len {g : Nat → List Value} {s : Nat} : ∀ (n : Nat), (∀ i, i < n → (g i).length = s) → ((List.range n).flatMap g).length = n * s
  | 0, _ => by simp
  | n + 1, h => by
    rw [List.range_succ, List.flatMap_append, List.length_append, flatMap_len n fun i hi => h i (by omega)]
    simp [h n (by omega), Nat.add_mul]
theorem flatMap_get {g : Nat → List Value} {s : Nat} (hs : 0 < s) : ∀ (n : Nat), (∀ i, i < n → (g i).length = s) → ∀ j, j < n * s → ((List.range n).flatMap g)[j]? = (g (j / s))[j % s]?
  | 0, _, j, hj => by simp at hj
  | n + 1, h, j, hj => by
    have hl := flatMap_len n fun i hi => h i (by omega)
    rw [List.range_succ, List.flatMap_append]
    by_cases hlt : j < n * s
    · rw [List.getElem?_append_left (by omega)]
      exact flatMap_get hs n (fun i hi => h i (by omega)) j hlt
    · have hj' : j - n * s < s := by rw [Nat.add_mul] at hj; omega
      have e1 : j / s = n := by
        rw [show j = n * s + (j - n * s) by omega, Nat.add_comm, Nat.add_mul_div_right _ _ hs, Nat.div_eq_of_lt hj']; omega
      have e2 : j % s = j - n * s := by
        conv => lhs; rw [show j = j - n * s + n * s by omega]
        rw [Nat.add_mul_mod_self_right, Nat.mod_eq_of_lt hj']
      rw [List.getElem?_append_right (by omega), hl, e1, e2]
      simp

/-- Whatever reads by the type t shows a value of r's. -/
def Opens {α : Type} (P : Program) (r : Rp α) (t : TypeId) : Prop :=
  ∀ (H : Type) (enc : TypeId × Value → H) (w : World) (fuel : Nat) (cs : List Value) (x : DataW H × List MemPlace), DataW.trod enc P w 0 (fun _ => true) true fuel t cs = some x → ∃ a, r.rd w 0 w.heap.size a cs ∧ r.wf a
/-- The same of fields that lie from 'off' on. -/
def FieldsOpen {α : Type} (P : Program) (fs : List Field) (r : Rp α) (off : Nat) : Prop :=
  ∀ (H : Type) (enc : TypeId × Value → H) (w : World) (n : Nat) (cs : List Value), cs.length = off + r.sz → (∀ f ∈ fs, ∃ y, DataW.trod enc P w 0 (fun _ => true) true n f.type ((cs.drop f.offset).take (P.cellsOf f.type)) = some y) →
    ∃ a, r.rd w 0 w.heap.size a (cs.drop off) ∧ r.wf a
section
variable {P : Program} {t e : TypeId}
theorem opens_int (hu : P.underlying t = some (.int .i64)) : Opens P rInt t := fun H enc w fuel cs x h => by
  obtain ⟨n, rfl, _, hw⟩ := DataW.trod_int hu h
  exact ⟨n, rfl, hw⟩
theorem opens_bool (hu : P.underlying t = some .bool) : Opens P rBool t := fun H enc w fuel cs x h => by
  obtain ⟨b, rfl, _⟩ := DataW.trod_bool hu h
  exact ⟨b, rfl, trivial⟩
theorem opens_list {α : Type} {r : Rp α} (hs : 0 < r.sz) (ht : P.underlying t = some (.slice e)) (hc : P.cellsOf e = r.sz) (he : Opens P r e) : Opens P (rList r) t := fun H enc w fuel cs x h => by
  rcases open_slice ht h with ⟨rfl, _⟩ | ⟨a, len, cap, m, n, D, Pl, rfl, hb, hl, hm, hmm, _, hx⟩
  · exact ⟨[], ⟨none, 0, [], rfl, rfl, Lies.nil⟩, ⟨Nat.zero_le _, fun x hx => by cases hx⟩⟩
  · have hmc : m = cap := by simpa using hmm
    subst hmc
    have each : ∀ i, i < len → ∃ y : List Value × α, y.1.length = r.sz ∧ (∀ j, j < r.sz → w.cell? ((a.add (i * r.sz)).add j) = y.1[j]?) ∧ r.rd w 0 w.heap.size y.2 y.1 ∧ r.wf y.2 := fun i hi => by
      obtain ⟨cs', h1, h2⟩ := hx i (by omega)
      obtain ⟨v, hv, hw⟩ := he H enc w n cs' _ h2
      rw [hc] at h1
      obtain ⟨_, hlen, hcell⟩ := World.cells?_some h1
      exact ⟨(cs', v), hlen, hcell, hv, hw⟩
    by_cases h0 : len = 0
    · subst h0
      exact ⟨[], ⟨some a, m, [], rfl, rfl, Lies.nil⟩, ⟨Nat.zero_le _, fun x hx => by cases hx⟩⟩
    have hin : Inhabited (List Value × α) := ⟨(each 0 (by omega)).choose⟩
    obtain ⟨f, hf⟩ := choose_lt each
    refine ⟨(List.range len).map fun i => (f i).2, ⟨some a, m, (List.range len).flatMap fun i => (f i).1, by simp, rdAll_map _ fun i hi => (hf i (List.mem_range.1 hi)).2.2.1, ?_⟩, ⟨by simp; omega, fun x hx => ?_⟩⟩
    · intro j u hu
      have hL := flatMap_len (g := fun i => (f i).1) (s := r.sz) len fun i hi => (hf i hi).1
      have hj : j < len * r.sz := by
        have := (List.getElem?_eq_some_iff.1 hu).1
        omega
      rw [flatMap_get hs len (fun i hi => (hf i hi).1) j hj] at hu
      have hd : j / r.sz < len := Nat.div_lt_of_lt_mul (by rwa [Nat.mul_comm] at hj)
      have hc1 := (hf (j / r.sz) hd).2.1 (j % r.sz) (Nat.mod_lt _ hs)
      have hc1 := hc1.trans hu
      rw [add_add, show j / r.sz * r.sz + j % r.sz = j by rw [Nat.mul_comm]; exact Nat.div_add_mod j r.sz] at hc1
      have hc0 := (hf 0 (by omega)).2.1 0 hs
      rw [List.getElem?_eq_getElem (by rw [(hf 0 (by omega)).1]; exact hs)] at hc0
      obtain ⟨ab, ao, spot⟩ := a
      have hsp : spot = none := by simpa [Addr.add] using World.cell?_spot hc0
      subst hsp
      rw [Addr.add_lit] at hc1
      exact ⟨ab, ao, rfl, Nat.zero_le _, World.block_lt_of_cell? w _ hc1, hc1⟩
    · obtain ⟨i, hi, rfl⟩ := List.mem_map.1 hx
      exact (hf i (List.mem_range.1 hi)).2.2.2
theorem fields_one {α : Type} {r : Rp α} {f : Field} {off : Nat} (hf : Opens P r f.type) (ho : f.offset = off) (hc : P.cellsOf f.type = r.sz) : FieldsOpen P [f] r off := fun H enc w n cs hl h => by
  obtain ⟨y, hy⟩ := h f (by simp)
  rw [ho, hc, List.take_of_length_le (by simp; omega)] at hy
  exact hf H enc w n _ y hy
theorem fields_cons {α β : Type} {r : Rp α} {q : Rp β} {f : Field} {fs : List Field} {off : Nat} (hf : Opens P r f.type) (ho : f.offset = off) (hc : P.cellsOf f.type = r.sz) (hr : FieldsOpen P fs q (off + r.sz)) :
    FieldsOpen P (f :: fs) (rPair r q) off := fun H enc w n cs hl h => by
  have hl' : cs.length = off + (r.sz + q.sz) := hl
  obtain ⟨y, hy⟩ := h f (by simp)
  rw [ho, hc] at hy
  obtain ⟨u, hu, wu⟩ := hf H enc w n _ y hy
  obtain ⟨v, hv, wv⟩ := hr H enc w n cs (by omega) fun g hg => h g (by simp [hg])
  refine ⟨(u, v), ⟨_, _, ?_, hu, hv⟩, wu, wv⟩
  rw [← List.drop_drop]
  exact (List.take_append_drop _ _).symm
theorem opens_struct {α : Type} {r : Rp α} {fs : Array Field} (ht : P.underlying t = some (.struct fs)) (hc : P.cellsOf t = r.sz) (hf : FieldsOpen P fs.toList r 0) : Opens P r t := fun H enc w fuel cs x h => by
  obtain ⟨xs, n, _, _, hlen, hxl, hx⟩ := DataW.trod_struct ht h
  obtain ⟨a, ha, wa⟩ := hf H enc w n cs (by omega) fun f hm => by
    obtain ⟨i, hi, rfl⟩ := List.getElem_of_mem hm
    have hi' : i < xs.length := by rw [hxl]; exact hi
    exact ⟨xs[i], by rw [hx i _ (by simp), List.getElem?_eq_getElem hi']⟩
  exact ⟨a, by simpa using ha, wa⟩
theorem opens_via {α β : Type} {q : Rp β} {f : α → β} {g : β → α} (hfg : ∀ b, f (g b) = b) (h : Opens P q t) : Opens P (rVia q f g) t := fun H enc w fuel cs x hx => by
  obtain ⟨b, hb, wb⟩ := h H enc w fuel cs x hx
  refine ⟨g b, ?_, ?_⟩
  · show q.rd w 0 w.heap.size (f (g b)) cs
    rw [hfg]; exact hb
  · show q.wf (f (g b))
    rw [hfg]; exact wb
end
end Go.Proofs.Ytmiokacihcpepaa.Data
