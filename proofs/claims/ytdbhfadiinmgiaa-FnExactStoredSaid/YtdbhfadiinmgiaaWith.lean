/-
  Page tables: WithSlot of the project and of the given model. No condition beyond a table's length.
-/
import Derived.Test.YtdbhfadiinmgiaaTabA
namespace Go.Proofs.Ytdbhfadiinmgiaa.Slots
set_option maxRecDepth 100000
open Go.ChangeShapes Go.WideShapes Go.ChangeAt Go.RowKit
open Go.Proofs.Ytdbhfadiinmgiaa.Base Go.Proofs.Ytdbhfadiinmgiaa.Mem Go.Proofs.Ytdbhfadiinmgiaa.Ints
set_option linter.unusedVariables false

theorem scells_set : ∀ (l : List Sl) (k : Nat) (_ : k < l.length) (x y : Int), scells (l.set k (x, y)) = ((scells l).set (k * 2) (.int .i64 x)).set (k * 2 + 1) (.int .i64 y)
  | p :: l, 0, _, x, y => by simp [scells]
  | p :: l, k + 1, h, x, y => by
    have := scells_set l k (by simpa using h) x y
    rw [show (k + 1) * 2 = k * 2 + 1 + 1 by omega]
    simp [scells, this]
theorem withS_no {l : List Sl} {page : Int} {s : Sl} (h : ¬ (0 ≤ page ∧ page < l.length)) : withS l page s = l := by
  unfold withS
  split
  · exact List.set_eq_of_length_le (by omega)
  · rfl
theorem withS_len (l : List Sl) (page : Int) (s : Sl) : (withS l page s).length = l.length := by
  unfold withS
  split <;> simp
theorem made2 (w : World) (o : Obj) (e : TypeId) : ((w.alloc o).alloc (.cells #[] e)).ownsRow w.heap.size e 2 (.slice (some ⟨w.heap.size + 1, 0, none⟩) 0 0) 0 [] := by
  have := World.ownsRow_made (base := w.heap.size) (e := e) (size := 2) (w.alloc o) #[] 0 (by simp) (Nat.zero_le _) rfl
  simpa using this
/-- The source's cells behind two new blocks. -/
theorem src_cells {w : World} {lo : Nat} {ad : Addr} {cs : List Value} (h : Lies w lo w.heap.size (some ad) cs) (o o' : Obj) : ∀ j u, cs[j]? = some u → ((w.alloc o).alloc o').cell? (ad.add j) = some u := by
  intro j u hu
  obtain ⟨b, off, e, _, hb, hc⟩ := h j u hu
  cases e
  rw [Addr.add_lit, World.cell?_alloc_lt _ _ _ (by simp; omega), World.cell?_alloc_lt _ _ _ (by simpa using hb)]
  exact hc
/-- What append left of a new slice. -/
theorem copied {w w1 : World} {o : Obj} {e : TypeId} {n : Nat} {v : Value} {cs : List Value} (hown : w1.ownsRow w.heap.size e 2 v (0 + n) ([] ++ cs))
    (hgrow : ((w.alloc o).alloc (.cells #[] e)).grownBy w1 (Value.slice (some ⟨w.heap.size + 1, 0, none⟩) 0 0).ownBlock) (hnil : v = .slice none 0 0 ↔ Value.slice (some ⟨w.heap.size + 1, 0, none⟩) 0 0 = .slice none 0 0 ∧ n = 0) :
    ∃ g cap, v = .slice (some ⟨g, 0, none⟩) n cap ∧ n ≤ cap ∧ w1.ownsRow w.heap.size e 2 (.slice (some ⟨g, 0, none⟩) n cap) n cs ∧ Below (w.alloc o).heap.size (w.alloc o) w1 := by
  rw [Nat.zero_add, List.nil_append] at hown
  rcases hown.2 with ⟨h, _⟩ | ⟨g, cap, cur, rfl, _, _, hnc, _⟩
  · have := (hnil.1 h).1
    simp at this
  · refine ⟨g, cap, rfl, hnc, hown, ?_⟩
    exact ((Below.refl _ _).alloc (Nat.le_refl _) _).grown hgrow (by simp) (fun k hk => by simp [Value.ownBlock] at hk; simp; omega)
theorem boxed_below {w w1 : World} {u v : Value} {T : TypeId} (hb : Below (w.alloc (.cells #[u, v] T)).heap.size (w.alloc (.cells #[u, v] T)) w1) :
    w1.cell? ⟨w.heap.size, 0, none⟩ = some u ∧ w1.cell? ⟨w.heap.size, 1, none⟩ = some v := by
  obtain ⟨a, b, _⟩ := two_kept hb
  exact ⟨a, b⟩
theorem with_yes {w : World} {base g n cap : Nat} {e : TypeId} {l : List Sl} {k : Nat} {x y : Int} (hl : l.length = n) (hk : k < n) (h : w.ownsRow base e 2 (.slice (some ⟨g, 0, none⟩) n cap) n (scells l)) :
    Owned ((w.setCell ⟨g, k * 2, none⟩ (.int .i64 x)).setCell ⟨g, k * 2 + 1, none⟩ (.int .i64 y)) base ((w.setCell ⟨g, k * 2, none⟩ (.int .i64 x)).setCell ⟨g, k * 2 + 1, none⟩ (.int .i64 y)).heap.size (some ⟨g, 0, none⟩) (scells (withS l (k : Int) (x, y))) := by
  have h2 := Owned.of_row (row_set2 h k (.int .i64 x) (.int .i64 y))
  have e1 : scells (withS l (k : Int) (x, y)) = ((scells l).set (k * 2) (.int .i64 x)).set (k * 2 + 1) (.int .i64 y) := by
    unfold withS
    rw [if_pos (by omega), Int.toNat_natCast]
    exact scells_set l k (by omega) x y
  rw [e1]
  exact h2
theorem with_below {w w1 : World} {g n cap : Nat} {e : TypeId} {o : Obj} {cs : List Value} (hb : Below (w.alloc o).heap.size (w.alloc o) w1) (h : w1.ownsRow w.heap.size e 2 (.slice (some ⟨g, 0, none⟩) n cap) n cs) (k : Nat) (x y : Int) :
    Below w.heap.size w ((w1.setCell ⟨g, k * 2, none⟩ (.int .i64 x)).setCell ⟨g, k * 2 + 1, none⟩ (.int .i64 y)) := by
  have hg := (h.lt g rfl).1
  exact ((btr ((Below.refl _ _).alloc (Nat.le_refl _) _) hb).setCell (p := ⟨g, k * 2, none⟩) hg _).setCell (p := ⟨g, k * 2 + 1, none⟩) hg _

end Go.Proofs.Ytdbhfadiinmgiaa.Slots
