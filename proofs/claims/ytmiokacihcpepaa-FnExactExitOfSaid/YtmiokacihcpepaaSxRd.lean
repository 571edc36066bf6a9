/-
  What is read only, as a claim: a value wherever it lies. No statement about the program stands here. No condition.
-/
import Derived.Test.YtmiokacihcpepaaSxCur
import Derived.Test.YtmiokacihcpepaaSxRes
import Derived.Test.YtmiokacihcpepaaCode
namespace Go.Proofs.Ytmiokacihcpepaa.Sx
set_option maxRecDepth 100000
open Go.ChangeShapes Go.WideShapes Go.ChangeAt Go.RowKit Go.Deep
open Go.Proofs.Ytmiokacihcpepaa.Base Go.Proofs.Ytmiokacihcpepaa.Mem Go.Proofs.Ytmiokacihcpepaa.Data Go.Proofs.Ytmiokacihcpepaa.Stt Go.Proofs.Ytmiokacihcpepaa.Draw
set_option linter.unusedVariables false

def rdc {α : Type} (r : Rp α) (lo hi : Nat) (x : α) (cs : List Value) : Res where
  says w := r.rd w lo hi x cs
  foot k := lo ≤ k ∧ k < hi
  lo := lo
  hi := hi
  inn k h := h
  kept h hk := r.kept h fun k a b => hk k ⟨a, b⟩
/-- Two of them, in one stretch of memory. -/
def rdc2 {α β : Type} (r : Rp α) (q : Rp β) (lo hi : Nat) (x : α) (y : β) (cs ds : List Value) : Res where
  says w := r.rd w lo hi x cs ∧ q.rd w lo hi y ds
  foot k := lo ≤ k ∧ k < hi
  lo := lo
  hi := hi
  inn k h := h
  kept h hk := ⟨r.kept h.1 fun k a b => hk k ⟨a, b⟩, q.kept h.2 fun k a b => hk k ⟨a, b⟩⟩
section
variable {α : Type} {r : Rp α} {w0 w w' : World} {L : List Res} {x : α} {cs : List Value} {lo hi : Nat}
theorem St.rdc (S : St w0 w L) (i : Nat) (h : L[i]? = some (rdc r lo hi x cs)) : r.rd w 0 w.heap.size x cs := r.wide (S.at_ i h) (Nat.zero_le _) (S.hi i _ h)
theorem St.gotR (S : St w0 w L) (hb : Below w.heap.size w w') (h : r.rd w' w.heap.size w'.heap.size x cs) : St w0 w' (Sx.rdc r w.heap.size w'.heap.size x cs :: L) :=
  S.add hb (Sx.rdc r w.heap.size w'.heap.size x cs) h (Nat.le_refl _) (Nat.le_refl _)
theorem St.gotR2 {β : Type} {q : Rp β} {y : β} {ds : List Value} (S : St w0 w L) (hb : Below w.heap.size w w') (h : r.rd w' w.heap.size w'.heap.size x cs) (h' : q.rd w' w.heap.size w'.heap.size y ds) : St w0 w' (Sx.rdc2 r q w.heap.size w'.heap.size x y cs ds :: L) :=
  S.add hb (Sx.rdc2 r q w.heap.size w'.heap.size x y cs ds) ⟨h, h'⟩ (Nat.le_refl _) (Nat.le_refl _)
theorem St.rdca {β : Type} {q : Rp β} {y : β} {ds : List Value} (S : St w0 w L) (i : Nat) (h : L[i]? = some (rdc2 r q lo hi x y cs ds)) : r.rd w 0 w.heap.size x cs := r.wide (S.at_ i h).1 (Nat.zero_le _) (S.hi i _ h)
theorem St.rdcb {β : Type} {q : Rp β} {y : β} {ds : List Value} (S : St w0 w L) (i : Nat) (h : L[i]? = some (rdc2 r q lo hi x y cs ds)) : q.rd w 0 w.heap.size y ds := q.wide (S.at_ i h).2 (Nat.zero_le _) (S.hi i _ h)
/-- What the claims say is known. -/
theorem C.know {P : Program} {n : Nat} {Q : Exit → Act → World → Prop} {T : Tl} {c : Code} {p : Prop} (h : ∀ w, St w0 w L → p) (k : p → C P n Q w0 T L c) : C P n Q w0 T L c := fun a w hA S => k (h w S) a w hA S
theorem run_elemO {P : Program} {ρ : Operand → Value} {o : Oper} {t : TypeId} {z y : Operand} (e : TypeId) (size bytes b off m c k : Nat) (hop : o.op = .indexAddr t z y) (he : elemB P t e size bytes = true) (hx : ρ z = .slice (some ⟨b, off, none⟩) m c) (hy : ρ y = .int .i64 (k : Int)) (hk : k < m) (w : World) :
    (execOp ρ o).run P w = .ok (.value (.pointer (some ⟨b, off + k * size, none⟩))) w := by
  unfold execOp
  simp only [hop, hx, hy, Sem.run_bind, run_elem he b off m c k hk w, Sem.run_pure, Result.andThen_ok]
theorem run_ldr1 {P : Program} {ρ : Operand → Value} {o : Oper} {t : TypeId} {z : Operand} {b off : Nat} {v : Value} (hop : o.op = .load t z) (hx : ρ z = .pointer (some ⟨b, off, none⟩)) (hr : isCell P t = true) (hcell : w.cell? ⟨b, off, none⟩ = some v) : (execOp ρ o).run P w = .ok (.value v) w := by
  unfold execOp
  simp only [hop, hx, Sem.run_bind, run_cell hr hcell, Sem.run_pure, Result.andThen_ok]
/-- A row of numbers as a variable. -/
theorem row_vr {base g m cap : Nat} {e : TypeId} {l : List Int} (h : w.ownsRow base e 1 (.slice (some ⟨g, 0, none⟩) m cap) m (icells l)) : (vr g (icells l)).says w ∧ base ≤ g ∧ g + 1 ≤ w.heap.size := by
  obtain ⟨h1, h2⟩ := h.lt g rfl
  exact ⟨⟨fun i v hv => by
    have hi := (List.getElem?_eq_some_iff.1 hv).1
    exact ⟨(h.cellAt i (by have := h.1; omega)).trans hv, h.frozenAt i⟩, h2⟩, h1, h2⟩
theorem elem_at {xs : List Int} {A : Option Addr} {m c : Nat} (h : rdLst rInt w lo hi xs [.slice A m c]) (k : Nat) (hk : k < xs.length) : ∃ b off, A = some ⟨b, off, none⟩ ∧ w.cell? ⟨b, off + k, none⟩ = some (.int .i64 xs[k]) := by
  obtain ⟨b, off, e, _, _, hc⟩ := (i1_lies h) k (.int .i64 xs[k]) (by simp [icells, hk])
  exact ⟨b, off, e, hc⟩
/-- One pair as a block of its own. -/
theorem bk_pair {b : Nat} {x y : Int} {t : TypeId} (S : St w0 w L) (i : Nat) (h : L[i]? = some (bk b [.int .i64 x, .int .i64 y] t)) : rdLst (rPair rInt rInt) w 0 w.heap.size [(x, y)] [.slice (some ⟨b, 0, none⟩) 1 1] := by
  have hb : w.heap[b]? = some (.cells #[.int .i64 x, .int .i64 y] t (0, 0)) := S.at_ i h
  have hlt : b < w.heap.size := by rw [Array.getElem?_eq_some_iff] at hb; exact hb.1
  refine ⟨_, 1, pcells [(x, y)], rfl, Nat.le_refl _, p2_all _ _ _ _, fun j u hu => ⟨b, 0, rfl, Nat.zero_le _, hlt, ?_⟩⟩
  rcases j with _ | _ | j
  · cases hu; simp [World.cell?, hb]
  · cases hu; simp [World.cell?, hb]
  · simp [pcells] at hu

/-- What a claim on a row reads, in the bounds of the call. -/
theorem St.rpIn (S : St w0 w L) (i : Nat) {cap : Nat} {l : List (Int × Int)} {A : Option Addr} (h : L[i]? = some (rp lo hi l A cap)) : rdLst (rPair rInt rInt) w w0.heap.size w.heap.size l [.slice A l.length cap] :=
  (Sx.rp_rd (S.at_ i h)).wide (S.lo i _ h) (S.hi i _ h)
theorem St.owIn (S : St w0 w L) (i : Nat) {F : List Nat} (h : L[i]? = some (ow r lo hi x cs F)) : r.rd w w0.heap.size w.heap.size x cs := r.reads (S.own i h)
end
end Go.Proofs.Ytmiokacihcpepaa.Sx
