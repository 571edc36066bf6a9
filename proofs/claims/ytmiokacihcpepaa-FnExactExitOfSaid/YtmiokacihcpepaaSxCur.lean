/-
  Draws over claims: the cursor as a claim, and all else of the caller's as another (so that what a draw leaves alone is told). No statement about the project stands here. No condition.
-/
import Derived.Test.YtmiokacihcpepaaSx
import Derived.Test.YtmiokacihcpepaaDraw
namespace Go.Proofs.Ytmiokacihcpepaa.Sx
set_option maxRecDepth 100000
open Go.ChangeShapes Go.WideShapes Go.ChangeAt Go.RowKit Go.Deep
open Go.Proofs.Ytmiokacihcpepaa.Base Go.Proofs.Ytmiokacihcpepaa.Mem Go.Proofs.Ytmiokacihcpepaa.Data Go.Proofs.Ytmiokacihcpepaa.Stt Go.Proofs.Ytmiokacihcpepaa.Draw
set_option linter.unusedVariables false

/-- A call that begins in the middle of its caller's memory. -/
theorem enterS {P : Program} {f : FuncId} {fn : Func} {c : Code} {args : List Value} {w0 w : World} {L : List Res} {R : Ending → World → Prop} {n : Nat} (S : St w0 w L) (hf : P.funcs[f]? = some fn) (hb : fn.body = some c) (hn : fn.ntmps = n) (hl : Nat.ble args.length n = true)
    (h : C P n (bodyPost P fn R) w0 (slots 0 args) L c) : Calls P f args.toArray w R :=
  calls_of_wp hf hb (h _ w ⟨by
    have := Nat.le_of_ble_eq_true hl
    simp [hn]; omega, rfl, fun s v hs => by
    obtain ⟨_, h2⟩ := look_slots args 0 s v hs
    have hlt : s < args.length := by have := (List.getElem?_eq_some_iff.1 h2).1; simpa using this
    rw [Array.getElem?_append_left (by simpa using hlt)]
    simpa using h2⟩ S)

/-- All other blocks that were there when the call began. -/
def frm (w0 w : World) (g : Nat) : Res where
  says w' := ∀ k, w0.heap.size ≤ k → k < w.heap.size → k ≠ g → w'.heap[k]? = w.heap[k]?
  foot k := w0.heap.size ≤ k ∧ k < w.heap.size ∧ k ≠ g
  lo := w0.heap.size
  hi := w.heap.size
  inn k h := ⟨h.1, h.2.1⟩
  kept h hk := fun k h1 h2 h3 => (hk k ⟨h1, h2, h3⟩).trans (h k h1 h2 h3)
section
variable {w0 w w' : World} {L : List Res} {A : Option Addr} {n c g : Nat} {r : Res}

/-- .. and something new has come. -/
theorem St.plus (S : St w0 w L) (T : St w0 w' L) (r : Res) (hs : r.says w') (hl : w.heap.size ≤ r.lo) (hh : r.hi ≤ w'.heap.size) : St w0 w' (r :: L) := by
  refine ⟨T.below, fun i s h => ?_, fun i s h => ?_, fun i s h => ?_, fun i j s t h1 h2 hne k hk hk' => ?_⟩
  · cases i with
    | zero => cases h; exact hs
    | succ i => exact T.says i s h
  · cases i with
    | zero => cases h; exact Nat.le_trans S.below.size hl
    | succ i => exact T.lo i s h
  · cases i with
    | zero => cases h; exact hh
    | succ i => exact T.hi i s h
  · cases i with
    | zero =>
      cases h1
      cases j with
      | zero => exact hne rfl
      | succ j => have h3 := (S.footlt h2 hk').2; have h4 := (r.inn k hk).1; omega
    | succ i =>
      cases j with
      | zero => cases h2; have h3 := (S.footlt h1 hk).2; have h4 := (r.inn k hk').1; omega
      | succ j => exact S.apart i j s t h1 h2 (by omega) k hk hk'
/-- What the whole call has left alone. -/
theorem St.grown (S : St w0 w' L) (i : Nat) (h : L[i]? = some (frm w0 w g)) (hb : Below w0.heap.size w0 w) : w.grownBy w' (some g) :=
  ⟨S.below.os.trans hb.os.symm, S.below.tape.trans hb.tape.symm, S.below.output.trans hb.output.symm, S.hi i _ h, fun k hk hne => by
    by_cases h0 : k < w0.heap.size
    · exact (S.below.block k h0).trans (hb.block k h0).symm
    · exact S.at_ i h k (by omega) hk (fun e => hne (by rw [e]))⟩
/-- What a draw has made. -/
structure Fresh (w0 w w' : World) (M : List Res) : Prop where
  says : ∀ (i : Nat) (r : Res), M[i]? = some r → r.says w'
  lo : ∀ (i : Nat) (r : Res), M[i]? = some r → w0.heap.size ≤ r.lo
  hi : ∀ (i : Nat) (r : Res), M[i]? = some r → r.hi ≤ w'.heap.size
  new : ∀ (i : Nat) (r : Res), M[i]? = some r → ∀ k, r.foot k → w.heap.size ≤ k
  apart : ∀ (i j : Nat) (r s : Res), M[i]? = some r → M[j]? = some s → i ≠ j → ∀ k, r.foot k → ¬ s.foot k

theorem St.joinD {M : List Res} (S : St w0 w L) (T : St w0 w' L) (H : Fresh w0 w w' M) : St w0 w' (M ++ L) := by
  have key : ∀ (i : Nat) (s : Res), (M ++ L)[i]? = some s → (i < M.length ∧ M[i]? = some s) ∨ (M.length ≤ i ∧ L[i - M.length]? = some s) := fun i s h => by
    by_cases hi : i < M.length
    · rw [List.getElem?_append_left hi] at h; exact .inl ⟨hi, h⟩
    · rw [List.getElem?_append_right (by omega)] at h; exact .inr ⟨by omega, h⟩
  refine ⟨T.below, fun i s h => ?_, fun i s h => ?_, fun i s h => ?_, fun i j s t h1 h2 hne k hk hk' => ?_⟩
  · rcases key i s h with ⟨_, h⟩ | ⟨_, h⟩
    · exact H.says i s h
    · exact T.says _ s h
  · rcases key i s h with ⟨_, h⟩ | ⟨_, h⟩
    · exact H.lo i s h
    · exact T.lo _ s h
  · rcases key i s h with ⟨_, h⟩ | ⟨_, h⟩
    · exact H.hi i s h
    · exact T.hi _ s h
  · rcases key i s h1 with ⟨a1, h1⟩ | ⟨a1, h1⟩
    · rcases key j t h2 with ⟨a2, h2⟩ | ⟨a2, h2⟩
      · exact H.apart i j s t h1 h2 hne k hk hk'
      · have e1 := H.new i s h1 k hk; have e2 := (S.footlt h2 hk').2; omega
    · rcases key j t h2 with ⟨a2, h2⟩ | ⟨a2, h2⟩
      · have e1 := H.new j t h2 k hk'; have e2 := (S.footlt h1 hk).2; omega
      · exact T.apart _ _ s t h1 h2 (by omega) k hk hk'
/-- A slice of pairs that is read only, with its block. -/
def rp (lo hi : Nat) (l : List (Int × Int)) (A : Option Addr) (cap : Nat) : Res where
  says w := l.length ≤ cap ∧ Lies w lo hi A (pcells l)
  foot k := k ∈ blks A (pcells l) ∧ lo ≤ k ∧ k < hi
  lo := lo
  hi := hi
  inn k h := h.2
  kept h hk := ⟨h.1, fun j u hu => by
    obtain ⟨b, off, e, h1, h2, h3⟩ := h.2 j u hu
    have hne : pcells l ≠ [] := fun e => by rw [e] at hu; cases hu
    have hb : b ∈ blks A (pcells l) := by unfold blks; rw [if_neg hne, e]; simp
    exact ⟨b, off, e, h1, h2, (World.cell?_of_block (hk b ⟨hb, h1, h2⟩)).trans h3⟩⟩
theorem rp_rd {lo hi cap : Nat} {l : List (Int × Int)} (h : (rp lo hi l A cap).says w) : rdLst (rPair rInt rInt) w lo hi l [.slice A l.length cap] := ⟨A, cap, pcells l, rfl, h.1, p2_all w lo hi l, h.2⟩
theorem St.rp_rd (S : St w0 w L) (i : Nat) {lo hi cap : Nat} {l : List (Int × Int)} (h : L[i]? = some (rp lo hi l A cap)) : rdLst (rPair rInt rInt) w 0 w.heap.size l [.slice A l.length cap] := (Sx.rp_rd (S.at_ i h)).wide (Nat.zero_le _) (S.hi i _ h)
theorem wf_small {x : Int} (h0 : 0 ≤ x) (h1 : x < 4294967296) : (Lit.int .i64 x).wf = true := by
  simp [Lit.wf]
  have e1 : IntKind.i64.min = -9223372036854775808 := by decide
  have e2 : IntKind.i64.max = 9223372036854775807 := by decide
  omega
/-- A row of pairs that a draw hands back. -/
theorem row_pairs {e : TypeId} {b m cap : Nat} {l : List (Int × Int)} (hl : l.length = m) (h : w'.ownsRow w.heap.size e 2 (.slice (some ⟨b, 0, none⟩) m cap) m (pcells l)) : (ow (rLst e (rPair rInt rInt)) w.heap.size w'.heap.size l [.slice (some ⟨b, 0, none⟩) m cap] [b]).says w' := by
  subst hl
  refine ⟨⟨_, pcells l, [], rfl, by simp [Value.ownBlock], ?_, h, fun k hk => (h.lt k hk).2⟩, by simp⟩
  exact flat_all flat_P2 w' w.heap.size w'.heap.size (p2_all w' 0 0 l)
theorem lies_pairs {A : Option Addr} {m cap : Nat} {l : List (Int × Int)} {lo hi : Nat} (hl : l.length = m) (hc : m ≤ cap) (h : Owned w' lo hi A (pcells l)) : (ow (rLsw (rPair rInt rInt)) lo hi l [.slice A m cap] (blks A (pcells l))).says w' := by
  subst hl
  exact p2_own hc h
/-- A row that is only read from now on. -/
theorem St.toRp (S : St w0 w L) (i : Nat) {e : TypeId} {lo hi m cap : Nat} {A : Option Addr} {F : List Nat} {l : List (Int × Int)} (h : L[i]? = some (ow (rLst e (rPair rInt rInt)) lo hi l [.slice A m cap] F)) : m = l.length ∧ St w0 w (L.set i (rp lo hi l A cap)) := by
  obtain ⟨⟨v, ds, F1, e1, hF, hall, hrow, hhi⟩, hnd⟩ := S.at_ i h
  cases e1
  obtain ⟨A', c', e2, hc⟩ := row_form hrow
  cases e2
  have hd := p2_cells (ownAll_reads hall)
  subst hd
  refine ⟨rfl, S.turn i h (rp lo hi l A cap) (Only.refl _ _) ⟨hc, (row_lies hrow hhi).1⟩ (fun k hk => .inl ⟨?_, hk.2⟩) (S.lo i (ow (rLst e (rPair rInt rInt)) lo hi l [.slice A l.length cap] F) h) (S.hi i (ow (rLst e (rPair rInt rInt)) lo hi l [.slice A l.length cap] F) h)⟩
  have hk1 := hk.1
  unfold blks at hk1
  split at hk1
  · cases hk1
  · cases A with
    | none => cases hk1
    | some a =>
      have : k = a.block := by simpa using hk1
      rw [hF, this]
      simp [Value.ownBlock]
theorem lies_rp {lo hi m cap : Nat} {A : Option Addr} {l : List (Int × Int)} (hl : l.length = m) (hc : m ≤ cap) (h : Lies w lo hi A (pcells l)) : (rp lo hi l A cap).says w := ⟨by omega, h⟩
/-- A block as it was made. -/
def bk (b : Nat) (cs : List Value) (t : TypeId) : Res where
  says w := w.heap[b]? = some (.cells cs.toArray t (0, 0))
  foot k := k = b
  lo := b
  hi := b + 1
  inn k h := by omega
  kept h hk := (hk b rfl).trans h
theorem G.block {P : Program} {n : Nat} {ops : Array Oper} {Q : Exit → Act → World → Prop} {T : Tl} {rest : List Oper} {o : Oper} (e : TypeId) (vs : List Value) (m : Nat) (hc : chk n T ops o = true) (hr : ∀ w : World, (execOp (ev T) o).run P w = .ok (.value (.slice (some ⟨w.heap.size, 0, none⟩) m m)) (w.alloc (.cells vs.toArray e)))
    (k : ∀ b, G P n ops Q w0 (up o.dst (.slice (some ⟨b, 0, none⟩) m m) T) (bk b vs e :: L) rest) : G P n ops Q w0 T L (o :: rest) :=
  G.turns hc fun w S => ⟨_, _, _, hr w, S.add ((Below.refl _ _).alloc (Nat.le_refl _) _) (bk w.heap.size vs e) (heap_alloc_new w _) (Nat.le_refl _) (by simp [bk]), k _⟩

end
end Go.Proofs.Ytmiokacihcpepaa.Sx
