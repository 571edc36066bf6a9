/-
  Texts that a law wants, merged: SI. No condition.
-/
import Derived.Test.YtdbhfadiinmgiaaM86390c25
namespace Go.Proofs.Ytdbhfadiinmgiaa.Guests
set_option maxRecDepth 100000
open Go.ChangeShapes Go.WideShapes Go.ChangeAt Go.RowKit
open Go.Proofs.Ytdbhfadiinmgiaa.Base Go.Proofs.Ytdbhfadiinmgiaa.Mem Go.Proofs.Ytdbhfadiinmgiaa.Data Go.Proofs.Ytdbhfadiinmgiaa.Slots Go.Proofs.Ytdbhfadiinmgiaa.Ints Go.Proofs.Ytdbhfadiinmgiaa.Stt Go.Proofs.Ytdbhfadiinmgiaa.Part
set_option linter.unusedVariables false
/-- A slice in memory of its own: its memory is some of lo .. hi - 1. -/
def sI (lo hi : Nat) (cs : List Value) (n : Nat) (P : Value) : Res where
  says w := SO w lo hi cs n P
  foot k := lo ≤ k ∧ k < hi
  lo := lo
  hi := hi
  inn k h := h
  kept h hk := h.kept fun k h1 h2 => hk k ⟨h1, h2⟩
section
variable {w0 w w' : World} {L : List Res} {cs cs' : List Value} {n : Nat} {P : Value}
theorem St.gotS (S : St w0 w L) (hb : Below w.heap.size w w') (h : SO w' w.heap.size w'.heap.size cs n P) : St w0 w' (sI w.heap.size w'.heap.size cs n P :: L) :=
  S.add hb (sI w.heap.size w'.heap.size cs n P) h (Nat.le_refl _) (Nat.le_refl _)
theorem St.sO (S : St w0 w L) (i : Nat) {lo hi : Nat} (h : L[i]? = some (sI lo hi cs n P)) : SO w lo hi cs n P := S.at_ i h
theorem St.sR (S : St w0 w L) (i : Nat) {lo hi : Nat} (h : L[i]? = some (sI lo hi cs n P)) : SR w lo hi cs n P := (show SO w lo hi cs n P from S.at_ i h).reads
theorem St.sR0 (S : St w0 w L) (i : Nat) {lo hi : Nat} (h : L[i]? = some (sI lo hi cs n P)) : SO w 0 w.heap.size cs n P := (show SO w lo hi cs n P from S.at_ i h).wide (Nat.zero_le _) (S.hi i _ h)
theorem St.sHi (S : St w0 w L) (i : Nat) {lo hi : Nat} (h : L[i]? = some (sI lo hi cs n P)) : hi ≤ w.heap.size := S.hi i _ h
theorem St.oldS (S : St w0 w L) (h : SR w0 0 w0.heap.size cs n P) : SR w 0 w.heap.size cs n P := (h.below S.below (Nat.le_refl _)).wide (Nat.le_refl _) S.below.size
theorem St.markS (S : St w0 w L) (i : Nat) {lo hi : Nat} (h : L[i]? = some (sI lo hi cs n P)) (hc : cs = [] ↔ n = 0) (ht : Chg w w' (bl P)) (ho : SO w' lo hi cs' n P) : St w0 w' (L.set i (sI lo hi cs' n P)) :=
  S.turn i h (sI lo hi cs' n P) (Only.of_turned (ht.turned fun k hk => SO.inB (S.at_ i h) hc hk) fun k h1 h2 => ⟨h1, h2⟩) ho (fun k hk => .inl hk) (S.lo i (sI lo hi cs n P) h) (Nat.le_trans (S.hi i (sI lo hi cs n P) h) ht.size)
theorem below_eq {w w' : World} (h : w = w') : Below w.heap.size w w' := h ▸ Below.refl _ _
theorem jmarks_len (k : Nat) : ∀ n, (Inss.jmarks k n).length = n := fun n => by simp [Inss.jmarks]
end
end Go.Proofs.Ytdbhfadiinmgiaa.Guests
