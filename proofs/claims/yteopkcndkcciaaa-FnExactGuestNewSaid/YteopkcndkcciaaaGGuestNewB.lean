/-
  At every argument the law FnExactGuestNew returns true: the project's GuestNew answers as the given model's GuestNew, changes no argument, and what it returns is its own. No condition.
-/
import Derived.Test.YteopkcndkcciaaaGGuestNewB0
import Derived.Laws.CopyOwn
import Derived.Maps.AppendAt
import Derived.IntWalk
namespace Go.Proofs.Yteopkcndkcciaaa.Guests
set_option maxRecDepth 100000
open Go.ChangeShapes Go.WideShapes Go.ChangeAt Go.RowKit
open Go.Proofs.Yteopkcndkcciaaa.Base Go.Proofs.Yteopkcndkcciaaa.Mem Go.Proofs.Yteopkcndkcciaaa.Data Go.Proofs.Yteopkcndkcciaaa.Slots Go.Proofs.Yteopkcndkcciaaa.Ints Go.Proofs.Yteopkcndkcciaaa.Ctls Go.Proofs.Yteopkcndkcciaaa.Exits Go.Proofs.Yteopkcndkcciaaa.Stt Go.Proofs.Yteopkcndkcciaaa.Part
set_option linter.unusedVariables false
section
variable {w : World} {lo hi : Nat} {P : Value} {F : List Nat}
theorem so_p2 {l : List (Int × Int)} (h : SO w lo hi (pcells l) l.length P) : rdLst (rPair rInt rInt) w lo hi l [P] := by
  obtain ⟨A, c, rfl, hc, ho⟩ := h
  exact ⟨A, c, pcells l, rfl, hc, p2_all w lo hi l, ho.1⟩
theorem bl_row {P : Value} {k : Nat} (hk : k ∈ bl P) : P.ownBlock = some k := by
  unfold bl at hk
  split at hk
  · split at hk
    · cases hk
    · simp at hk; subst hk; rfl
  · cases hk
theorem p2_so {e : TypeId} {l : List (Int × Int)} (h : (rLst e (rPair rInt rInt)).own w lo hi l [P] F) : SO w lo hi (pcells l) l.length P ∧ ∀ k ∈ bl P, k ∈ F := by
  obtain ⟨v, ds, F1, e1, rfl, h1, h2, h3⟩ := h
  cases e1
  obtain ⟨A, c, rfl, hc⟩ := row_form h2
  have hd := p2_cells (ownAll_reads h1)
  subst hd
  exact ⟨⟨A, c, rfl, hc, row_lies h2 h3⟩, fun k hk => by simp [bl_row hk]⟩
theorem i1_so {e : TypeId} {l : List Int} (h : (rLst e rInt).own w lo hi l [P] F) : SO w lo hi (ncells l) l.length P ∧ ∀ k ∈ bl P, k ∈ F := by
  obtain ⟨v, ds, F1, e1, rfl, h1, h2, h3⟩ := h
  cases e1
  obtain ⟨A, c, rfl, hc⟩ := row_form h2
  have hd := i1_cells (ownAll_reads h1)
  subst hd
  exact ⟨⟨A, c, rfl, hc, row_lies h2 h3⟩, fun k hk => by simp [bl_row hk]⟩
theorem p2_sow {l : List (Int × Int)} (h : (rLsw (rPair rInt rInt)).own w lo hi l [P] F) : SO w lo hi (pcells l) l.length P ∧ ∀ k ∈ bl P, k ∈ F := by
  obtain ⟨A, c, ds, F1, e1, hc, rfl, h1, h2⟩ := h
  cases e1
  have hd := p2_cells (ownAll_reads h1)
  subst hd
  refine ⟨⟨A, c, rfl, hc, h2⟩, fun k hk => ?_⟩
  unfold bl at hk
  split at hk
  · rename_i a n c' e
    cases e
    split at hk
    · cases hk
    · rename_i hn
      simp at hk
      have hl : l ≠ [] := fun e => hn (by rw [e]; rfl)
      have hp : pcells l ≠ [] := by
        cases l with
        | nil => exact absurd rfl hl
        | cons s l => simp [pcells]
      simp [blks, hp, hk]
  · cases hk
end
theorem rG_gO {w : World} {lo hi : Nat} {g : gT} {cs : List Value} {F : List Nat} (h : rG.own w lo hi g cs F) (hF : F.Nodup) : ∃ P0 P1 P2 P3, cs = gV g P0 P1 P2 P3 ∧ gO w lo hi g P0 P1 P2 P3 := by
  obtain ⟨P0, P1, P2, P3, F0, F1, F2, F3, rfl, rfl, h0, h1, h2, h3⟩ := rG_own h
  obtain ⟨r0, b0⟩ := p2_so h0
  obtain ⟨r1, b1⟩ := p2_sow h1
  obtain ⟨r2, b2⟩ := p2_sow h2
  obtain ⟨r3, b3⟩ := i1_so h3
  obtain ⟨_, n0, d0⟩ := List.nodup_append.1 hF
  obtain ⟨_, n1, d1⟩ := List.nodup_append.1 n0
  obtain ⟨_, _, d2⟩ := List.nodup_append.1 n1
  rw [pcells_j] at r0
  rw [pcells_s] at r1 r2
  exact ⟨P0, P1, P2, P3, rfl, r0, r1, r2, r3, fun k h h' => d0 k (b0 k h) k (by simp [b1 k h']) rfl, fun k h h' => d0 k (b0 k h) k (by simp [b2 k h']) rfl, fun k h h' => d0 k (b0 k h) k (by simp [b3 k h']) rfl,
    fun k h h' => d1 k (b1 k h) k (by simp [b2 k h']) rfl, fun k h h' => d1 k (b1 k h) k (by simp [b3 k h']) rfl, fun k h h' => d2 k (b2 k h) k (b3 k h') rfl⟩
/-- What a call gives, as the laws' helpers take it. -/
theorem gives_gP {w : World} {g : gT} (e : Ending) (w' : World) (h : Gives rG w g e w') : gP w g e w' := by
  obtain ⟨cs, F, rfl, ho, hF, hb⟩ := h
  obtain ⟨P0, P1, P2, P3, rfl, h4⟩ := rG_gO ho hF
  exact ⟨P0, P1, P2, P3, rfl, h4, hb⟩
/-- A guest as an object of a law: its memory is some of lo .. hi - 1. -/
def gI (lo hi : Nat) (g : gT) (P0 P1 P2 P3 : Value) : Res where
  says w := gO w lo hi g P0 P1 P2 P3
  foot k := lo ≤ k ∧ k < hi
  lo := lo
  hi := hi
  inn k h := h
  kept h hk := h.kept fun k h1 h2 => hk k ⟨h1, h2⟩
section
variable {w0 w w' : World} {L : List Res} {g : gT} {P0 P1 P2 P3 : Value}
theorem St.gotG (S : St w0 w L) (hb : Below w.heap.size w w') (h : gO w' w.heap.size w'.heap.size g P0 P1 P2 P3) : St w0 w' (gI w.heap.size w'.heap.size g P0 P1 P2 P3 :: L) :=
  S.add hb (gI w.heap.size w'.heap.size g P0 P1 P2 P3) h (Nat.le_refl _) (Nat.le_refl _)
theorem St.gRG (S : St w0 w L) (i : Nat) {lo hi : Nat} (h : L[i]? = some (gI lo hi g P0 P1 P2 P3)) : gR w lo hi g P0 P1 P2 P3 := (show gO w lo hi g P0 P1 P2 P3 from S.at_ i h).reads
theorem St.hiG (S : St w0 w L) (i : Nat) {lo hi : Nat} (h : L[i]? = some (gI lo hi g P0 P1 P2 P3)) : hi ≤ w.heap.size := S.hi i _ h
theorem St.markG {g' : gT} (S : St w0 w L) (i : Nat) {lo hi : Nat} (h : L[i]? = some (gI lo hi g P0 P1 P2 P3)) (ht : Turned lo hi w w') (ho : gO w' lo hi g' P0 P1 P2 P3) : St w0 w' (L.set i (gI lo hi g' P0 P1 P2 P3)) :=
  S.turn i h (gI lo hi g' P0 P1 P2 P3) (Only.of_turned ht fun k h1 h2 => ⟨h1, h2⟩) ho (fun k hk => .inl hk) (S.lo i (gI lo hi g P0 P1 P2 P3) h) (Nat.le_trans (S.hi i (gI lo hi g P0 P1 P2 P3) h) ht.size)
end
end Go.Proofs.Yteopkcndkcciaaa.Guests
namespace Go.Proofs.Yteopkcndkcciaaa.Addrs
set_option maxRecDepth 100000
open Go.ChangeShapes Go.WideShapes Go.ChangeAt Go.RowKit
open Go.Proofs.Yteopkcndkcciaaa.Base
set_option linter.unusedVariables false
theorem range {x : Int} (h : (Lit.int .i64 x).wf = true) : -9223372036854775808 ≤ x ∧ x ≤ 9223372036854775807 := by
  have hm : IntKind.i64.min = -9223372036854775808 := by decide
  rw [← hm]; simpa [Lit.wf] using h
end Go.Proofs.Yteopkcndkcciaaa.Addrs
namespace Go.Proofs.Yteopkcndkcciaaa.Grid
set_option maxRecDepth 100000
open Go.ChangeShapes Go.WideShapes Go.ChangeAt Go.RowKit
open Go.Proofs.Yteopkcndkcciaaa.Base Go.Proofs.Yteopkcndkcciaaa.Mem Go.Proofs.Yteopkcndkcciaaa.Ints
set_option linter.unusedVariables false
def hasPB (n : Nat) (page : Int) : Bool := inB page 0 ((n : Int) - 1)
def hasCB (M : List (List Int)) (page cell : Int) : Bool := hasPB M.length page && hasPB (M.getD page.toNat []).length cell
def cellAt (M : List (List Int)) (page cell : Int) : Int := if hasCB M page cell = true then (M.getD page.toNat []).getD cell.toNat 0 else 0
end Go.Proofs.Yteopkcndkcciaaa.Grid
namespace Go.Proofs.Yteopkcndkcciaaa.Grid
set_option maxRecDepth 100000
open Go.ChangeShapes Go.WideShapes Go.ChangeAt Go.RowKit
open Go.Proofs.Yteopkcndkcciaaa.Base Go.Proofs.Yteopkcndkcciaaa.Mem Go.Proofs.Yteopkcndkcciaaa.Ints
set_option linter.unusedVariables false
section
variable {P : Program}
end
theorem ncells_set (l : List Int) (j : Nat) (v : Int) : (ncells l).set j (.int .i64 v) = ncells (l.set j v) := by
  simp [ncells, List.map_set]
end Go.Proofs.Yteopkcndkcciaaa.Grid
namespace Go.Proofs.Yteopkcndkcciaaa.Grid
set_option maxRecDepth 100000
open Go.ChangeShapes Go.WideShapes Go.ChangeAt Go.RowKit
open Go.Proofs.Yteopkcndkcciaaa.BroughtW
theorem spec_brought (n l m : Int) (w : World) :
    Calls Try.prog 91 #[.int .i64 n, .int .i64 l, .int .i64 m] w fun e w' => e = .returned (.int .i64 (brought n l m)) ∧ w = w' := by
  by_cases h1 : m < l
  · have hb : brought n l m = l := by unfold brought; rw [if_pos (Or.inl h1)]
    rw [hb]; clear hb
    go_enter Try.func91, Try.ntmps91
    go_wp2
    go_ret
    exact ⟨rfl, rfl⟩
  · by_cases h2 : n < l
    · have hb : brought n l m = l := by unfold brought; rw [if_pos (Or.inr h2)]
      rw [hb]; clear hb
      go_enter Try.func91, Try.ntmps91
      go_wp2
      go_ret
      exact ⟨rfl, rfl⟩
    · by_cases h3 : m < n
      · have hb : brought n l m = m := by unfold brought; rw [if_neg (by omega), if_pos h3]
        rw [hb]; clear hb
        go_enter Try.func91, Try.ntmps91
        go_wp2
        go_ret
        exact ⟨rfl, rfl⟩
      · have hb : brought n l m = n := by unfold brought; rw [if_neg (by omega), if_neg h3]
        rw [hb]; clear hb
        go_enter Try.func91, Try.ntmps91
        go_wp2
        go_ret
        exact ⟨rfl, rfl⟩
end Go.Proofs.Yteopkcndkcciaaa.Grid
namespace Go.Proofs.Yteopkcndkcciaaa.Grid
set_option maxRecDepth 100000
open Go.ChangeShapes Go.WideShapes Go.ChangeAt Go.RowKit
open Go.Proofs.Yteopkcndkcciaaa.Base Go.Proofs.Yteopkcndkcciaaa.Mem Go.Proofs.Yteopkcndkcciaaa.Ints
set_option linter.unusedVariables false
def newN (a : Int) : Nat := (BroughtW.brought a 0 24).toNat
theorem newN_le (a : Int) : newN a ≤ 24 := by unfold newN BroughtW.brought; split <;> (try split) <;> omega
theorem newN_eq (a : Int) : BroughtW.brought a 0 24 = (newN a : Int) := by unfold newN BroughtW.brought; split <;> (try split) <;> omega
end Go.Proofs.Yteopkcndkcciaaa.Grid
namespace Go.Proofs.Yteopkcndkcciaaa.Grid
set_option maxRecDepth 100000
open Go.ChangeShapes Go.WideShapes Go.ChangeAt Go.RowKit
open Go.Proofs.Yteopkcndkcciaaa.Base Go.Proofs.Yteopkcndkcciaaa.Mem Go.Proofs.Yteopkcndkcciaaa.Ints
set_option linter.unusedVariables false
/-- A cell of a memory of one's own is written. -/
theorem OG.cell {w : World} {lo hi : Nat} {A : Option Addr} {M : List (List Int)} {hs : List Hd} (h : OG w lo hi A M hs) (hh : hi ≤ w.heap.size) (k j : Nat) (hk : k < M.length) (hj : j < M[k].length) :
    ∃ b off b' off' c, A = some ⟨b, off, none⟩ ∧ b < hi ∧ w.cell? ⟨b, off + k, none⟩ = some (.slice (some ⟨b', off', none⟩) M[k].length c) ∧ (∃ u, w.cell? ⟨b', off' + j, none⟩ = some u) ∧ w.frozen? ⟨b', off' + j, none⟩ = false ∧
      ∀ v : Int, OG (w.setCell ⟨b', off' + j, none⟩ (.int .i64 v)) lo hi A (M.set k (M[k].set j v)) hs ∧ Turned lo hi w (w.setCell ⟨b', off' + j, none⟩ (.int .i64 v)) := by
  obtain ⟨b, off, B, c, lo', hi', e, hb, hc, ho, hn⟩ := h.write hh k hk
  obtain ⟨b', off', rfl, x, y, c2⟩ := int_at ho.1 j hj
  refine ⟨b, off, b', off', c, e, hb, hc, ⟨_, c2⟩, ho.2 _ _ rfl (by rw [ncells_len]; omega) _, fun v => ?_⟩
  have h1 := ho.set j (.int .i64 v)
  rw [ncells_set] at h1
  exact hn _ _ (by simp) h1 ((Turned.refl lo' hi' w).setCell x y _)
end Go.Proofs.Yteopkcndkcciaaa.Grid
namespace Go.Proofs.Yteopkcndkcciaaa.Grid
set_option maxRecDepth 100000
open Go.ChangeShapes Go.WideShapes Go.ChangeAt Go.RowKit
open Go.Proofs.Yteopkcndkcciaaa.Base Go.Proofs.Yteopkcndkcciaaa.Mem Go.Proofs.Yteopkcndkcciaaa.Ints
set_option linter.unusedVariables false
def SameP {α : Type} [DecidableEq α] (w : World) (l m : List α) (e : Ending) (w' : World) : Prop := e = .returned (.bool (decide (l = m))) ∧ ∃ q, w' = w.drewN q
section
variable {α : Type} [DecidableEq α] {w : World} {l m : List α}
theorem SameP.yes {P : Program} {f : FuncId} {args : Array Value} {w0 : World} (h : Calls P f args w0 (SameP w l m)) (e : l = m) : Calls P f args w0 fun e w' => e = .returned (.bool true) ∧ ∃ q, w' = w.drewN q :=
  h.mono fun e1 w' ⟨h1, h2⟩ => ⟨by rw [h1, decide_eq_true e], h2⟩
theorem SameP.no {P : Program} {f : FuncId} {args : Array Value} {w0 : World} (h : Calls P f args w0 (SameP w l m)) (e : l ≠ m) : Calls P f args w0 fun e w' => e = .returned (.bool false) ∧ ∃ q, w' = w.drewN q :=
  h.mono fun e1 w' ⟨h1, h2⟩ => ⟨by rw [h1, decide_eq_false e], h2⟩
/-- The world has drawn, and nothing else. -/
def Drawn (w w' : World) : Prop := ∃ q, w' = w.drewN q
theorem Drawn.cell {w' : World} (h : Drawn w w') (p : Addr) : w'.cell? p = w.cell? p := by
  obtain ⟨q, rfl⟩ := h
  rfl
theorem Drawn.lies {w' : World} (h : Drawn w w') {lo hi : Nat} {A : Option Addr} {cs : List Value} (k : Lies w lo hi A cs) : Lies w' lo hi A cs := by
  obtain ⟨q, rfl⟩ := h
  exact k
theorem Drawn.more {w' : World} (h : Drawn w w') (r : Nat) : Drawn w (w'.drewN (1 + r)) := by
  obtain ⟨q, rfl⟩ := h
  exact ⟨q + (1 + r), World.drewN_drewN ..⟩
end
end Go.Proofs.Yteopkcndkcciaaa.Grid
namespace Go.Proofs.Yteopkcndkcciaaa.Sx
set_option maxRecDepth 100000
open Go.ChangeShapes Go.WideShapes Go.ChangeAt Go.RowKit Go.Deep
open Go.Proofs.Yteopkcndkcciaaa.Base Go.Proofs.Yteopkcndkcciaaa.Mem Go.Proofs.Yteopkcndkcciaaa.Data Go.Proofs.Yteopkcndkcciaaa.Stt
set_option linter.unusedVariables false
set_option linter.unusedSimpArgs false
def resRun (tmps : Array Value) : ResultVar → Sem Value
  | .tmp t => pure (tmps.getD t undef)
  | .cell a t => do loadVar t (← asAddr (tmps.getD a undef))
def IsRes (P : Program) (n : Nat) (w0 : World) (T : Tl) (L : List Res) (r : ResultVar) (v : Value) : Prop := ∀ a w, Ag n T a → St w0 w L → (resRun a.tmps r).run P w = .ok v w
section
variable {P : Program} {n : Nat} {Q : Exit → Act → World → Prop} {w0 : World} {T : Tl} {L : List Res} {fn : Func} {R : Ending → World → Prop}
theorem IsRes.slot {t : Tmp} {v : Value} (ht : look T t = some v) : IsRes P n w0 T L (.tmp t) v := fun a w hA S => by
  simp only [resRun, Sem.run_pure]
  rw [Array.getD_eq_getD_getElem?, hA.at_ t v ht]; rfl
theorem IsRes.row {t : Tmp} {ty : TypeId} (b i : Nat) (vs : List Value) (ht : look T t = some (.pointer (some ⟨b, 0, none⟩))) (hL : L[i]? = some (vr b vs)) (hrow : isRow P ty = true) (hi : (P.info? ty).map (·.size) = some vs.length) : IsRes P n w0 T L (.cell t ty) (.agg vs.toArray) := fun a w hA S => by
  obtain ⟨d, hu, hd⟩ := isRow_spec hrow
  have hl := run_loadVar_mid (P := P) w b 0 ty vs d (S.range i hL) hu hd hi
  have hg : a.tmps.getD t undef = .pointer (some ⟨b, 0, none⟩) := by rw [Array.getD_eq_getD_getElem?, hA.at_ t _ ht]; rfl
  simp only [resRun, hg, asAddr, Sem.run_bind, Sem.run_pure, Result.andThen_ok, hl]
theorem IsRes.one {t : Tmp} {ty : TypeId} (b i : Nat) (v : Value) (ht : look T t = some (.pointer (some ⟨b, 0, none⟩))) (hL : L[i]? = some (vr b [v])) (hr : isCell P ty = true) : IsRes P n w0 T L (.cell t ty) v := fun a w hA S => by
  obtain ⟨d, hu, hd⟩ := isCell_spec hr
  have hcell := S.cell i hL 0 (v := v) rfl
  have hagg : (isAgg ty).run P w = .ok false w := by
    unfold isAgg
    rw [Sem.run_bind, run_underlying hu w]
    cases d <;> simp_all
  have hg : a.tmps.getD t undef = .pointer (some ⟨b, 0, none⟩) := by rw [Array.getD_eq_getD_getElem?, hA.at_ t _ ht]; rfl
  simp only [resRun, hg, asAddr, loadVar, Sem.run_bind, Sem.run_pure, Result.andThen_ok, hagg, Bool.false_eq_true, if_false, run_load, hcell]
end
end Go.Proofs.Yteopkcndkcciaaa.Sx
namespace Go.Proofs.Yteopkcndkcciaaa.Draw
set_option maxRecDepth 100000
open Go.ChangeShapes Go.WideShapes Go.ChangeAt Go.RowKit
open Go.Proofs.Yteopkcndkcciaaa.Base
/-- The bytes of a slice lie in memory. -/
def CodeAt (w : World) (A : Option Addr) (n : Nat) : Prop :=
  ∀ k, k < n → ∃ (b off : Nat) (x : Int), A = some ⟨b, off, none⟩ ∧ b < w.heap.size ∧ 0 ≤ x ∧ x ≤ 255 ∧ w.cell? ⟨b, off + k, none⟩ = some (.int .u8 x)
theorem CodeAt.below {w w' : World} {A : Option Addr} {n : Nat} (h : CodeAt w A n) (hb : Below w.heap.size w w') : CodeAt w' A n := fun k hk => by
  obtain ⟨b, off, x, e, h1, h2, h3, h4⟩ := h k hk
  exact ⟨b, off, x, e, Nat.lt_of_lt_of_le h1 hb.size, h2, h3, (hb.cell h1).trans h4⟩
/-- The cursor's block g, in a world w that agrees with w0 below w0's end. -/
def Cur (w0 : World) (A : Option Addr) (n c : Nat) (w : World) (g : Nat) : Prop :=
  Below w0.heap.size w0 w ∧ w0.heap.size ≤ g ∧ ∃ (i : Nat) (h : Int), i ≤ n ∧ w.heap[g]? = some (.cells #[.slice A n c, .int .i64 i, .int .i64 h] 99 (0, 0))
theorem Cur.lt {w0 w : World} {A : Option Addr} {n c g : Nat} (h : Cur w0 A n c w g) : g < w.heap.size := by
  obtain ⟨_, _, _, _, _, hb⟩ := h
  rcases Nat.lt_or_ge g w.heap.size with h' | h'
  · exact h'
  · rw [Array.getElem?_eq_none h'] at hb; cases hb
theorem Cur.grown {w0 w w' : World} {A : Option Addr} {n c g : Nat} {row : Option Nat} (h : Cur w0 A n c w g) (hg : w.grownBy w' row) (hne : row ≠ some g) (hr : ∀ k, row = some k → w0.heap.size ≤ k) : Cur w0 A n c w' g := by
  have hlt := h.lt
  obtain ⟨hb, hg0, i, x, hi, hk⟩ := h
  exact ⟨hb.grown hg hb.size hr, hg0, i, x, hi, (hg.block g hlt (Ne.symm hne)).trans hk⟩
theorem Cur.alloc {w0 w : World} {A : Option Addr} {n c g : Nat} (h : Cur w0 A n c w g) (o : Obj) : Cur w0 A n c (w.alloc o) g :=
  h.grown (World.grownBy_alloc w o none) (by simp) (fun _ h => by cases h)
end Go.Proofs.Yteopkcndkcciaaa.Draw
namespace Go.Proofs.Yteopkcndkcciaaa.Sx
set_option maxRecDepth 100000
open Go.ChangeShapes Go.WideShapes Go.ChangeAt Go.RowKit Go.Deep
open Go.Proofs.Yteopkcndkcciaaa.Base Go.Proofs.Yteopkcndkcciaaa.Mem Go.Proofs.Yteopkcndkcciaaa.Data Go.Proofs.Yteopkcndkcciaaa.Stt Go.Proofs.Yteopkcndkcciaaa.Draw
set_option linter.unusedVariables false
/-- The cursor. -/
def cu (A : Option Addr) (n c g : Nat) : Res where
  says w := ∃ (i : Nat) (h : Int), i ≤ n ∧ w.heap[g]? = some (.cells #[.slice A n c, .int .i64 i, .int .i64 h] 99 (0, 0))
  foot k := k = g
  lo := g
  hi := g + 1
  inn k h := by omega
  kept h hk := by
    obtain ⟨i, x, hi, hb⟩ := h
    exact ⟨i, x, hi, (hk g rfl).trans hb⟩
/-- All other blocks that were there when the call began. -/
def frm (w0 w : World) (g : Nat) : Res where
  says w' := ∀ k, w0.heap.size ≤ k → k < w.heap.size → k ≠ g → w'.heap[k]? = w.heap[k]?
  foot k := w0.heap.size ≤ k ∧ k < w.heap.size ∧ k ≠ g
  lo := w0.heap.size
  hi := w.heap.size
  inn k h := ⟨h.1, h.2.1⟩
  kept h hk := fun k h1 h2 h3 => (hk k ⟨h1, h2, h3⟩).trans (h k h1 h2 h3)
section
variable {w0 w w' : World} {L : List Res} {A : Option Addr} {n c g : Nat} {r : Res}
theorem St.cur (S : St w0 w L) (i : Nat) (h : L[i]? = some (cu A n c g)) : Cur w0 A n c w g := ⟨S.below, S.lo i _ h, S.at_ i h⟩
/-- What the whole call has left alone. -/
theorem St.grown (S : St w0 w' L) (i : Nat) (h : L[i]? = some (frm w0 w g)) (hb : Below w0.heap.size w0 w) : w.grownBy w' (some g) :=
  ⟨S.below.os.trans hb.os.symm, S.below.tape.trans hb.tape.symm, S.below.output.trans hb.output.symm, S.hi i _ h, fun k hk hne => by
    by_cases h0 : k < w0.heap.size
    · exact (S.below.block k h0).trans (hb.block k h0).symm
    · exact S.at_ i h k (by omega) hk (fun e => hne (by rw [e]))⟩
/-- What a draw has made. -/
structure Fresh (w0 w w' : World) (M : List Res) : Prop where
  says : ∀ (i : Nat) (r : Res), M[i]? = some r → r.says w'
  lo : ∀ (i : Nat) (r : Res), M[i]? = some r → w0.heap.size ≤ r.lo
  hi : ∀ (i : Nat) (r : Res), M[i]? = some r → r.hi ≤ w'.heap.size
  new : ∀ (i : Nat) (r : Res), M[i]? = some r → ∀ k, r.foot k → w.heap.size ≤ k
  apart : ∀ (i j : Nat) (r s : Res), M[i]? = some r → M[j]? = some s → i ≠ j → ∀ k, r.foot k → ¬ s.foot k
/-- At a draw's end. -/
theorem St.made {M : List Res} (S : St w0 w' (cu A n c g :: frm w0 w g :: M)) : Fresh w0 w w' M := by
  have at2 : ∀ {i : Nat} {r : Res}, M[i]? = some r → (cu A n c g :: frm w0 w g :: M)[i + 2]? = some r := fun h => h
  refine ⟨fun i r h => S.says _ r (at2 h), fun i r h => S.lo _ r (at2 h), fun i r h => S.hi _ r (at2 h), fun i r h k hk => ?_, fun i j r s h1 h2 hne => S.apart _ _ r s (at2 h1) (at2 h2) (by omega)⟩
  rcases Nat.lt_or_ge k w.heap.size with hlt | hge
  · have h0 := (S.footlt (at2 h) hk).1
    by_cases e : k = g
    · exact absurd e (S.apart (i + 2) 0 r (cu A n c g) (at2 h) rfl (by omega) k hk)
    · exact absurd ⟨h0, hlt, e⟩ (S.apart (i + 2) 1 r (frm w0 w g) (at2 h) rfl (by omega) k hk)
  · exact hge
/-- A block as it was made. -/
def bk (b : Nat) (cs : List Value) (t : TypeId) : Res where
  says w := w.heap[b]? = some (.cells cs.toArray t (0, 0))
  foot k := k = b
  lo := b
  hi := b + 1
  inn k h := by omega
  kept h hk := (hk b rfl).trans h
theorem G.block {P : Program} {n : Nat} {ops : Array Oper} {Q : Exit → Act → World → Prop} {T : Tl} {rest : List Oper} {o : Oper} (e : TypeId) (vs : List Value) (m : Nat) (hc : chk n T ops o = true) (hr : ∀ w : World, (execOp (ev T) o).run P w = .ok (.value (.slice (some ⟨w.heap.size, 0, none⟩) m m)) (w.alloc (.cells vs.toArray e)))
    (k : ∀ b, G P n ops Q w0 (up o.dst (.slice (some ⟨b, 0, none⟩) m m) T) (bk b vs e :: L) rest) : G P n ops Q w0 T L (o :: rest) :=
  G.turns hc fun w S => ⟨_, _, _, hr w, S.add ((Below.refl _ _).alloc (Nat.le_refl _) _) (bk w.heap.size vs e) (heap_alloc_new w _) (Nat.le_refl _) (by simp [bk]), k _⟩
end
end Go.Proofs.Yteopkcndkcciaaa.Sx
namespace Go.Proofs.Yteopkcndkcciaaa.Sx
set_option maxRecDepth 100000
open Go.ChangeShapes Go.WideShapes Go.ChangeAt Go.RowKit Go.Deep
open Go.Proofs.Yteopkcndkcciaaa.Base Go.Proofs.Yteopkcndkcciaaa.Mem Go.Proofs.Yteopkcndkcciaaa.Data Go.Proofs.Yteopkcndkcciaaa.Stt
set_option linter.unusedVariables false
section
variable {P : Program} {n : Nat} {w0 : World} {T : Tl} {L : List Res} {fn : Func} {R : Ending → World → Prop}
end
section
variable {P : Program} {n : Nat} {Q : Exit → Act → World → Prop} {Z : World → Prop} {w0 : World} {T : Tl} {L : List Res} {l : List Oper} {o : Oper} {r : Ord.Ot}
end
theorem lies_nothing {w : World} {lo hi : Nat} {cs : List Value} (h : Lies w lo hi none cs) : cs = [] := by
  rcases cs with _ | ⟨u, r⟩
  · rfl
  · obtain ⟨b, off, e, _⟩ := h 0 u rfl
    cases e
theorem p2_nothing {w : World} {lo hi n c : Nat} {l : List (Int × Int)} (h : rdLst (rPair rInt rInt) w lo hi l [.slice none n c]) : l = [] := by
  have := lies_nothing (p2_lies h)
  cases l with
  | nil => rfl
  | cons s l => simp [pcells] at this
end Go.Proofs.Yteopkcndkcciaaa.Sx
namespace Go.Proofs.Yteopkcndkcciaaa.Ctls
set_option maxRecDepth 100000
open Go.ChangeShapes Go.WideShapes Go.ChangeAt Go.RowKit
open Go.Proofs.Yteopkcndkcciaaa.Base Go.Proofs.Yteopkcndkcciaaa.Mem Go.Proofs.Yteopkcndkcciaaa.Data Go.Proofs.Yteopkcndkcciaaa.Ints Go.Proofs.Yteopkcndkcciaaa.Slots
set_option linter.unusedVariables false
set_option linter.unusedSimpArgs false
def p1 (s : CT) : Bool := !inB s.1 0 3
def p2 (s : CT) : Bool := !inB s.2.1 0 255
end Go.Proofs.Yteopkcndkcciaaa.Ctls
namespace Go.Proofs.Yteopkcndkcciaaa.Guests
set_option maxRecDepth 100000
open Go.ChangeShapes Go.WideShapes Go.ChangeAt Go.RowKit
open Go.Proofs.Yteopkcndkcciaaa.Base Go.Proofs.Yteopkcndkcciaaa.Mem Go.Proofs.Yteopkcndkcciaaa.Data Go.Proofs.Yteopkcndkcciaaa.Slots Go.Proofs.Yteopkcndkcciaaa.Ints Go.Proofs.Yteopkcndkcciaaa.Ctls Go.Proofs.Yteopkcndkcciaaa.Exits Go.Proofs.Yteopkcndkcciaaa.Stt Go.Proofs.Yteopkcndkcciaaa.Irqs Go.Proofs.Yteopkcndkcciaaa.Inss
set_option linter.unusedVariables false
set_option linter.unusedSimpArgs false
theorem impl_new4 (w : World) : Calls Try.prog 43 #[.int .i64 4] w (RowPost w 4 (Slots.nosL 4)) := by
  have h := Slots.impl_new 4 w
  rwa [show Slots.newN 4 = 4 by decide] at h
set_option maxRecDepth 100000 in
set_option maxHeartbeats 4000000 in
theorem lib_cloneIns (xs : List (Int × Int)) (A : Option Addr) (c : Nat) (w : World) (hp : xs.length ≤ 1048576) (h : rdLst (rPair rInt rInt) w 0 w.heap.size xs [.slice A xs.length c]) : Calls Try.prog 42 #[.slice A xs.length c] w (Gives (rLst 64 (rPair rInt rInt)) w xs) := by
  rcases A with _ | ad
  · obtain rfl := Sx.p2_nothing h
    refine Sx.enter (args := [.slice none 0 c]) Try.func42 rfl Try.ntmps42 rfl ?_
    refine Sx.C.seq ?_
    refine Sx.C.region ?_
    refine Sx.G.pure (.slice none 0 0) (by kernel_rfl) (fun w => by kernel_rfl) ?_
    refine Sx.G.nil ?_
    refine Sx.E.next ?_
    refine Sx.C.seq ?_
    refine Sx.C.seq ?_
    refine Sx.C.region ?_
    refine Sx.G.pure (.slice none 0 c) (by kernel_rfl) (fun w => by kernel_rfl) ?_
    refine Sx.G.pure (.bool true) (by kernel_rfl) (fun w => by kernel_rfl) ?_
    refine Sx.G.nil ?_
    refine Sx.E.next ?_
    refine Sx.C.yes (by kernel_rfl) (by kernel_rfl) ?_
    refine Sx.C.seq ?_
    refine Sx.C.region ?_
    refine Sx.G.pure (.slice none 0 0) (by kernel_rfl) (fun w => by kernel_rfl) ?_
    refine Sx.G.nil ?_
    refine Sx.E.next ?_
    refine Sx.C.ret ?_
    refine Sx.E.then_ret ?_
    refine Sx.E.ret1 (.slice none 0 0) rfl (by kernel_rfl) (fun w S => ?_)
    have S' := St.nil S 64 (rPair rInt rInt)
    exact ⟨[_], _, rfl, S'.own 0 rfl, S'.nodup 0 rfl, S.below⟩
  · refine Sx.enter (args := [.slice (some ad) xs.length c]) Try.func42 rfl Try.ntmps42 rfl ?_
    refine Sx.C.seq ?_
    refine Sx.C.region ?_
    refine Sx.G.pure (.slice none 0 0) (by kernel_rfl) (fun w => by kernel_rfl) ?_
    refine Sx.G.nil ?_
    refine Sx.E.next ?_
    refine Sx.C.seq ?_
    refine Sx.C.seq ?_
    refine Sx.C.region ?_
    refine Sx.G.pure (.slice (some ad) xs.length c) (by kernel_rfl) (fun w => by kernel_rfl) ?_
    refine Sx.G.pure (.bool false) (by kernel_rfl) (fun w => by kernel_rfl) ?_
    refine Sx.G.nil ?_
    refine Sx.E.next ?_
    refine Sx.C.no (by kernel_rfl) (by kernel_rfl) ?_
    refine Sx.C.skip ?_
    refine Sx.E.next ?_
    refine Sx.C.seq ?_
    refine Sx.C.region ?_
    refine Sx.G.fresh 64 (rPair rInt rInt) (by kernel_rfl) (fun w => by kernel_rfl) (fun b1 hi1 => ?_)
    refine Sx.G.pure (.slice (some ad) xs.length c) (by kernel_rfl) (fun w => by kernel_rfl) ?_
    refine Sx.G.apps 0 rfl xs (fun w S => St.old (r := rLsw (rPair rInt rInt)) S h) (List.nil_append _) xs.length (by simp) flat_P2 (.tmp 5) (.tmp 6) 26 2 16 rfl rfl (by kernel_rfl) (by kernel_rfl) rfl (by kernel_rfl) (by kernel_rfl) (by simp only [maxLen, List.length_nil, List.length_cons]; omega) (by simp only [List.length_nil, List.length_cons]; omega) (fun A2 c2 F2 hi2 hm2 => ?_)
    refine Sx.G.pure (.slice A2 xs.length c2) (by kernel_rfl) (fun w => by kernel_rfl) ?_
    refine Sx.G.nil ?_
    refine Sx.E.next ?_
    refine Sx.C.ret ?_
    refine Sx.E.ret1 (.slice A2 xs.length c2) rfl (by kernel_rfl) (fun w S => ?_)
    exact ⟨[_], _, rfl, S.own 0 rfl, S.nodup 0 rfl, S.below⟩
set_option maxRecDepth 100000 in
set_option maxHeartbeats 4000000 in
theorem impl_gnew_g (p : List (Int × Int)) (A : Option Addr) (c : Nat) (w : World) (hp : p.length ≤ 1048576) (h : rdLst (rPair rInt rInt) w 0 w.heap.size p [.slice A p.length c]) : Calls Try.prog 14 #[.slice A p.length c] w (Gives rG w (newG p)) := by
  refine Sx.enter (args := [.slice A p.length c]) Try.func14 rfl Try.ntmps14 rfl ?_
  refine Sx.C.seq ?_
  refine Sx.C.region ?_
  refine Sx.G.alloc 33 (.agg #[.slice none 0 0, .int .i64 0, .int .i64 0, .slice none 0 0, .slice none 0 0, .int .i64 0, .int .i64 0, .bool false, .int .i64 0, .int .i64 0, .int .i64 0, .bool false, .int .i64 0, .bool false, .slice none 0 0]) [.slice none 0 0, .int .i64 0, .int .i64 0, .slice none 0 0, .slice none 0 0, .int .i64 0, .int .i64 0, .bool false, .int .i64 0, .int .i64 0, .int .i64 0, .bool false, .int .i64 0, .bool false, .slice none 0 0] rfl (by kernel_rfl) (fun w => by kernel_rfl) (by kernel_rfl) (fun b1 => ?_)
  refine Sx.G.nil ?_
  refine Sx.E.next ?_
  refine Sx.C.seq ?_
  refine Sx.C.region ?_
  refine Sx.G.pure (.slice A p.length c) (by kernel_rfl) (fun w => by kernel_rfl) ?_
  refine Sx.G.call 42 #[.slice A p.length c] (by kernel_rfl) (fun w => by kernel_rfl) (fun w2 S => (lib_cloneIns p A c _ hp (St.old (r := rLsw (rPair rInt rInt)) S h)).mono fun e w2' hp => ?_)
  obtain ⟨cs, F, rfl, ho, hF, hb⟩ := hp
  obtain ⟨u2, rfl⟩ := lst_own ho
  obtain ⟨A2, c2, e2, -⟩ := lst_val ((St.got S hb ho hF).reads 0 rfl)
  subst e2
  generalize F = F2 at ho hF
  refine ⟨_, _, rfl, (St.got S hb ho hF), ?_⟩
  clear S hb ho hF
  refine Sx.G.call 43 #[.int .i64 4] (by kernel_rfl) (fun w => by kernel_rfl) (fun w3 S => (impl_new4 _).mono fun e w3' hp => ?_)
  obtain ⟨ad3, tc3, rfl, hc3, ho, hb⟩ := hp
  rw [← pcells_s] at ho
  refine ⟨_, _, rfl, (S.gotp (l := (Slots.nosL 4)) hb hc3 ho), ?_⟩
  clear S ho hb
  refine Sx.G.call 43 #[.int .i64 4] (by kernel_rfl) (fun w => by kernel_rfl) (fun w4 S => (impl_new4 _).mono fun e w4' hp => ?_)
  obtain ⟨ad4, tc4, rfl, hc4, ho, hb⟩ := hp
  rw [← pcells_s] at ho
  refine ⟨_, _, rfl, (S.gotp (l := (Slots.nosL 4)) hb hc4 ho), ?_⟩
  clear S ho hb
  refine Sx.G.pure (.agg #[.slice A2 p.length c2, .int .i64 0, .int .i64 0, .slice (some ad3) 4 tc3, .slice (some ad4) 4 tc4, .int .i64 0, .int .i64 0, .bool false, .int .i64 0, .int .i64 0, .int .i64 0, .bool false, .int .i64 0, .bool false, .slice none 0 0]) (by kernel_rfl) (fun w => by kernel_rfl) ?_
  refine Sx.G.sto 33 (.tmp 2) (.tmp 7) b1 0 3 [.slice none 0 0, .int .i64 0, .int .i64 0, .slice none 0 0, .slice none 0 0, .int .i64 0, .int .i64 0, .bool false, .int .i64 0, .int .i64 0, .int .i64 0, .bool false, .int .i64 0, .bool false, .slice none 0 0] [.slice A2 p.length c2, .int .i64 0, .int .i64 0, .slice (some ad3) 4 tc3, .slice (some ad4) 4 tc4, .int .i64 0, .int .i64 0, .bool false, .int .i64 0, .int .i64 0, .int .i64 0, .bool false, .int .i64 0, .bool false, .slice none 0 0] [.slice A2 p.length c2, .int .i64 0, .int .i64 0, .slice (some ad3) 4 tc3, .slice (some ad4) 4 tc4, .int .i64 0, .int .i64 0, .bool false, .int .i64 0, .int .i64 0, .int .i64 0, .bool false, .int .i64 0, .bool false, .slice none 0 0] [ow (rLsw (rPair rInt rInt)) w4.heap.size w4'.heap.size (Slots.nosL 4) [.slice (some ad4) 4 tc4] (blks (some ad4) (pcells (Slots.nosL 4))), ow (rLsw (rPair rInt rInt)) w3.heap.size w3'.heap.size (Slots.nosL 4) [.slice (some ad3) 4 tc3] (blks (some ad3) (pcells (Slots.nosL 4))), ow (rLst 64 (rPair rInt rInt)) w2.heap.size (w2'.heap.size) p [.slice A2 p.length c2] F2, vr b1 [.slice A2 p.length c2, .int .i64 0, .int .i64 0, .slice (some ad3) 4 tc3, .slice (some ad4) 4 tc4, .int .i64 0, .int .i64 0, .bool false, .int .i64 0, .int .i64 0, .int .i64 0, .bool false, .int .i64 0, .bool false, .slice none 0 0]] rfl (by kernel_rfl) (by kernel_rfl) (by kernel_rfl) rfl (by kernel_rfl) rfl (by kernel_rfl) (by kernel_rfl) (by kernel_rfl) ?_
  refine Sx.G.nil ?_
  refine Sx.E.next ?_
  refine Sx.C.ret ?_
  refine Sx.E.retc b1 3 [.slice A2 p.length c2, .int .i64 0, .int .i64 0, .slice (some ad3) 4 tc3, .slice (some ad4) 4 tc4, .int .i64 0, .int .i64 0, .bool false, .int .i64 0, .int .i64 0, .int .i64 0, .bool false, .int .i64 0, .bool false, .slice none 0 0] rfl (by kernel_rfl) rfl (by kernel_rfl) (by kernel_rfl) (fun w S => ?_)
  replace S := St.nil S 3 rInt
  obtain ⟨ho, hF⟩ := rG_shut (g := newG p) S 3 rfl 2 rfl 1 rfl 0 rfl (by decide) (by decide) (by decide) (by decide) (by decide) (by decide)
  exact ⟨_, _, rfl, ho, hF, S.below⟩
theorem impl_gnew (p : List (Int × Int)) (A : Option Addr) (c : Nat) (w : World) (hp : p.length ≤ 1048576) (h : rdLst (rPair rInt rInt) w 0 w.heap.size p [.slice A p.length c]) : Calls Try.prog 14 #[.slice A p.length c] w (gP w (newG p)) := (impl_gnew_g p A c w hp h).mono gives_gP
end Go.Proofs.Yteopkcndkcciaaa.Guests
namespace Go.Proofs.Yteopkcndkcciaaa.Guests
set_option maxRecDepth 100000
open Go.ChangeShapes Go.WideShapes Go.ChangeAt Go.RowKit
open Go.Proofs.Yteopkcndkcciaaa.Base Go.Proofs.Yteopkcndkcciaaa.Mem Go.Proofs.Yteopkcndkcciaaa.Data Go.Proofs.Yteopkcndkcciaaa.Slots Go.Proofs.Yteopkcndkcciaaa.Ints Go.Proofs.Yteopkcndkcciaaa.Stt Go.Proofs.Yteopkcndkcciaaa.Part
set_option linter.unusedVariables false
/-- A slice in memory of its own: its memory is some of lo .. hi - 1. -/
def sI (lo hi : Nat) (cs : List Value) (n : Nat) (P : Value) : Res where
  says w := SO w lo hi cs n P
  foot k := lo ≤ k ∧ k < hi
  lo := lo
  hi := hi
  inn k h := h
  kept h hk := h.kept fun k h1 h2 => hk k ⟨h1, h2⟩
section
variable {w0 w w' : World} {L : List Res} {cs cs' : List Value} {n : Nat} {P : Value}
theorem St.gotS (S : St w0 w L) (hb : Below w.heap.size w w') (h : SO w' w.heap.size w'.heap.size cs n P) : St w0 w' (sI w.heap.size w'.heap.size cs n P :: L) :=
  S.add hb (sI w.heap.size w'.heap.size cs n P) h (Nat.le_refl _) (Nat.le_refl _)
theorem St.sO (S : St w0 w L) (i : Nat) {lo hi : Nat} (h : L[i]? = some (sI lo hi cs n P)) : SO w lo hi cs n P := S.at_ i h
theorem St.sR (S : St w0 w L) (i : Nat) {lo hi : Nat} (h : L[i]? = some (sI lo hi cs n P)) : SR w lo hi cs n P := (show SO w lo hi cs n P from S.at_ i h).reads
theorem St.sR0 (S : St w0 w L) (i : Nat) {lo hi : Nat} (h : L[i]? = some (sI lo hi cs n P)) : SO w 0 w.heap.size cs n P := (show SO w lo hi cs n P from S.at_ i h).wide (Nat.zero_le _) (S.hi i _ h)
theorem St.sHi (S : St w0 w L) (i : Nat) {lo hi : Nat} (h : L[i]? = some (sI lo hi cs n P)) : hi ≤ w.heap.size := S.hi i _ h
theorem St.oldS (S : St w0 w L) (h : SR w0 0 w0.heap.size cs n P) : SR w 0 w.heap.size cs n P := (h.below S.below (Nat.le_refl _)).wide (Nat.le_refl _) S.below.size
theorem St.markS (S : St w0 w L) (i : Nat) {lo hi : Nat} (h : L[i]? = some (sI lo hi cs n P)) (hc : cs = [] ↔ n = 0) (ht : Chg w w' (bl P)) (ho : SO w' lo hi cs' n P) : St w0 w' (L.set i (sI lo hi cs' n P)) :=
  S.turn i h (sI lo hi cs' n P) (Only.of_turned (ht.turned fun k hk => SO.inB (S.at_ i h) hc hk) fun k h1 h2 => ⟨h1, h2⟩) ho (fun k hk => .inl hk) (S.lo i (sI lo hi cs n P) h) (Nat.le_trans (S.hi i (sI lo hi cs n P) h) ht.size)
theorem below_eq {w w' : World} (h : w = w') : Below w.heap.size w w' := h ▸ Below.refl _ _
theorem jmarks_len (k : Nat) : ∀ n, (Inss.jmarks k n).length = n := fun n => by simp [Inss.jmarks]
end
end Go.Proofs.Yteopkcndkcciaaa.Guests
namespace Go.Proofs.Yteopkcndkcciaaa.fnExactGuestNew
set_option maxRecDepth 100000
open Go.ChangeShapes Go.WideShapes Go.ChangeAt Go.RowKit
open Go.Proofs.Yteopkcndkcciaaa.Base Go.Proofs.Yteopkcndkcciaaa.Mem Go.Proofs.Yteopkcndkcciaaa.Data Go.Proofs.Yteopkcndkcciaaa.Slots Go.Proofs.Yteopkcndkcciaaa.Ints Go.Proofs.Yteopkcndkcciaaa.Stt Go.Proofs.Yteopkcndkcciaaa.Part Go.Proofs.Yteopkcndkcciaaa.Guests Go.Proofs.Yteopkcndkcciaaa.Exits
set_option linter.unusedVariables false
set_option linter.unusedSimpArgs false
set_option maxRecDepth 100000 in
set_option maxHeartbeats 8000000 in
theorem walk (A0 : Option Addr) (n0 c0 : Nat) (l0 : List Inss.JT) {w : World} (hn0 : n0 ≤ 9223372036854775807) (hl0 : l0.length = n0) (hw0 : Inss.wfJL l0) (h0 : Lies w 0 w.heap.size A0 (Inss.jcells l0)) :
    Calls Try.prog 4 #[.slice A0 n0 c0] w fun e w' => e = .returned (.bool true) ∧ Below w.heap.size w w' := by
  subst hl0
  by_cases hm0 : l0.length ≤ 1048576
  · replace h0 : SR w 0 w.heap.size (Inss.jcells l0) l0.length (.slice A0 l0.length c0) := ⟨_, _, rfl, h0⟩
    have hrs : gsize (newG l0) = l0.length + 8 := by simp [gsize, newG, Slots.nosL]
    have hcres : gcap (newG l0) := ⟨hm0, by simp [newG, Slots.nosL], by simp [newG, Slots.nosL], by simp [newG]⟩
    obtain ⟨q1, hq1⟩ : ∃ q : Int, q = ((1 + 2 * l0.length : Nat) : Int) := ⟨_, rfl⟩
    obtain ⟨q2, hq2⟩ : ∃ q : Int, q = ((1 + gcnt (newG l0) : Nat) : Int) := ⟨_, rfl⟩
    have hp1 : ¬ (q1 < 0) := by omega
    have hp2 : ¬ (q2 < 0) := by omega
    have HQ1 := Lib.hid hq1
    have HQ2 := Lib.hid hq2
    clear hq1 hq2
    refine Sx.enter (args := [.slice A0 l0.length c0]) Try.func4 rfl Try.ntmps4 rfl ?_
    refine Sx.C.seq ?_
    refine Sx.C.region ?_
    refine Sx.G.pure (.bool false) (by kernel_rfl) (fun w => by kernel_rfl) ?_
    refine Sx.G.nil ?_
    refine Sx.E.next ?_
    refine Sx.C.seq ?_
    refine Sx.C.region ?_
    refine Sx.G.pure (.int .i64 1048576) (by kernel_rfl) (fun w => by kernel_rfl) ?_
    refine Sx.G.nil ?_
    refine Sx.E.next ?_
    refine Sx.C.seq ?_
    refine Sx.C.region ?_
    refine Sx.G.pure (.slice A0 l0.length c0) (by kernel_rfl) (fun w => by kernel_rfl) ?_
    refine Sx.G.pure (.int .i64 1048576) (by kernel_rfl) (fun w => by kernel_rfl) ?_
    refine Sx.G.plain 16 #[.slice A0 l0.length c0, .int .i64 1048576] (.int .i64 (1048576 - (l0.length : Int))) (by kernel_rfl) (fun w => by kernel_rfl) (fun w S => by exact ((szYesJ _ _ l0.length _ _ 1048576 _ (by decide) (St.oldS S h0) (by omega)).mono fun e w' h => And.intro h.1 (below_eq h.2))) ?_
    refine Sx.G.pure (.int .i64 (1048576 - (l0.length : Int))) (by kernel_rfl) (fun w => by kernel_rfl) ?_
    refine Sx.G.nil ?_
    refine Sx.E.next ?_
    refine Sx.C.seq ?_
    refine Sx.C.seq ?_
    refine Sx.C.region ?_
    refine Sx.G.pure (.int .i64 (1048576 - (l0.length : Int))) (by kernel_rfl) (fun w => by kernel_rfl) ?_
    refine Sx.G.pureq (.bool (decide ((1048576 - (l0.length : Int)) < 0))) (.bool false) (by kernel_rfl) (fun w => by kernel_rfl) (congrArg Value.bool (decide_eq_false (by omega))) ?_
    refine Sx.G.nil ?_
    refine Sx.E.next ?_
    refine Sx.C.no (by kernel_rfl) (by kernel_rfl) ?_
    refine Sx.C.skip ?_
    refine Sx.E.next ?_
    refine Sx.C.seq ?_
    refine Sx.C.region ?_
    refine Sx.G.pure (.slice A0 l0.length c0) (by kernel_rfl) (fun w => by kernel_rfl) ?_
    refine Sx.G.call 18 #[.slice A0 l0.length c0] (by kernel_rfl) (fun w => by kernel_rfl) (fun w1 S => (toJ 0 (.slice A0 l0.length c0) l0 _ hm0 (St.oldS S h0)).mono fun e w1' hp => ?_)
    obtain ⟨xB1, xd1, rfl, ho, hb⟩ := hp
    refine ⟨_, _, rfl, St.gotS S hb ho, ?_⟩
    clear S ho hb
    refine Sx.G.call 17 #[.slice xB1 l0.length xd1] (by kernel_rfl) (fun w => by kernel_rfl) (fun w2 S => (specx_new l0 _ _ _ hm0 (so_p2 (by rw [pcells_j]; exact St.sR0 S 0 rfl))).mono fun e w2' hp => ?_)
    replace hp := gives_gP e w2' hp
    obtain ⟨x2_0, x2_1, x2_2, x2_3, rfl, ho, hb⟩ := hp
    obtain ⟨x2A0, x2c0, e0, -⟩ := ho.r0
    subst e0
    obtain ⟨x2A1, x2c1, e1, -⟩ := ho.r1
    subst e1
    obtain ⟨x2A2, x2c2, e2, -⟩ := ho.r2
    subst e2
    obtain ⟨x2A3, x2c3, e3, -⟩ := ho.r3
    subst e3
    refine ⟨_, _, rfl, St.gotG S hb ho, ?_⟩
    clear S ho hb
    refine Sx.G.alloc 33 (.agg #[.slice none 0 0, .int .i64 0, .int .i64 0, .slice none 0 0, .slice none 0 0, .int .i64 0, .int .i64 0, .bool false, .int .i64 0, .int .i64 0, .int .i64 0, .bool false, .int .i64 0, .bool false, .slice none 0 0]) [.slice none 0 0, .int .i64 0, .int .i64 0, .slice none 0 0, .slice none 0 0, .int .i64 0, .int .i64 0, .bool false, .int .i64 0, .int .i64 0, .int .i64 0, .bool false, .int .i64 0, .bool false, .slice none 0 0] rfl (by kernel_rfl) (fun w => by kernel_rfl) (by kernel_rfl) (fun b3 => ?_)
    refine Sx.G.sto 33 (.tmp 4) (.tmp 18) b3 0 0 [.slice none 0 0, .int .i64 0, .int .i64 0, .slice none 0 0, .slice none 0 0, .int .i64 0, .int .i64 0, .bool false, .int .i64 0, .int .i64 0, .int .i64 0, .bool false, .int .i64 0, .bool false, .slice none 0 0] (gV (newG l0) (.slice x2A0 (newG l0).prog.length x2c0) (.slice x2A1 (newG l0).wr.length x2c1) (.slice x2A2 (newG l0).lv.length x2c2) (.slice x2A3 (newG l0).seen.length x2c3)) (gV (newG l0) (.slice x2A0 (newG l0).prog.length x2c0) (.slice x2A1 (newG l0).wr.length x2c1) (.slice x2A2 (newG l0).lv.length x2c2) (.slice x2A3 (newG l0).seen.length x2c3)) [vr b3 (gV (newG l0) (.slice x2A0 (newG l0).prog.length x2c0) (.slice x2A1 (newG l0).wr.length x2c1) (.slice x2A2 (newG l0).lv.length x2c2) (.slice x2A3 (newG l0).seen.length x2c3)), gI (w2.heap.size) (w2'.heap.size) (newG l0) (.slice x2A0 (newG l0).prog.length x2c0) (.slice x2A1 (newG l0).wr.length x2c1) (.slice x2A2 (newG l0).lv.length x2c2) (.slice x2A3 (newG l0).seen.length x2c3), sI (w1.heap.size) (w1'.heap.size) (Inss.jcells l0) l0.length (.slice xB1 l0.length xd1)] rfl (by kernel_rfl) (by kernel_rfl) (by kernel_rfl) rfl (by kernel_rfl) rfl (by kernel_rfl) (by kernel_rfl) (by kernel_rfl) ?_
    refine Sx.G.nil ?_
    refine Sx.E.next ?_
    refine Sx.C.seq ?_
    refine Sx.C.region ?_
    refine Sx.G.pure (.slice A0 l0.length c0) (by kernel_rfl) (fun w => by kernel_rfl) ?_
    refine Sx.G.call 18 #[.slice A0 l0.length c0] (by kernel_rfl) (fun w => by kernel_rfl) (fun w4 S => (toJ 0 (.slice A0 l0.length c0) l0 _ hm0 (St.oldS S h0)).mono fun e w4' hp => ?_)
    obtain ⟨xB4, xd4, rfl, ho, hb⟩ := hp
    refine ⟨_, _, rfl, St.gotS S hb ho, ?_⟩
    clear S ho hb
    refine Sx.G.pure (.slice xB4 l0.length xd4) (by kernel_rfl) (fun w => by kernel_rfl) ?_
    refine Sx.G.nil ?_
    refine Sx.E.next ?_
    refine Sx.C.seq ?_
    refine Sx.C.region ?_
    refine Sx.G.pure (.slice xB4 l0.length xd4) (by kernel_rfl) (fun w => by kernel_rfl) ?_
    refine Sx.G.call 14 #[.slice xB4 l0.length xd4] (by kernel_rfl) (fun w => by kernel_rfl) (fun w5 S => (impl_gnew l0 _ _ _ hm0 (so_p2 (by rw [pcells_j]; exact St.sR0 S 0 rfl))).mono fun e w5' hp => ?_)
    obtain ⟨x5_0, x5_1, x5_2, x5_3, rfl, ho, hb⟩ := hp
    obtain ⟨x5A0, x5c0, e0, -⟩ := ho.r0
    subst e0
    obtain ⟨x5A1, x5c1, e1, -⟩ := ho.r1
    subst e1
    obtain ⟨x5A2, x5c2, e2, -⟩ := ho.r2
    subst e2
    obtain ⟨x5A3, x5c3, e3, -⟩ := ho.r3
    subst e3
    refine ⟨_, _, rfl, St.gotG S hb ho, ?_⟩
    clear S ho hb
    refine Sx.G.alloc 33 (.agg #[.slice none 0 0, .int .i64 0, .int .i64 0, .slice none 0 0, .slice none 0 0, .int .i64 0, .int .i64 0, .bool false, .int .i64 0, .int .i64 0, .int .i64 0, .bool false, .int .i64 0, .bool false, .slice none 0 0]) [.slice none 0 0, .int .i64 0, .int .i64 0, .slice none 0 0, .slice none 0 0, .int .i64 0, .int .i64 0, .bool false, .int .i64 0, .int .i64 0, .int .i64 0, .bool false, .int .i64 0, .bool false, .slice none 0 0] rfl (by kernel_rfl) (fun w => by kernel_rfl) (by kernel_rfl) (fun b6 => ?_)
    refine Sx.G.sto 33 (.tmp 6) (.tmp 22) b6 0 0 [.slice none 0 0, .int .i64 0, .int .i64 0, .slice none 0 0, .slice none 0 0, .int .i64 0, .int .i64 0, .bool false, .int .i64 0, .int .i64 0, .int .i64 0, .bool false, .int .i64 0, .bool false, .slice none 0 0] (gV (newG l0) (.slice x5A0 (newG l0).prog.length x5c0) (.slice x5A1 (newG l0).wr.length x5c1) (.slice x5A2 (newG l0).lv.length x5c2) (.slice x5A3 (newG l0).seen.length x5c3)) (gV (newG l0) (.slice x5A0 (newG l0).prog.length x5c0) (.slice x5A1 (newG l0).wr.length x5c1) (.slice x5A2 (newG l0).lv.length x5c2) (.slice x5A3 (newG l0).seen.length x5c3)) [vr b6 (gV (newG l0) (.slice x5A0 (newG l0).prog.length x5c0) (.slice x5A1 (newG l0).wr.length x5c1) (.slice x5A2 (newG l0).lv.length x5c2) (.slice x5A3 (newG l0).seen.length x5c3)), gI (w5.heap.size) (w5'.heap.size) (newG l0) (.slice x5A0 (newG l0).prog.length x5c0) (.slice x5A1 (newG l0).wr.length x5c1) (.slice x5A2 (newG l0).lv.length x5c2) (.slice x5A3 (newG l0).seen.length x5c3), sI (w4.heap.size) (w4'.heap.size) (Inss.jcells l0) l0.length (.slice xB4 l0.length xd4), vr b3 (gV (newG l0) (.slice x2A0 (newG l0).prog.length x2c0) (.slice x2A1 (newG l0).wr.length x2c1) (.slice x2A2 (newG l0).lv.length x2c2) (.slice x2A3 (newG l0).seen.length x2c3)), gI (w2.heap.size) (w2'.heap.size) (newG l0) (.slice x2A0 (newG l0).prog.length x2c0) (.slice x2A1 (newG l0).wr.length x2c1) (.slice x2A2 (newG l0).lv.length x2c2) (.slice x2A3 (newG l0).seen.length x2c3), sI (w1.heap.size) (w1'.heap.size) (Inss.jcells l0) l0.length (.slice xB1 l0.length xd1)] rfl (by kernel_rfl) (by kernel_rfl) (by kernel_rfl) rfl (by kernel_rfl) rfl (by kernel_rfl) (by kernel_rfl) (by kernel_rfl) ?_
    refine Sx.G.nil ?_
    refine Sx.E.next ?_
    refine Sx.C.seq ?_
    refine Sx.C.seq ?_
    refine Sx.C.region ?_
    refine Sx.G.ld 33 (.tmp 6) b6 0 0 (gV (newG l0) (.slice x5A0 (newG l0).prog.length x5c0) (.slice x5A1 (newG l0).wr.length x5c1) (.slice x5A2 (newG l0).lv.length x5c2) (.slice x5A3 (newG l0).seen.length x5c3)) ((gV (newG l0) (.slice x5A0 (newG l0).prog.length x5c0) (.slice x5A1 (newG l0).wr.length x5c1) (.slice x5A2 (newG l0).lv.length x5c2) (.slice x5A3 (newG l0).seen.length x5c3))) rfl (by kernel_rfl) (by kernel_rfl) rfl (by kernel_rfl) (by kernel_rfl) (by kernel_rfl) ?_
    refine Sx.G.ld 33 (.tmp 4) b3 0 3 (gV (newG l0) (.slice x2A0 (newG l0).prog.length x2c0) (.slice x2A1 (newG l0).wr.length x2c1) (.slice x2A2 (newG l0).lv.length x2c2) (.slice x2A3 (newG l0).seen.length x2c3)) ((gV (newG l0) (.slice x2A0 (newG l0).prog.length x2c0) (.slice x2A1 (newG l0).wr.length x2c1) (.slice x2A2 (newG l0).lv.length x2c2) (.slice x2A3 (newG l0).seen.length x2c3))) rfl (by kernel_rfl) (by kernel_rfl) rfl (by kernel_rfl) (by kernel_rfl) (by kernel_rfl) ?_
    refine Sx.G.plain 19 #[.agg ((gV (newG l0) (.slice x5A0 (newG l0).prog.length x5c0) (.slice x5A1 (newG l0).wr.length x5c1) (.slice x5A2 (newG l0).lv.length x5c2) (.slice x5A3 (newG l0).seen.length x5c3))).toArray, .agg ((gV (newG l0) (.slice x2A0 (newG l0).prog.length x2c0) (.slice x2A1 (newG l0).wr.length x2c1) (.slice x2A2 (newG l0).lv.length x2c2) (.slice x2A3 (newG l0).seen.length x2c3))).toArray] (.bool true) (by kernel_rfl) (fun w => by kernel_rfl) (fun w S => by exact eqGuest_same _ _ _ _ (newG l0) (.slice x5A0 (newG l0).prog.length x5c0) (.slice x5A1 (newG l0).wr.length x5c1) (.slice x5A2 (newG l0).lv.length x5c2) (.slice x5A3 (newG l0).seen.length x5c3) (.slice x2A0 (newG l0).prog.length x2c0) (.slice x2A1 (newG l0).wr.length x2c1) (.slice x2A2 (newG l0).lv.length x2c2) (.slice x2A3 (newG l0).seen.length x2c3) _ hcres (St.hiG S 1 rfl) (St.hiG S 4 rfl) (St.gRG S 1 rfl) (St.gRG S 4 rfl)) ?_
    refine Sx.G.pure (.bool false) (by kernel_rfl) (fun w => by kernel_rfl) ?_
    refine Sx.G.nil ?_
    refine Sx.E.next ?_
    refine Sx.C.no (by kernel_rfl) (by kernel_rfl) ?_
    refine Sx.C.skip ?_
    refine Sx.E.next ?_
    refine Sx.C.seq ?_
    refine Sx.C.seq ?_
    refine Sx.C.region ?_
    refine Sx.G.pure (.slice xB4 l0.length xd4) (by kernel_rfl) (fun w => by kernel_rfl) ?_
    refine Sx.G.pure (.slice A0 l0.length c0) (by kernel_rfl) (fun w => by kernel_rfl) ?_
    refine Sx.G.call 18 #[.slice A0 l0.length c0] (by kernel_rfl) (fun w => by kernel_rfl) (fun w7 S => (toJ 0 (.slice A0 l0.length c0) l0 _ hm0 (St.oldS S h0)).mono fun e w7' hp => ?_)
    obtain ⟨xB7, xd7, rfl, ho, hb⟩ := hp
    refine ⟨_, _, rfl, St.gotS S hb ho, ?_⟩
    clear S ho hb
    refine Sx.G.plain 20 #[.slice xB4 l0.length xd4, .slice xB7 l0.length xd7] (.bool true) (by kernel_rfl) (fun w => by kernel_rfl) (fun w S => by exact eqJ _ _ _ _ (.slice xB4 l0.length xd4) (.slice xB7 l0.length xd7) l0 _ hm0 (St.sHi S 3 rfl) (St.sHi S 0 rfl) (St.sR S 3 rfl) (St.sR S 0 rfl)) ?_
    refine Sx.G.pure (.bool false) (by kernel_rfl) (fun w => by kernel_rfl) ?_
    refine Sx.G.nil ?_
    refine Sx.E.next ?_
    refine Sx.C.no (by kernel_rfl) (by kernel_rfl) ?_
    refine Sx.C.skip ?_
    refine Sx.E.next ?_
    refine Sx.C.seq ?_
    refine Sx.C.region ?_
    refine Sx.G.pure (.int .i64 1) (by kernel_rfl) (fun w => by kernel_rfl) ?_
    refine Sx.G.nil ?_
    refine Sx.E.next ?_
    refine Sx.C.seq ?_
    refine Sx.C.region ?_
    refine Sx.G.pure (.slice xB4 l0.length xd4) (by kernel_rfl) (fun w => by kernel_rfl) ?_
    refine Sx.G.pure (.int .i64 1) (by kernel_rfl) (fun w => by kernel_rfl) ?_
    refine Sx.G.call 21 #[.slice xB4 l0.length xd4, .int .i64 1] (by kernel_rfl) (fun w => by kernel_rfl) (fun w8 S => (markJ _ _ 1 (.slice xB4 l0.length xd4) l0 _ hm0 (by decide) (St.sHi S 3 rfl) (St.sO S 3 rfl)).mono fun e w8' hp => ?_)
    obtain ⟨he, ho, ht⟩ := hp
    rw [← HQ1.out] at he
    subst he
    rw [jmarks_len] at ho
    refine ⟨_, _, rfl, St.markS S 3 rfl (nilJ l0) ht ho, ?_⟩
    clear S ht ho
    refine Sx.G.pure (.int .i64 q1) (by kernel_rfl) (fun w => by kernel_rfl) ?_
    refine Sx.G.nil ?_
    refine Sx.E.next ?_
    refine Sx.C.seq ?_
    refine Sx.C.seq ?_
    refine Sx.C.region ?_
    refine Sx.G.pure (.int .i64 q1) (by kernel_rfl) (fun w => by kernel_rfl) ?_
    refine Sx.G.pureq (.bool (decide (q1 < 0))) (.bool false) (by kernel_rfl) (fun w => by kernel_rfl) (congrArg Value.bool (decide_eq_false hp1)) ?_
    refine Sx.G.pure (.bool false) (by kernel_rfl) (fun w => by kernel_rfl) ?_
    refine Sx.G.ld 33 (.tmp 6) b6 0 1 (gV (newG l0) (.slice x5A0 (newG l0).prog.length x5c0) (.slice x5A1 (newG l0).wr.length x5c1) (.slice x5A2 (newG l0).lv.length x5c2) (.slice x5A3 (newG l0).seen.length x5c3)) ((gV (newG l0) (.slice x5A0 (newG l0).prog.length x5c0) (.slice x5A1 (newG l0).wr.length x5c1) (.slice x5A2 (newG l0).lv.length x5c2) (.slice x5A3 (newG l0).seen.length x5c3))) rfl (by kernel_rfl) (by kernel_rfl) rfl (by kernel_rfl) (by kernel_rfl) (by kernel_rfl) ?_
    refine Sx.G.ld 33 (.tmp 4) b3 0 4 (gV (newG l0) (.slice x2A0 (newG l0).prog.length x2c0) (.slice x2A1 (newG l0).wr.length x2c1) (.slice x2A2 (newG l0).lv.length x2c2) (.slice x2A3 (newG l0).seen.length x2c3)) ((gV (newG l0) (.slice x2A0 (newG l0).prog.length x2c0) (.slice x2A1 (newG l0).wr.length x2c1) (.slice x2A2 (newG l0).lv.length x2c2) (.slice x2A3 (newG l0).seen.length x2c3))) rfl (by kernel_rfl) (by kernel_rfl) rfl (by kernel_rfl) (by kernel_rfl) (by kernel_rfl) ?_
    refine Sx.G.plain 19 #[.agg ((gV (newG l0) (.slice x5A0 (newG l0).prog.length x5c0) (.slice x5A1 (newG l0).wr.length x5c1) (.slice x5A2 (newG l0).lv.length x5c2) (.slice x5A3 (newG l0).seen.length x5c3))).toArray, .agg ((gV (newG l0) (.slice x2A0 (newG l0).prog.length x2c0) (.slice x2A1 (newG l0).wr.length x2c1) (.slice x2A2 (newG l0).lv.length x2c2) (.slice x2A3 (newG l0).seen.length x2c3))).toArray] (.bool true) (by kernel_rfl) (fun w => by kernel_rfl) (fun w S => by exact eqGuest_same _ _ _ _ (newG l0) (.slice x5A0 (newG l0).prog.length x5c0) (.slice x5A1 (newG l0).wr.length x5c1) (.slice x5A2 (newG l0).lv.length x5c2) (.slice x5A3 (newG l0).seen.length x5c3) (.slice x2A0 (newG l0).prog.length x2c0) (.slice x2A1 (newG l0).wr.length x2c1) (.slice x2A2 (newG l0).lv.length x2c2) (.slice x2A3 (newG l0).seen.length x2c3) _ hcres (St.hiG S 2 rfl) (St.hiG S 5 rfl) (St.gRG S 2 rfl) (St.gRG S 5 rfl)) ?_
    refine Sx.G.pure (.bool false) (by kernel_rfl) (fun w => by kernel_rfl) ?_
    refine Sx.G.pure (.bool false) (by kernel_rfl) (fun w => by kernel_rfl) ?_
    refine Sx.G.nil ?_
    refine Sx.E.next ?_
    refine Sx.C.no (by kernel_rfl) (by kernel_rfl) ?_
    refine Sx.C.skip ?_
    refine Sx.E.next ?_
    refine Sx.C.seq ?_
    refine Sx.C.region ?_
    refine Sx.G.pure (.int .i64 1) (by kernel_rfl) (fun w => by kernel_rfl) ?_
    refine Sx.G.nil ?_
    refine Sx.E.next ?_
    refine Sx.C.seq ?_
    refine Sx.C.region ?_
    refine Sx.G.ld 33 (.tmp 6) b6 0 1 (gV (newG l0) (.slice x5A0 (newG l0).prog.length x5c0) (.slice x5A1 (newG l0).wr.length x5c1) (.slice x5A2 (newG l0).lv.length x5c2) (.slice x5A3 (newG l0).seen.length x5c3)) ((gV (newG l0) (.slice x5A0 (newG l0).prog.length x5c0) (.slice x5A1 (newG l0).wr.length x5c1) (.slice x5A2 (newG l0).lv.length x5c2) (.slice x5A3 (newG l0).seen.length x5c3))) rfl (by kernel_rfl) (by kernel_rfl) rfl (by kernel_rfl) (by kernel_rfl) (by kernel_rfl) ?_
    refine Sx.G.pure (.int .i64 1) (by kernel_rfl) (fun w => by kernel_rfl) ?_
    refine Sx.G.call 22 #[.agg ((gV (newG l0) (.slice x5A0 (newG l0).prog.length x5c0) (.slice x5A1 (newG l0).wr.length x5c1) (.slice x5A2 (newG l0).lv.length x5c2) (.slice x5A3 (newG l0).seen.length x5c3))).toArray, .int .i64 1] (by kernel_rfl) (fun w => by kernel_rfl) (fun w9 S => (markGuest_any _ _ 1 (newG l0) (.slice x5A0 (newG l0).prog.length x5c0) (.slice x5A1 (newG l0).wr.length x5c1) (.slice x5A2 (newG l0).lv.length x5c2) (.slice x5A3 (newG l0).seen.length x5c3) _ hcres (by omega) (St.hiG S 2 rfl) (St.at_ S 2 rfl)).mono fun e w9' hp => ?_)
    obtain ⟨he, ho, ht⟩ := hp
    rw [← HQ2.out] at he
    subst he
    refine ⟨_, _, rfl, St.markG S 2 rfl ht ho, ?_⟩
    clear S ht ho
    refine Sx.G.pure (.int .i64 q2) (by kernel_rfl) (fun w => by kernel_rfl) ?_
    refine Sx.G.nil ?_
    refine Sx.E.next ?_
    refine Sx.C.seq ?_
    refine Sx.C.region ?_
    refine Sx.G.pure (.int .i64 1) (by kernel_rfl) (fun w => by kernel_rfl) ?_
    refine Sx.G.nil ?_
    refine Sx.E.next ?_
    refine Sx.C.seq ?_
    refine Sx.C.region ?_
    refine Sx.G.ld 33 (.tmp 6) b6 0 1 (gV (newG l0) (.slice x5A0 (newG l0).prog.length x5c0) (.slice x5A1 (newG l0).wr.length x5c1) (.slice x5A2 (newG l0).lv.length x5c2) (.slice x5A3 (newG l0).seen.length x5c3)) ((gV (newG l0) (.slice x5A0 (newG l0).prog.length x5c0) (.slice x5A1 (newG l0).wr.length x5c1) (.slice x5A2 (newG l0).lv.length x5c2) (.slice x5A3 (newG l0).seen.length x5c3))) rfl (by kernel_rfl) (by kernel_rfl) rfl (by kernel_rfl) (by kernel_rfl) (by kernel_rfl) ?_
    refine Sx.G.pure (.int .i64 1) (by kernel_rfl) (fun w => by kernel_rfl) ?_
    refine Sx.G.call 23 #[.agg ((gV (newG l0) (.slice x5A0 (newG l0).prog.length x5c0) (.slice x5A1 (newG l0).wr.length x5c1) (.slice x5A2 (newG l0).lv.length x5c2) (.slice x5A3 (newG l0).seen.length x5c3))).toArray, .int .i64 1] (by kernel_rfl) (fun w => by kernel_rfl) (fun w10 S => (heldGuest_any _ _ 1 (newG l0) (.slice x5A0 (newG l0).prog.length x5c0) (.slice x5A1 (newG l0).wr.length x5c1) (.slice x5A2 (newG l0).lv.length x5c2) (.slice x5A3 (newG l0).seen.length x5c3) _ hcres (by omega) (St.hiG S 2 rfl) (St.gRG S 2 rfl)).mono fun e w10' hp => ?_)
    obtain ⟨he, hb⟩ := hp
    rw [← HQ2.out] at he
    subst he
    refine ⟨_, _, rfl, S.call hb, ?_⟩
    clear S hb
    refine Sx.G.pure (.int .i64 q2) (by kernel_rfl) (fun w => by kernel_rfl) ?_
    refine Sx.G.nil ?_
    refine Sx.E.next ?_
    refine Sx.C.seq ?_
    refine Sx.C.seq ?_
    refine Sx.C.region ?_
    refine Sx.G.pure (.int .i64 q2) (by kernel_rfl) (fun w => by kernel_rfl) ?_
    refine Sx.G.pureq (.bool (decide (q2 < 0))) (.bool false) (by kernel_rfl) (fun w => by kernel_rfl) (congrArg Value.bool (decide_eq_false hp2)) ?_
    refine Sx.G.nil ?_
    refine Sx.E.next ?_
    refine Sx.C.no (by kernel_rfl) (by kernel_rfl) ?_
    refine Sx.C.skip ?_
    refine Sx.E.next ?_
    refine Sx.C.seq ?_
    refine Sx.C.seq ?_
    refine Sx.C.region ?_
    refine Sx.G.pure (.int .i64 q2) (by kernel_rfl) (fun w => by kernel_rfl) ?_
    refine Sx.G.pure (.int .i64 q2) (by kernel_rfl) (fun w => by kernel_rfl) ?_
    refine Sx.G.pureq (.bool (q2 != q2)) (.bool false) (by kernel_rfl) (fun w => by kernel_rfl) (congrArg Value.bool (bne_self_eq_false _)) ?_
    refine Sx.G.nil ?_
    refine Sx.E.next ?_
    refine Sx.C.no (by kernel_rfl) (by kernel_rfl) ?_
    refine Sx.C.skip ?_
    refine Sx.E.next ?_
    refine Sx.C.seq ?_
    refine Sx.C.region ?_
    refine Sx.G.pure (.slice A0 l0.length c0) (by kernel_rfl) (fun w => by kernel_rfl) ?_
    refine Sx.G.call 18 #[.slice A0 l0.length c0] (by kernel_rfl) (fun w => by kernel_rfl) (fun w11 S => (toJ 0 (.slice A0 l0.length c0) l0 _ hm0 (St.oldS S h0)).mono fun e w11' hp => ?_)
    obtain ⟨xB11, xd11, rfl, ho, hb⟩ := hp
    refine ⟨_, _, rfl, St.gotS S hb ho, ?_⟩
    clear S ho hb
    refine Sx.G.call 14 #[.slice xB11 l0.length xd11] (by kernel_rfl) (fun w => by kernel_rfl) (fun w12 S => (impl_gnew l0 _ _ _ hm0 (so_p2 (by rw [pcells_j]; exact St.sR0 S 0 rfl))).mono fun e w12' hp => ?_)
    obtain ⟨x12_0, x12_1, x12_2, x12_3, rfl, ho, hb⟩ := hp
    obtain ⟨x12A0, x12c0, e0, -⟩ := ho.r0
    subst e0
    obtain ⟨x12A1, x12c1, e1, -⟩ := ho.r1
    subst e1
    obtain ⟨x12A2, x12c2, e2, -⟩ := ho.r2
    subst e2
    obtain ⟨x12A3, x12c3, e3, -⟩ := ho.r3
    subst e3
    refine ⟨_, _, rfl, St.gotG S hb ho, ?_⟩
    clear S ho hb
    refine Sx.G.alloc 33 (.agg #[.slice none 0 0, .int .i64 0, .int .i64 0, .slice none 0 0, .slice none 0 0, .int .i64 0, .int .i64 0, .bool false, .int .i64 0, .int .i64 0, .int .i64 0, .bool false, .int .i64 0, .bool false, .slice none 0 0]) [.slice none 0 0, .int .i64 0, .int .i64 0, .slice none 0 0, .slice none 0 0, .int .i64 0, .int .i64 0, .bool false, .int .i64 0, .int .i64 0, .int .i64 0, .bool false, .int .i64 0, .bool false, .slice none 0 0] rfl (by kernel_rfl) (fun w => by kernel_rfl) (by kernel_rfl) (fun b13 => ?_)
    refine Sx.G.sto 33 (.tmp 10) (.tmp 56) b13 0 0 [.slice none 0 0, .int .i64 0, .int .i64 0, .slice none 0 0, .slice none 0 0, .int .i64 0, .int .i64 0, .bool false, .int .i64 0, .int .i64 0, .int .i64 0, .bool false, .int .i64 0, .bool false, .slice none 0 0] (gV (newG l0) (.slice x12A0 (newG l0).prog.length x12c0) (.slice x12A1 (newG l0).wr.length x12c1) (.slice x12A2 (newG l0).lv.length x12c2) (.slice x12A3 (newG l0).seen.length x12c3)) (gV (newG l0) (.slice x12A0 (newG l0).prog.length x12c0) (.slice x12A1 (newG l0).wr.length x12c1) (.slice x12A2 (newG l0).lv.length x12c2) (.slice x12A3 (newG l0).seen.length x12c3)) [vr b13 (gV (newG l0) (.slice x12A0 (newG l0).prog.length x12c0) (.slice x12A1 (newG l0).wr.length x12c1) (.slice x12A2 (newG l0).lv.length x12c2) (.slice x12A3 (newG l0).seen.length x12c3)), gI (w12.heap.size) (w12'.heap.size) (newG l0) (.slice x12A0 (newG l0).prog.length x12c0) (.slice x12A1 (newG l0).wr.length x12c1) (.slice x12A2 (newG l0).lv.length x12c2) (.slice x12A3 (newG l0).seen.length x12c3), sI (w11.heap.size) (w11'.heap.size) (Inss.jcells l0) l0.length (.slice xB11 l0.length xd11), sI (w7.heap.size) (w7'.heap.size) (Inss.jcells l0) l0.length (.slice xB7 l0.length xd7), vr b6 (gV (newG l0) (.slice x5A0 (newG l0).prog.length x5c0) (.slice x5A1 (newG l0).wr.length x5c1) (.slice x5A2 (newG l0).lv.length x5c2) (.slice x5A3 (newG l0).seen.length x5c3)), gI (w5.heap.size) (w5'.heap.size) (gmark 1 (newG l0)) (.slice x5A0 (newG l0).prog.length x5c0) (.slice x5A1 (newG l0).wr.length x5c1) (.slice x5A2 (newG l0).lv.length x5c2) (.slice x5A3 (newG l0).seen.length x5c3), sI (w4.heap.size) (w4'.heap.size) (Inss.jcells (Inss.jmarks 1 l0.length)) l0.length (.slice xB4 l0.length xd4), vr b3 (gV (newG l0) (.slice x2A0 (newG l0).prog.length x2c0) (.slice x2A1 (newG l0).wr.length x2c1) (.slice x2A2 (newG l0).lv.length x2c2) (.slice x2A3 (newG l0).seen.length x2c3)), gI (w2.heap.size) (w2'.heap.size) (newG l0) (.slice x2A0 (newG l0).prog.length x2c0) (.slice x2A1 (newG l0).wr.length x2c1) (.slice x2A2 (newG l0).lv.length x2c2) (.slice x2A3 (newG l0).seen.length x2c3), sI (w1.heap.size) (w1'.heap.size) (Inss.jcells l0) l0.length (.slice xB1 l0.length xd1)] rfl (by kernel_rfl) (by kernel_rfl) (by kernel_rfl) rfl (by kernel_rfl) rfl (by kernel_rfl) (by kernel_rfl) (by kernel_rfl) ?_
    refine Sx.G.nil ?_
    refine Sx.E.next ?_
    refine Sx.C.seq ?_
    refine Sx.C.seq ?_
    refine Sx.C.region ?_
    refine Sx.G.ld 33 (.tmp 10) b13 0 0 (gV (newG l0) (.slice x12A0 (newG l0).prog.length x12c0) (.slice x12A1 (newG l0).wr.length x12c1) (.slice x12A2 (newG l0).lv.length x12c2) (.slice x12A3 (newG l0).seen.length x12c3)) ((gV (newG l0) (.slice x12A0 (newG l0).prog.length x12c0) (.slice x12A1 (newG l0).wr.length x12c1) (.slice x12A2 (newG l0).lv.length x12c2) (.slice x12A3 (newG l0).seen.length x12c3))) rfl (by kernel_rfl) (by kernel_rfl) rfl (by kernel_rfl) (by kernel_rfl) (by kernel_rfl) ?_
    refine Sx.G.ld 33 (.tmp 4) b3 0 7 (gV (newG l0) (.slice x2A0 (newG l0).prog.length x2c0) (.slice x2A1 (newG l0).wr.length x2c1) (.slice x2A2 (newG l0).lv.length x2c2) (.slice x2A3 (newG l0).seen.length x2c3)) ((gV (newG l0) (.slice x2A0 (newG l0).prog.length x2c0) (.slice x2A1 (newG l0).wr.length x2c1) (.slice x2A2 (newG l0).lv.length x2c2) (.slice x2A3 (newG l0).seen.length x2c3))) rfl (by kernel_rfl) (by kernel_rfl) rfl (by kernel_rfl) (by kernel_rfl) (by kernel_rfl) ?_
    refine Sx.G.plain 19 #[.agg ((gV (newG l0) (.slice x12A0 (newG l0).prog.length x12c0) (.slice x12A1 (newG l0).wr.length x12c1) (.slice x12A2 (newG l0).lv.length x12c2) (.slice x12A3 (newG l0).seen.length x12c3))).toArray, .agg ((gV (newG l0) (.slice x2A0 (newG l0).prog.length x2c0) (.slice x2A1 (newG l0).wr.length x2c1) (.slice x2A2 (newG l0).lv.length x2c2) (.slice x2A3 (newG l0).seen.length x2c3))).toArray] (.bool true) (by kernel_rfl) (fun w => by kernel_rfl) (fun w S => by exact eqGuest_same _ _ _ _ (newG l0) (.slice x12A0 (newG l0).prog.length x12c0) (.slice x12A1 (newG l0).wr.length x12c1) (.slice x12A2 (newG l0).lv.length x12c2) (.slice x12A3 (newG l0).seen.length x12c3) (.slice x2A0 (newG l0).prog.length x2c0) (.slice x2A1 (newG l0).wr.length x2c1) (.slice x2A2 (newG l0).lv.length x2c2) (.slice x2A3 (newG l0).seen.length x2c3) _ hcres (St.hiG S 1 rfl) (St.hiG S 8 rfl) (St.gRG S 1 rfl) (St.gRG S 8 rfl)) ?_
    refine Sx.G.pure (.bool false) (by kernel_rfl) (fun w => by kernel_rfl) ?_
    refine Sx.G.nil ?_
    refine Sx.E.next ?_
    refine Sx.C.no (by kernel_rfl) (by kernel_rfl) ?_
    refine Sx.C.skip ?_
    refine Sx.E.next ?_
    refine Sx.C.seq ?_
    refine Sx.C.region ?_
    refine Sx.G.pure (.int .i64 1) (by kernel_rfl) (fun w => by kernel_rfl) ?_
    refine Sx.G.nil ?_
    refine Sx.E.next ?_
    refine Sx.C.seq ?_
    refine Sx.C.region ?_
    refine Sx.G.ld 33 (.tmp 6) b6 0 4 (gV (newG l0) (.slice x5A0 (newG l0).prog.length x5c0) (.slice x5A1 (newG l0).wr.length x5c1) (.slice x5A2 (newG l0).lv.length x5c2) (.slice x5A3 (newG l0).seen.length x5c3)) ((gV (newG l0) (.slice x5A0 (newG l0).prog.length x5c0) (.slice x5A1 (newG l0).wr.length x5c1) (.slice x5A2 (newG l0).lv.length x5c2) (.slice x5A3 (newG l0).seen.length x5c3))) rfl (by kernel_rfl) (by kernel_rfl) rfl (by kernel_rfl) (by kernel_rfl) (by kernel_rfl) ?_
    refine Sx.G.pure (.int .i64 1) (by kernel_rfl) (fun w => by kernel_rfl) ?_
    refine Sx.G.call 23 #[.agg ((gV (newG l0) (.slice x5A0 (newG l0).prog.length x5c0) (.slice x5A1 (newG l0).wr.length x5c1) (.slice x5A2 (newG l0).lv.length x5c2) (.slice x5A3 (newG l0).seen.length x5c3))).toArray, .int .i64 1] (by kernel_rfl) (fun w => by kernel_rfl) (fun w14 S => (heldGuest_any _ _ 1 (newG l0) (.slice x5A0 (newG l0).prog.length x5c0) (.slice x5A1 (newG l0).wr.length x5c1) (.slice x5A2 (newG l0).lv.length x5c2) (.slice x5A3 (newG l0).seen.length x5c3) _ hcres (by omega) (St.hiG S 5 rfl) (St.gRG S 5 rfl)).mono fun e w14' hp => ?_)
    obtain ⟨he, hb⟩ := hp
    rw [← HQ2.out] at he
    subst he
    refine ⟨_, _, rfl, S.call hb, ?_⟩
    clear S hb
    refine Sx.G.pure (.int .i64 q2) (by kernel_rfl) (fun w => by kernel_rfl) ?_
    refine Sx.G.nil ?_
    refine Sx.E.next ?_
    refine Sx.C.seq ?_
    refine Sx.C.seq ?_
    refine Sx.C.region ?_
    refine Sx.G.pure (.int .i64 q2) (by kernel_rfl) (fun w => by kernel_rfl) ?_
    refine Sx.G.pureq (.bool (decide (q2 < 0))) (.bool false) (by kernel_rfl) (fun w => by kernel_rfl) (congrArg Value.bool (decide_eq_false hp2)) ?_
    refine Sx.G.nil ?_
    refine Sx.E.next ?_
    refine Sx.C.no (by kernel_rfl) (by kernel_rfl) ?_
    refine Sx.C.skip ?_
    refine Sx.E.next ?_
    refine Sx.C.seq ?_
    refine Sx.C.seq ?_
    refine Sx.C.region ?_
    refine Sx.G.pure (.int .i64 q2) (by kernel_rfl) (fun w => by kernel_rfl) ?_
    refine Sx.G.pure (.int .i64 q2) (by kernel_rfl) (fun w => by kernel_rfl) ?_
    refine Sx.G.pureq (.bool (q2 != q2)) (.bool false) (by kernel_rfl) (fun w => by kernel_rfl) (congrArg Value.bool (bne_self_eq_false _)) ?_
    refine Sx.G.nil ?_
    refine Sx.E.next ?_
    refine Sx.C.no (by kernel_rfl) (by kernel_rfl) ?_
    refine Sx.C.skip ?_
    refine Sx.E.next ?_
    refine Sx.C.seq ?_
    refine Sx.C.region ?_
    refine Sx.G.pure (.bool true) (by kernel_rfl) (fun w => by kernel_rfl) ?_
    refine Sx.G.nil ?_
    refine Sx.E.next ?_
    refine Sx.C.ret ?_
    refine Sx.E.ret1 (.bool true) rfl (by kernel_rfl) (fun w S => ?_)
    exact ⟨rfl, S.below⟩
  · replace h0 : SR w 0 w.heap.size (Inss.jcells l0) l0.length (.slice A0 l0.length c0) := ⟨_, _, rfl, h0⟩
    refine Sx.enter (args := [.slice A0 l0.length c0]) Try.func4 rfl Try.ntmps4 rfl ?_
    refine Sx.C.seq ?_
    refine Sx.C.region ?_
    refine Sx.G.pure (.bool false) (by kernel_rfl) (fun w => by kernel_rfl) ?_
    refine Sx.G.nil ?_
    refine Sx.E.next ?_
    refine Sx.C.seq ?_
    refine Sx.C.region ?_
    refine Sx.G.pure (.int .i64 1048576) (by kernel_rfl) (fun w => by kernel_rfl) ?_
    refine Sx.G.nil ?_
    refine Sx.E.next ?_
    refine Sx.C.seq ?_
    refine Sx.C.region ?_
    refine Sx.G.pure (.slice A0 l0.length c0) (by kernel_rfl) (fun w => by kernel_rfl) ?_
    refine Sx.G.pure (.int .i64 1048576) (by kernel_rfl) (fun w => by kernel_rfl) ?_
    refine Sx.G.plain 16 #[.slice A0 l0.length c0, .int .i64 1048576] (.int .i64 (-1)) (by kernel_rfl) (fun w => by kernel_rfl) (fun w S => by exact ((szNoJ _ _ l0.length _ _ 1048576 _ (by decide) (by decide) hn0 (St.oldS S h0) (by omega)).mono fun e w' h => And.intro h.1 (below_eq h.2))) ?_
    refine Sx.G.pure (.int .i64 (-1)) (by kernel_rfl) (fun w => by kernel_rfl) ?_
    refine Sx.G.nil ?_
    refine Sx.E.next ?_
    refine Sx.C.seq ?_
    refine Sx.C.seq ?_
    refine Sx.C.region ?_
    refine Sx.G.pure (.int .i64 (-1)) (by kernel_rfl) (fun w => by kernel_rfl) ?_
    refine Sx.G.pure (.bool true) (by kernel_rfl) (fun w => by kernel_rfl) ?_
    refine Sx.G.nil ?_
    refine Sx.E.next ?_
    refine Sx.C.yes (by kernel_rfl) (by kernel_rfl) ?_
    refine Sx.C.seq ?_
    refine Sx.C.region ?_
    refine Sx.G.pure (.bool true) (by kernel_rfl) (fun w => by kernel_rfl) ?_
    refine Sx.G.nil ?_
    refine Sx.E.next ?_
    refine Sx.C.ret ?_
    refine Sx.E.then_ret ?_
    refine Sx.E.ret1 (.bool true) rfl (by kernel_rfl) (fun w S => ?_)
    exact ⟨rfl, S.below⟩
set_option maxRecDepth 100000 in
theorem lifted (os : Os) (started : os.Started) (H : Type) (enc : TypeId × Value → H) :
    ReturnsInHanded {} Try.checked os 4 .any (Rows.fnExactGuestNewSpec.pre6 enc Try.prog Try.f4 Rows.fnExactGuestNewRow.domain false) (Rows.fnExactGuestNewSpec.post enc Try.prog Try.f4 false true false false) := by
  refine returnsInHanded_of_change (C := Try.checked) Base.own started (by kernel_rfl) Try.func4
    (ChangeSpec.witness6 (enc := enc) (C := Try.checked) false ⟨#[], #[.slice none 0 0], []⟩ 8 (by kernel_rfl) (by kernel_rfl) (by kernel_rfl) (by kernel_rfl)) ?_
  intro W base args ds gs before hval0 hW hcnd _
  have hval : ∀ (j : Nat) t v, Try.f4.params[j]? = some t → args[j]? = some v → Value.okWide Try.prog W .any base t v := hval0
  have hW' := hW
  obtain ⟨p, q, hA0, hV, rfl, hfz, hnd⟩ := hW
  have hA : DataW.TrodAll enc Try.prog W 0 (fun _ => true) true Try.f4.params.toList args.toList ds p := hA0
  have hA1 := hA
  rw [Try.params4] at hA hval
  obtain ⟨v0, vs0, d0, ds0, p0, q0, hargs, rfl, rfl, h0, r0⟩ := trodAll_cons hA
  obtain ⟨rfl, rfl, rfl⟩ := trodAll_nil r0
  obtain rfl : args = #[v0] := by cases args; simp_all
  obtain ⟨rfl, rfl⟩ := trodVars_none hV
  obtain ⟨A0, n0, c0, l0, rfl, hn0, hl0, hw0, h0'⟩ := Inss.open_insts (hval 0 36 v0 rfl rfl) h0
  clear hA0 hval0
  rw [List.append_nil] at hW'
  refine (walk A0 n0 c0 l0 hn0 hl0 hw0 h0').mono fun e W' ⟨he, hg⟩ => ?_
  subst he
  exact ⟨_, rfl, Mem.post_args Slots.laid (by kernel_rfl) rfl rfl rfl hW' hA1 hg (fun _ _ _ => (trodAll_cons_mk (shut_bool Try.underlying4 _) trodAll_mk0)) (ok_one (by kernel_rfl) rfl (okWide_bool_mk Try.underlying4 _))⟩
theorem over : Rows.fnExactGuestNewRow.holds Try.pinned (OpenSpec.ofChange Rows.fnExactGuestNewSpec) :=
  OpenClaim.holds_of_wide 4 Try.f4 rfl rfl rfl rfl rfl rfl rfl ⟨rfl, rfl, rfl, rfl, rfl⟩ rfl rfl rfl rfl rfl (by kernel_rfl) Try.func4 (by kernel_rfl)
    (of_decide_eq_true (by kernel_rfl)) (by unfold Func.isWrapper; first | (rw [if_pos (by decide +kernel)]; kernel_rfl) | (rw [if_neg (by decide +kernel)]; exact ⟨rfl, rfl⟩))
    (fun os started H enc _ => lifted os started H enc)
/-- The given statement. -/
theorem proved : Rows.FnExactGuestNewSaid :=
  over
#print axioms proved
end Go.Proofs.Yteopkcndkcciaaa.fnExactGuestNew
