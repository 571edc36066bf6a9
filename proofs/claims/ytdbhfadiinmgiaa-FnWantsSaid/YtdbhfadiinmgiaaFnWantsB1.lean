/-
  The texts that FnWants wants, part 1: BroughtSpec MemSet MemPut MemPutS SxEq GuestOkX GuestB SI Draw SxCur Pick SlotDraw SlotTab SlotDraws InsDraws InsDraw2 DrawCap IrqDraws CtlDraws ExitDraws. No condition.
-/
import Derived.Test.YtdbhfadiinmgiaaFnWantsB0
import Derived.Laws.StructEq
import Derived.IntWalk
namespace Go.Proofs.Ytdbhfadiinmgiaa.Grid
set_option maxRecDepth 100000
open Go.ChangeShapes Go.WideShapes Go.ChangeAt Go.RowKit
open Go.Proofs.Ytdbhfadiinmgiaa.BroughtW
theorem spec_brought (n l m : Int) (w : World) :
    Calls Try.prog 104 #[.int .i64 n, .int .i64 l, .int .i64 m] w fun e w' => e = .returned (.int .i64 (brought n l m)) ∧ w = w' := by
  by_cases h1 : m < l
  · have hb : brought n l m = l := by unfold brought; rw [if_pos (Or.inl h1)]
    rw [hb]; clear hb
    go_enter Try.func104, Try.ntmps104
    go_wp2
    go_ret
    exact ⟨rfl, rfl⟩
  · by_cases h2 : n < l
    · have hb : brought n l m = l := by unfold brought; rw [if_pos (Or.inr h2)]
      rw [hb]; clear hb
      go_enter Try.func104, Try.ntmps104
      go_wp2
      go_ret
      exact ⟨rfl, rfl⟩
    · by_cases h3 : m < n
      · have hb : brought n l m = m := by unfold brought; rw [if_neg (by omega), if_pos h3]
        rw [hb]; clear hb
        go_enter Try.func104, Try.ntmps104
        go_wp2
        go_ret
        exact ⟨rfl, rfl⟩
      · have hb : brought n l m = n := by unfold brought; rw [if_neg (by omega), if_neg h3]
        rw [hb]; clear hb
        go_enter Try.func104, Try.ntmps104
        go_wp2
        go_ret
        exact ⟨rfl, rfl⟩
end Go.Proofs.Ytdbhfadiinmgiaa.Grid
namespace Go.Proofs.Ytdbhfadiinmgiaa.Grid
set_option maxRecDepth 100000
open Go.ChangeShapes Go.WideShapes Go.ChangeAt Go.RowKit
open Go.Proofs.Ytdbhfadiinmgiaa.Base Go.Proofs.Ytdbhfadiinmgiaa.Mem Go.Proofs.Ytdbhfadiinmgiaa.Ints
set_option linter.unusedVariables false
def newN (a : Int) : Nat := (BroughtW.brought a 0 24).toNat
theorem newN_le (a : Int) : newN a ≤ 24 := by unfold newN BroughtW.brought; split <;> (try split) <;> omega
theorem newN_eq (a : Int) : BroughtW.brought a 0 24 = (newN a : Int) := by unfold newN BroughtW.brought; split <;> (try split) <;> omega
end Go.Proofs.Ytdbhfadiinmgiaa.Grid
namespace Go.Proofs.Ytdbhfadiinmgiaa.Grid
set_option maxRecDepth 100000
open Go.ChangeShapes Go.WideShapes Go.ChangeAt Go.RowKit
open Go.Proofs.Ytdbhfadiinmgiaa.Base Go.Proofs.Ytdbhfadiinmgiaa.Mem Go.Proofs.Ytdbhfadiinmgiaa.Ints
set_option linter.unusedVariables false
/-- A cell of a memory of one's own is written. -/
theorem OG.cell {w : World} {lo hi : Nat} {A : Option Addr} {M : List (List Int)} {hs : List Hd} (h : OG w lo hi A M hs) (hh : hi ≤ w.heap.size) (k j : Nat) (hk : k < M.length) (hj : j < M[k].length) :
    ∃ b off b' off' c, A = some ⟨b, off, none⟩ ∧ b < hi ∧ w.cell? ⟨b, off + k, none⟩ = some (.slice (some ⟨b', off', none⟩) M[k].length c) ∧ (∃ u, w.cell? ⟨b', off' + j, none⟩ = some u) ∧ w.frozen? ⟨b', off' + j, none⟩ = false ∧
      ∀ v : Int, OG (w.setCell ⟨b', off' + j, none⟩ (.int .i64 v)) lo hi A (M.set k (M[k].set j v)) hs ∧ Turned lo hi w (w.setCell ⟨b', off' + j, none⟩ (.int .i64 v)) := by
  obtain ⟨b, off, B, c, lo', hi', e, hb, hc, ho, hn⟩ := h.write hh k hk
  obtain ⟨b', off', rfl, x, y, c2⟩ := int_at ho.1 j hj
  refine ⟨b, off, b', off', c, e, hb, hc, ⟨_, c2⟩, ho.2 _ _ rfl (by rw [ncells_len]; omega) _, fun v => ?_⟩
  have h1 := ho.set j (.int .i64 v)
  rw [ncells_set] at h1
  exact hn _ _ (by simp) h1 ((Turned.refl lo' hi' w).setCell x y _)
end Go.Proofs.Ytdbhfadiinmgiaa.Grid
namespace Go.Proofs.Ytdbhfadiinmgiaa.Grid
set_option maxRecDepth 100000
open Go.ChangeShapes Go.WideShapes Go.ChangeAt Go.RowKit
open Go.Proofs.Ytdbhfadiinmgiaa.Base Go.Proofs.Ytdbhfadiinmgiaa.Mem Go.Proofs.Ytdbhfadiinmgiaa.Ints
set_option linter.unusedVariables false
def SameP {α : Type} [DecidableEq α] (w : World) (l m : List α) (e : Ending) (w' : World) : Prop := e = .returned (.bool (decide (l = m))) ∧ ∃ q, w' = w.drewN q
theorem same_step {α : Type} {l m : List α} {k : Nat} (hl : k < l.length) (hm : k < m.length) (h : l.take k = m.take k) :
    (l[k] = m[k] → l.take (k + 1) = m.take (k + 1)) ∧ (l[k] ≠ m[k] → l ≠ m) := by
  refine ⟨fun e => ?_, fun e => ?_⟩
  · rw [List.take_succ_eq_append_getElem hl, List.take_succ_eq_append_getElem hm, h, e]
  · rintro rfl
    exact e rfl
section
variable {α : Type} [DecidableEq α] {w : World} {l m : List α}
theorem SameP.yes {P : Program} {f : FuncId} {args : Array Value} {w0 : World} (h : Calls P f args w0 (SameP w l m)) (e : l = m) : Calls P f args w0 fun e w' => e = .returned (.bool true) ∧ ∃ q, w' = w.drewN q :=
  h.mono fun e1 w' ⟨h1, h2⟩ => ⟨by rw [h1, decide_eq_true e], h2⟩
theorem SameP.no {P : Program} {f : FuncId} {args : Array Value} {w0 : World} (h : Calls P f args w0 (SameP w l m)) (e : l ≠ m) : Calls P f args w0 fun e w' => e = .returned (.bool false) ∧ ∃ q, w' = w.drewN q :=
  h.mono fun e1 w' ⟨h1, h2⟩ => ⟨by rw [h1, decide_eq_false e], h2⟩
theorem same_no (q : Nat) (h : l ≠ m) : SameP w l m (.returned (.bool false)) (w.drewN q) := ⟨by rw [decide_eq_false h], q, rfl⟩
theorem same_no2 (q r : Nat) (h : l ≠ m) : SameP w l m (.returned (.bool false)) ((w.drewN q).drewN r) := ⟨by rw [decide_eq_false h], q + r, World.drewN_drewN ..⟩
/-- The world has drawn, and nothing else. -/
def Drawn (w w' : World) : Prop := ∃ q, w' = w.drewN q
theorem Drawn.cell {w' : World} (h : Drawn w w') (p : Addr) : w'.cell? p = w.cell? p := by
  obtain ⟨q, rfl⟩ := h
  rfl
theorem Drawn.lies {w' : World} (h : Drawn w w') {lo hi : Nat} {A : Option Addr} {cs : List Value} (k : Lies w lo hi A cs) : Lies w' lo hi A cs := by
  obtain ⟨q, rfl⟩ := h
  exact k
theorem Drawn.more {w' : World} (h : Drawn w w') (r : Nat) : Drawn w (w'.drewN (1 + r)) := by
  obtain ⟨q, rfl⟩ := h
  exact ⟨q + (1 + r), World.drewN_drewN ..⟩
theorem same_yes {n : Nat} (q : Nat) (h : l.take n = m.take n) (hl : l.length = n) (hm : m.length = n) : SameP w l m (.returned (.bool true)) (w.drewN q) := by
  rw [List.take_of_length_le (by omega), List.take_of_length_le (by omega)] at h
  exact ⟨by rw [decide_eq_true h], q, rfl⟩
end
set_option maxHeartbeats 1000000 in
theorem law_ints (A B : Option Addr) (n n' c d lo lo' hi hi' : Nat) (l m : List Int) (w : World) (hn : n ≤ 1048576) (hn' : n' ≤ 1048576) (hl : l.length = n) (hm : m.length = n')
    (h1 : Lies w lo hi A (ncells l)) (h2 : Lies w lo' hi' B (ncells m)) :
    Calls Try.prog 50 #[.slice A n c, .slice B n' d] w (SameP w l m) := by
  have H1 := Lib.hid h1
  have H2 := Lib.hid h2
  have HL := Lib.hid hl
  have HM := Lib.hid hm
  clear h1 h2 hl hm
  by_cases hnn : n = n'
  · subst hnn
    go_enter Try.func50, Try.ntmps50
    go_wp2
    go_loopw [5] (fun  i wr => ∃ (k q : Nat), k ≤ n ∧ i = .int .i64 k ∧ l.take k = m.take k ∧ wr = w.drewN q) (fun  i _ => n - (intOf i).toNat)
    case atStart => exact ⟨0, 0, Nat.zero_le _, rfl, rfl, rfl⟩
    case round =>
      obtain ⟨k, q, hk, rfl, ht, rfl⟩ := hrel
      have HT := Lib.hid ht
      clear ht
      by_cases hlt : k < n
      · have hkl : k < l.length := by have := HL.out; omega
        have hkm : k < m.length := by have := HM.out; omega
        obtain ⟨b, off, rfl, _, hbw, c1⟩ := int_at H1.out k hkl
        obtain ⟨b', off', rfl, _, hbw', c2⟩ := int_at H2.out k hkm
        have hi0 : (0 : Int) ≤ (k : Int) := Int.natCast_nonneg _
        have hi1 : (k : Int) < (n : Int) := by omega
        have HP := Lib.hid (same_step hkl hkm HT.out)
        generalize l[k] = x at c1 HP
        generalize m[k] = y at c2 HP
        by_cases hx : x = y
        · subst hx
          go_wp2
          go_quiet (fail)
          go_wp2
          go_roundw
          case rel => exact ⟨k + 1, _, by omega, by go_num, HP.out.1 (by simp), rfl⟩
          case measure => simp [intOf]; omega
        · have hx' : (x == y) = false := by simpa using hx
          have hx2 : (x != y) = true := by simpa using hx
          go_wp2
          go_quiet (fail)
          go_wp2
          go_ret
          exact same_no2 _ _ (HP.out.2 hx)
      · have hkn : k = n := by omega
        subst hkn
        go_wp2
        go_ret
        exact same_yes _ HT.out HL.out HM.out
  · have hd : (n == n') = false := by simpa using hnn
    have hd' : ((n : Int) == (n' : Int)) = false := by simp; omega
    go_enter Try.func50, Try.ntmps50
    go_wp2
    go_ret
    exact same_no 0 (fun e => hnn (by rw [← HL.out, ← HM.out, e]))
end Go.Proofs.Ytdbhfadiinmgiaa.Grid
namespace Go.Proofs.Ytdbhfadiinmgiaa.Sx
set_option maxRecDepth 100000
open Go.ChangeShapes Go.WideShapes Go.ChangeAt Go.RowKit Go.Deep
set_option linter.unusedVariables false
theorem run_eqs {P : Program} {ρ : Operand → Value} {o : Oper} {op : BinOp} {t t' : TypeId} {x y : Operand} {xs ys : Array Value} {v : Value} (hop : o.op = .binOp op t x y t') (hx : ρ x = .agg xs) (hy : ρ y = .agg ys) (hm : P.eqGuardType P.depth t = false)
    (he : ∀ w, (binOp op t (.agg xs) (.agg ys)).run P w = .ok v w) (w : World) : (execOp ρ o).run P w = .ok (.value v) w := by
  unfold execOp
  simp only [hop, hx, hy, Sem.run_bind, run_eqGuard_agg _ _ _ _ _ _ _ hm, he, Sem.run_pure, Result.andThen_ok]
end Go.Proofs.Ytdbhfadiinmgiaa.Sx
namespace Go.Proofs.Ytdbhfadiinmgiaa.Guests
set_option maxRecDepth 100000
open Go.ChangeShapes Go.WideShapes Go.ChangeAt Go.RowKit
open Go.Proofs.Ytdbhfadiinmgiaa.Base Go.Proofs.Ytdbhfadiinmgiaa.Mem Go.Proofs.Ytdbhfadiinmgiaa.Data Go.Proofs.Ytdbhfadiinmgiaa.Slots Go.Proofs.Ytdbhfadiinmgiaa.Ints Go.Proofs.Ytdbhfadiinmgiaa.Ctls Go.Proofs.Ytdbhfadiinmgiaa.Exits Go.Proofs.Ytdbhfadiinmgiaa.Stt Go.Proofs.Ytdbhfadiinmgiaa.Irqs Go.Proofs.Ytdbhfadiinmgiaa.Inss
set_option linter.unusedVariables false
set_option linter.unusedSimpArgs false
theorem eqv_Ctl_eql (a0 : Int) (a1 : Int) (a2 : Bool) (b0 : Int) (b1 : Int) (b2 : Bool) (W : World) : (binOp .eql 27 (.agg #[.int .i64 a0, .int .i64 a1, .bool a2]) (.agg #[.int .i64 b0, .int .i64 b1, .bool b2])).run Try.prog W = .ok (.bool (a0 == b0 && a1 == b1 && a2 == b2)) W := by
  have ku3 := Try.underlying3
  have ka3 := Try.isAgg3
  have kz3 := Try.sizeOf3
  have ku4 := Try.underlying4
  have ka4 := Try.isAgg4
  have kz4 := Try.sizeOf4
  have hS : Try.prog.underlying 27 = some (.struct (Try.prog.fieldsOf 27)) := by kernel_rfl
  have hp : Try.prog.stoodInHeld 27 = false := by kernel_rfl
  rw [run_eql_struct, show (10000 : Nat) = 9999 + 1 from rfl, run_equalIn_agg W 9999 27 _ _ hS hp]
  simp only [Program.fieldsOf, Try.underlying27]
  go_simp
  by_cases h0 : a0 = b0 <;> by_cases h1 : a1 = b1 <;> cases a2 <;> cases b2 <;> simp [h0, h1]
theorem eqv_Exit_eql (a0 : Int) (a1 : Int) (a2 : Bool) (a3 : Int) (b0 : Int) (b1 : Int) (b2 : Bool) (b3 : Int) (W : World) : (binOp .eql 29 (.agg #[.int .i64 a0, .int .i64 a1, .bool a2, .int .i64 a3]) (.agg #[.int .i64 b0, .int .i64 b1, .bool b2, .int .i64 b3])).run Try.prog W = .ok (.bool (a0 == b0 && a1 == b1 && a2 == b2 && a3 == b3)) W := by
  have ku3 := Try.underlying3
  have ka3 := Try.isAgg3
  have kz3 := Try.sizeOf3
  have ku4 := Try.underlying4
  have ka4 := Try.isAgg4
  have kz4 := Try.sizeOf4
  have hS : Try.prog.underlying 29 = some (.struct (Try.prog.fieldsOf 29)) := by kernel_rfl
  have hp : Try.prog.stoodInHeld 29 = false := by kernel_rfl
  rw [run_eql_struct, show (10000 : Nat) = 9999 + 1 from rfl, run_equalIn_agg W 9999 29 _ _ hS hp]
  simp only [Program.fieldsOf, Try.underlying29]
  go_simp
  by_cases h0 : a0 = b0 <;> by_cases h1 : a1 = b1 <;> cases a2 <;> cases b2 <;> by_cases h3 : a3 = b3 <;> simp [h0, h1, h3]
theorem drew_below {w w' : World} (h : ∃ q, w' = w.drewN q) : Below w.heap.size w w' := by
  obtain ⟨q, rfl⟩ := h
  exact below_drewN (Below.refl _ _) q
def sameG (g k : gT) : Bool := decide (g.prog = k.prog) && (g.a == k.a) && (g.pc == k.pc) && decide (g.wr = k.wr) && decide (g.lv = k.lv) && ((g.t.1 == k.t.1) && (g.t.2.1 == k.t.2.1) && (g.t.2.2 == k.t.2.2)) && (g.pd == k.pd) && ((g.x.1 == k.x.1) && (g.x.2.1 == k.x.2.1) && (g.x.2.2.1 == k.x.2.2.1) && (g.x.2.2.2 == k.x.2.2.2)) && (g.hl == k.hl) && decide (g.seen = k.seen)
theorem sameG_refl (g : gT) : sameG g g = true := by simp [sameG]
set_option maxRecDepth 100000 in
set_option maxHeartbeats 4000000 in
theorem law_sameG (g k : gT) (cs ds : List Value) (w : World) (hc : rG.cap g) (hd : rG.cap k) (h : rG.rd w 0 w.heap.size g cs) (j : rG.rd w 0 w.heap.size k ds) : Calls Try.prog 17 #[.agg cs.toArray, .agg ds.toArray] w (fun e w' => e = .returned (.bool (sameG g k)) ∧ Below w.heap.size w w') := by
  obtain ⟨q0, q1, q2, q3⟩ := rG_len hc
  obtain ⟨p0, p1, p2, p3⟩ := rG_len hd
  have hr := h
  obtain ⟨P0, P1, P2, P3, rfl, h0, h1, h2, h3⟩ := rG_rd h
  obtain ⟨PA0, Pc0, e0, hP0⟩ := lst_val h0
  subst e0
  obtain ⟨PA1, Pc1, e1, hP1⟩ := lst_val h1
  subst e1
  obtain ⟨PA2, Pc2, e2, hP2⟩ := lst_val h2
  subst e2
  obtain ⟨PA3, Pc3, e3, hP3⟩ := lst_val h3
  subst e3
  have jr := j
  obtain ⟨R0, R1, R2, R3, rfl, j0, j1, j2, j3⟩ := rG_rd j
  obtain ⟨RA0, Rc0, e0, hR0⟩ := lst_val j0
  subst e0
  obtain ⟨RA1, Rc1, e1, hR1⟩ := lst_val j1
  subst e1
  obtain ⟨RA2, Rc2, e2, hR2⟩ := lst_val j2
  subst e2
  obtain ⟨RA3, Rc3, e3, hR3⟩ := lst_val j3
  subst e3
  refine Sx.enter (args := [.agg #[.slice PA0 g.prog.length Pc0, .int .i64 g.a, .int .i64 g.pc, .slice PA1 g.wr.length Pc1, .slice PA2 g.lv.length Pc2, .int .i64 g.t.1, .int .i64 g.t.2.1, .bool g.t.2.2, .int .i64 g.pd, .int .i64 g.x.1, .int .i64 g.x.2.1, .bool g.x.2.2.1, .int .i64 g.x.2.2.2, .bool g.hl, .slice PA3 g.seen.length Pc3], .agg #[.slice RA0 k.prog.length Rc0, .int .i64 k.a, .int .i64 k.pc, .slice RA1 k.wr.length Rc1, .slice RA2 k.lv.length Rc2, .int .i64 k.t.1, .int .i64 k.t.2.1, .bool k.t.2.2, .int .i64 k.pd, .int .i64 k.x.1, .int .i64 k.x.2.1, .bool k.x.2.2.1, .int .i64 k.x.2.2.2, .bool k.hl, .slice RA3 k.seen.length Rc3]]) Try.func17 rfl Try.ntmps17 rfl ?_
  refine Sx.C.seq ?_
  refine Sx.C.region ?_
  refine Sx.G.box 32 (.tmp 0) [.slice PA0 g.prog.length Pc0, .int .i64 g.a, .int .i64 g.pc, .slice PA1 g.wr.length Pc1, .slice PA2 g.lv.length Pc2, .int .i64 g.t.1, .int .i64 g.t.2.1, .bool g.t.2.2, .int .i64 g.pd, .int .i64 g.x.1, .int .i64 g.x.2.1, .bool g.x.2.2.1, .int .i64 g.x.2.2.2, .bool g.hl, .slice PA3 g.seen.length Pc3] rfl (by kernel_rfl) (by kernel_rfl) (fun b1 => ?_)
  refine Sx.G.box 32 (.tmp 1) [.slice RA0 k.prog.length Rc0, .int .i64 k.a, .int .i64 k.pc, .slice RA1 k.wr.length Rc1, .slice RA2 k.lv.length Rc2, .int .i64 k.t.1, .int .i64 k.t.2.1, .bool k.t.2.2, .int .i64 k.pd, .int .i64 k.x.1, .int .i64 k.x.2.1, .bool k.x.2.2.1, .int .i64 k.x.2.2.2, .bool k.hl, .slice RA3 k.seen.length Rc3] rfl (by kernel_rfl) (by kernel_rfl) (fun b2 => ?_)
  refine Sx.G.pure (.bool false) (by kernel_rfl) (fun w => by kernel_rfl) ?_
  refine Sx.G.nil ?_
  refine Sx.E.next ?_
  refine Sx.C.seq ?_
  refine Sx.C.region ?_
  refine Sx.G.pure (.pointer (some ⟨b1, 0, none⟩)) (by kernel_rfl) (fun w => by kernel_rfl) ?_
  refine Sx.G.ld1 24 (.tmp 5) b1 0 1 [.slice PA0 g.prog.length Pc0, .int .i64 g.a, .int .i64 g.pc, .slice PA1 g.wr.length Pc1, .slice PA2 g.lv.length Pc2, .int .i64 g.t.1, .int .i64 g.t.2.1, .bool g.t.2.2, .int .i64 g.pd, .int .i64 g.x.1, .int .i64 g.x.2.1, .bool g.x.2.2.1, .int .i64 g.x.2.2.2, .bool g.hl, .slice PA3 g.seen.length Pc3] (.slice PA0 g.prog.length Pc0) rfl (by kernel_rfl) (by kernel_rfl) rfl (by kernel_rfl) (by kernel_rfl) ?_
  refine Sx.G.pure (.pointer (some ⟨b2, 0, none⟩)) (by kernel_rfl) (fun w => by kernel_rfl) ?_
  refine Sx.G.ld1 24 (.tmp 7) b2 0 0 [.slice RA0 k.prog.length Rc0, .int .i64 k.a, .int .i64 k.pc, .slice RA1 k.wr.length Rc1, .slice RA2 k.lv.length Rc2, .int .i64 k.t.1, .int .i64 k.t.2.1, .bool k.t.2.2, .int .i64 k.pd, .int .i64 k.x.1, .int .i64 k.x.2.1, .bool k.x.2.2.1, .int .i64 k.x.2.2.2, .bool k.hl, .slice RA3 k.seen.length Rc3] (.slice RA0 k.prog.length Rc0) rfl (by kernel_rfl) (by kernel_rfl) rfl (by kernel_rfl) (by kernel_rfl) ?_
  refine Sx.G.plain 49 #[.slice PA0 g.prog.length Pc0, .slice RA0 k.prog.length Rc0] (.bool (decide (g.prog = k.prog))) (by kernel_rfl) (fun w => by kernel_rfl) (fun w S => by exact ((Inss.law_same PA0 RA0 g.prog.length k.prog.length Pc0 Rc0 0 0 _ _ g.prog k.prog _ q0 p0 rfl rfl (by rw [← pcells_j]; exact p2_lies (St.old S h0)) (by rw [← pcells_j]; exact p2_lies (St.old S j0))).mono fun e w' h => And.intro h.1 (drew_below h.2))) ?_
  refine Sx.G.pure (.bool (decide (g.prog = k.prog))) (by kernel_rfl) (fun w => by kernel_rfl) ?_
  cases hc3 : (decide (g.prog = k.prog))
  · have hb3 := hc3
    replace hc3 := of_decide_eq_false hc3
    refine Sx.G.skip (by kernel_rfl) ?_
    refine Sx.G.skip (by kernel_rfl) ?_
    refine Sx.G.skip (by kernel_rfl) ?_
    refine Sx.G.skip (by kernel_rfl) ?_
    refine Sx.G.skip (by kernel_rfl) ?_
    refine Sx.G.pure (.bool false) (by kernel_rfl) (fun w => by kernel_rfl) ?_
    refine Sx.G.pure (.bool false) (by kernel_rfl) (fun w => by kernel_rfl) ?_
    refine Sx.G.skip (by kernel_rfl) ?_
    refine Sx.G.skip (by kernel_rfl) ?_
    refine Sx.G.skip (by kernel_rfl) ?_
    refine Sx.G.skip (by kernel_rfl) ?_
    refine Sx.G.skip (by kernel_rfl) ?_
    refine Sx.G.pure (.bool false) (by kernel_rfl) (fun w => by kernel_rfl) ?_
    refine Sx.G.pure (.bool false) (by kernel_rfl) (fun w => by kernel_rfl) ?_
    refine Sx.G.skip (by kernel_rfl) ?_
    refine Sx.G.skip (by kernel_rfl) ?_
    refine Sx.G.skip (by kernel_rfl) ?_
    refine Sx.G.skip (by kernel_rfl) ?_
    refine Sx.G.skip (by kernel_rfl) ?_
    refine Sx.G.pure (.bool false) (by kernel_rfl) (fun w => by kernel_rfl) ?_
    refine Sx.G.pure (.bool false) (by kernel_rfl) (fun w => by kernel_rfl) ?_
    refine Sx.G.skip (by kernel_rfl) ?_
    refine Sx.G.skip (by kernel_rfl) ?_
    refine Sx.G.skip (by kernel_rfl) ?_
    refine Sx.G.skip (by kernel_rfl) ?_
    refine Sx.G.skip (by kernel_rfl) ?_
    refine Sx.G.pure (.bool false) (by kernel_rfl) (fun w => by kernel_rfl) ?_
    refine Sx.G.pure (.bool false) (by kernel_rfl) (fun w => by kernel_rfl) ?_
    refine Sx.G.skip (by kernel_rfl) ?_
    refine Sx.G.skip (by kernel_rfl) ?_
    refine Sx.G.skip (by kernel_rfl) ?_
    refine Sx.G.skip (by kernel_rfl) ?_
    refine Sx.G.skip (by kernel_rfl) ?_
    refine Sx.G.pure (.bool false) (by kernel_rfl) (fun w => by kernel_rfl) ?_
    refine Sx.G.pure (.bool false) (by kernel_rfl) (fun w => by kernel_rfl) ?_
    refine Sx.G.skip (by kernel_rfl) ?_
    refine Sx.G.skip (by kernel_rfl) ?_
    refine Sx.G.skip (by kernel_rfl) ?_
    refine Sx.G.skip (by kernel_rfl) ?_
    refine Sx.G.skip (by kernel_rfl) ?_
    refine Sx.G.pure (.bool false) (by kernel_rfl) (fun w => by kernel_rfl) ?_
    refine Sx.G.pure (.bool false) (by kernel_rfl) (fun w => by kernel_rfl) ?_
    refine Sx.G.skip (by kernel_rfl) ?_
    refine Sx.G.skip (by kernel_rfl) ?_
    refine Sx.G.skip (by kernel_rfl) ?_
    refine Sx.G.skip (by kernel_rfl) ?_
    refine Sx.G.skip (by kernel_rfl) ?_
    refine Sx.G.pure (.bool false) (by kernel_rfl) (fun w => by kernel_rfl) ?_
    refine Sx.G.pure (.bool false) (by kernel_rfl) (fun w => by kernel_rfl) ?_
    refine Sx.G.skip (by kernel_rfl) ?_
    refine Sx.G.skip (by kernel_rfl) ?_
    refine Sx.G.skip (by kernel_rfl) ?_
    refine Sx.G.skip (by kernel_rfl) ?_
    refine Sx.G.skip (by kernel_rfl) ?_
    refine Sx.G.pure (.bool false) (by kernel_rfl) (fun w => by kernel_rfl) ?_
    refine Sx.G.pure (.bool false) (by kernel_rfl) (fun w => by kernel_rfl) ?_
    refine Sx.G.skip (by kernel_rfl) ?_
    refine Sx.G.skip (by kernel_rfl) ?_
    refine Sx.G.skip (by kernel_rfl) ?_
    refine Sx.G.skip (by kernel_rfl) ?_
    refine Sx.G.skip (by kernel_rfl) ?_
    refine Sx.G.pure (.bool false) (by kernel_rfl) (fun w => by kernel_rfl) ?_
    refine Sx.G.pure (.bool false) (by kernel_rfl) (fun w => by kernel_rfl) ?_
    refine Sx.G.nil ?_
    refine Sx.E.next ?_
    refine Sx.C.ret ?_
    refine Sx.E.ret1 (.bool false) rfl (by kernel_rfl) (fun w S => ?_)
    exact ⟨congrArg Ending.returned (congrArg Value.bool (by simp only [sameG, hb3, Bool.and_true, Bool.and_false, Bool.false_and, Bool.true_and])), S.below⟩
  · have hb3 := hc3
    replace hc3 := of_decide_eq_true hc3
    refine Sx.G.pure (.pointer (some ⟨b1, 1, none⟩)) (by kernel_rfl) (fun w => by kernel_rfl) ?_
    refine Sx.G.ld1 3 (.tmp 11) b1 1 1 [.slice PA0 g.prog.length Pc0, .int .i64 g.a, .int .i64 g.pc, .slice PA1 g.wr.length Pc1, .slice PA2 g.lv.length Pc2, .int .i64 g.t.1, .int .i64 g.t.2.1, .bool g.t.2.2, .int .i64 g.pd, .int .i64 g.x.1, .int .i64 g.x.2.1, .bool g.x.2.2.1, .int .i64 g.x.2.2.2, .bool g.hl, .slice PA3 g.seen.length Pc3] (.int .i64 g.a) rfl (by kernel_rfl) (by kernel_rfl) rfl (by kernel_rfl) (by kernel_rfl) ?_
    refine Sx.G.pure (.pointer (some ⟨b2, 1, none⟩)) (by kernel_rfl) (fun w => by kernel_rfl) ?_
    refine Sx.G.ld1 3 (.tmp 13) b2 1 0 [.slice RA0 k.prog.length Rc0, .int .i64 k.a, .int .i64 k.pc, .slice RA1 k.wr.length Rc1, .slice RA2 k.lv.length Rc2, .int .i64 k.t.1, .int .i64 k.t.2.1, .bool k.t.2.2, .int .i64 k.pd, .int .i64 k.x.1, .int .i64 k.x.2.1, .bool k.x.2.2.1, .int .i64 k.x.2.2.2, .bool k.hl, .slice RA3 k.seen.length Rc3] (.int .i64 k.a) rfl (by kernel_rfl) (by kernel_rfl) rfl (by kernel_rfl) (by kernel_rfl) ?_
    refine Sx.G.pure (.bool (g.a == k.a)) (by kernel_rfl) (fun w => by kernel_rfl) ?_
    refine Sx.G.pure (.bool (g.a == k.a)) (by kernel_rfl) (fun w => by kernel_rfl) ?_
    refine Sx.G.pure (.bool (g.a == k.a)) (by kernel_rfl) (fun w => by kernel_rfl) ?_
    cases hc4 : (g.a == k.a)
    · have hb4 := hc4
      refine Sx.G.skip (by kernel_rfl) ?_
      refine Sx.G.skip (by kernel_rfl) ?_
      refine Sx.G.skip (by kernel_rfl) ?_
      refine Sx.G.skip (by kernel_rfl) ?_
      refine Sx.G.skip (by kernel_rfl) ?_
      refine Sx.G.pure (.bool false) (by kernel_rfl) (fun w => by kernel_rfl) ?_
      refine Sx.G.pure (.bool false) (by kernel_rfl) (fun w => by kernel_rfl) ?_
      refine Sx.G.skip (by kernel_rfl) ?_
      refine Sx.G.skip (by kernel_rfl) ?_
      refine Sx.G.skip (by kernel_rfl) ?_
      refine Sx.G.skip (by kernel_rfl) ?_
      refine Sx.G.skip (by kernel_rfl) ?_
      refine Sx.G.pure (.bool false) (by kernel_rfl) (fun w => by kernel_rfl) ?_
      refine Sx.G.pure (.bool false) (by kernel_rfl) (fun w => by kernel_rfl) ?_
      refine Sx.G.skip (by kernel_rfl) ?_
      refine Sx.G.skip (by kernel_rfl) ?_
      refine Sx.G.skip (by kernel_rfl) ?_
      refine Sx.G.skip (by kernel_rfl) ?_
      refine Sx.G.skip (by kernel_rfl) ?_
      refine Sx.G.pure (.bool false) (by kernel_rfl) (fun w => by kernel_rfl) ?_
      refine Sx.G.pure (.bool false) (by kernel_rfl) (fun w => by kernel_rfl) ?_
      refine Sx.G.skip (by kernel_rfl) ?_
      refine Sx.G.skip (by kernel_rfl) ?_
      refine Sx.G.skip (by kernel_rfl) ?_
      refine Sx.G.skip (by kernel_rfl) ?_
      refine Sx.G.skip (by kernel_rfl) ?_
      refine Sx.G.pure (.bool false) (by kernel_rfl) (fun w => by kernel_rfl) ?_
      refine Sx.G.pure (.bool false) (by kernel_rfl) (fun w => by kernel_rfl) ?_
      refine Sx.G.skip (by kernel_rfl) ?_
      refine Sx.G.skip (by kernel_rfl) ?_
      refine Sx.G.skip (by kernel_rfl) ?_
      refine Sx.G.skip (by kernel_rfl) ?_
      refine Sx.G.skip (by kernel_rfl) ?_
      refine Sx.G.pure (.bool false) (by kernel_rfl) (fun w => by kernel_rfl) ?_
      refine Sx.G.pure (.bool false) (by kernel_rfl) (fun w => by kernel_rfl) ?_
      refine Sx.G.skip (by kernel_rfl) ?_
      refine Sx.G.skip (by kernel_rfl) ?_
      refine Sx.G.skip (by kernel_rfl) ?_
      refine Sx.G.skip (by kernel_rfl) ?_
      refine Sx.G.skip (by kernel_rfl) ?_
      refine Sx.G.pure (.bool false) (by kernel_rfl) (fun w => by kernel_rfl) ?_
      refine Sx.G.pure (.bool false) (by kernel_rfl) (fun w => by kernel_rfl) ?_
      refine Sx.G.skip (by kernel_rfl) ?_
      refine Sx.G.skip (by kernel_rfl) ?_
      refine Sx.G.skip (by kernel_rfl) ?_
      refine Sx.G.skip (by kernel_rfl) ?_
      refine Sx.G.skip (by kernel_rfl) ?_
      refine Sx.G.pure (.bool false) (by kernel_rfl) (fun w => by kernel_rfl) ?_
      refine Sx.G.pure (.bool false) (by kernel_rfl) (fun w => by kernel_rfl) ?_
      refine Sx.G.skip (by kernel_rfl) ?_
      refine Sx.G.skip (by kernel_rfl) ?_
      refine Sx.G.skip (by kernel_rfl) ?_
      refine Sx.G.skip (by kernel_rfl) ?_
      refine Sx.G.skip (by kernel_rfl) ?_
      refine Sx.G.pure (.bool false) (by kernel_rfl) (fun w => by kernel_rfl) ?_
      refine Sx.G.pure (.bool false) (by kernel_rfl) (fun w => by kernel_rfl) ?_
      refine Sx.G.nil ?_
      refine Sx.E.next ?_
      refine Sx.C.ret ?_
      refine Sx.E.ret1 (.bool false) rfl (by kernel_rfl) (fun w S => ?_)
      exact ⟨congrArg Ending.returned (congrArg Value.bool (by simp only [sameG, hb3, hb4, Bool.and_true, Bool.and_false, Bool.false_and, Bool.true_and])), S.below⟩
    · have hb4 := hc4
      refine Sx.G.pure (.pointer (some ⟨b1, 2, none⟩)) (by kernel_rfl) (fun w => by kernel_rfl) ?_
      refine Sx.G.ld1 3 (.tmp 18) b1 2 1 [.slice PA0 g.prog.length Pc0, .int .i64 g.a, .int .i64 g.pc, .slice PA1 g.wr.length Pc1, .slice PA2 g.lv.length Pc2, .int .i64 g.t.1, .int .i64 g.t.2.1, .bool g.t.2.2, .int .i64 g.pd, .int .i64 g.x.1, .int .i64 g.x.2.1, .bool g.x.2.2.1, .int .i64 g.x.2.2.2, .bool g.hl, .slice PA3 g.seen.length Pc3] (.int .i64 g.pc) rfl (by kernel_rfl) (by kernel_rfl) rfl (by kernel_rfl) (by kernel_rfl) ?_
      refine Sx.G.pure (.pointer (some ⟨b2, 2, none⟩)) (by kernel_rfl) (fun w => by kernel_rfl) ?_
      refine Sx.G.ld1 3 (.tmp 20) b2 2 0 [.slice RA0 k.prog.length Rc0, .int .i64 k.a, .int .i64 k.pc, .slice RA1 k.wr.length Rc1, .slice RA2 k.lv.length Rc2, .int .i64 k.t.1, .int .i64 k.t.2.1, .bool k.t.2.2, .int .i64 k.pd, .int .i64 k.x.1, .int .i64 k.x.2.1, .bool k.x.2.2.1, .int .i64 k.x.2.2.2, .bool k.hl, .slice RA3 k.seen.length Rc3] (.int .i64 k.pc) rfl (by kernel_rfl) (by kernel_rfl) rfl (by kernel_rfl) (by kernel_rfl) ?_
      refine Sx.G.pure (.bool (g.pc == k.pc)) (by kernel_rfl) (fun w => by kernel_rfl) ?_
      refine Sx.G.pure (.bool (g.pc == k.pc)) (by kernel_rfl) (fun w => by kernel_rfl) ?_
      refine Sx.G.pure (.bool (g.pc == k.pc)) (by kernel_rfl) (fun w => by kernel_rfl) ?_
      cases hc5 : (g.pc == k.pc)
      · have hb5 := hc5
        refine Sx.G.skip (by kernel_rfl) ?_
        refine Sx.G.skip (by kernel_rfl) ?_
        refine Sx.G.skip (by kernel_rfl) ?_
        refine Sx.G.skip (by kernel_rfl) ?_
        refine Sx.G.skip (by kernel_rfl) ?_
        refine Sx.G.pure (.bool false) (by kernel_rfl) (fun w => by kernel_rfl) ?_
        refine Sx.G.pure (.bool false) (by kernel_rfl) (fun w => by kernel_rfl) ?_
        refine Sx.G.skip (by kernel_rfl) ?_
        refine Sx.G.skip (by kernel_rfl) ?_
        refine Sx.G.skip (by kernel_rfl) ?_
        refine Sx.G.skip (by kernel_rfl) ?_
        refine Sx.G.skip (by kernel_rfl) ?_
        refine Sx.G.pure (.bool false) (by kernel_rfl) (fun w => by kernel_rfl) ?_
        refine Sx.G.pure (.bool false) (by kernel_rfl) (fun w => by kernel_rfl) ?_
        refine Sx.G.skip (by kernel_rfl) ?_
        refine Sx.G.skip (by kernel_rfl) ?_
        refine Sx.G.skip (by kernel_rfl) ?_
        refine Sx.G.skip (by kernel_rfl) ?_
        refine Sx.G.skip (by kernel_rfl) ?_
        refine Sx.G.pure (.bool false) (by kernel_rfl) (fun w => by kernel_rfl) ?_
        refine Sx.G.pure (.bool false) (by kernel_rfl) (fun w => by kernel_rfl) ?_
        refine Sx.G.skip (by kernel_rfl) ?_
        refine Sx.G.skip (by kernel_rfl) ?_
        refine Sx.G.skip (by kernel_rfl) ?_
        refine Sx.G.skip (by kernel_rfl) ?_
        refine Sx.G.skip (by kernel_rfl) ?_
        refine Sx.G.pure (.bool false) (by kernel_rfl) (fun w => by kernel_rfl) ?_
        refine Sx.G.pure (.bool false) (by kernel_rfl) (fun w => by kernel_rfl) ?_
        refine Sx.G.skip (by kernel_rfl) ?_
        refine Sx.G.skip (by kernel_rfl) ?_
        refine Sx.G.skip (by kernel_rfl) ?_
        refine Sx.G.skip (by kernel_rfl) ?_
        refine Sx.G.skip (by kernel_rfl) ?_
        refine Sx.G.pure (.bool false) (by kernel_rfl) (fun w => by kernel_rfl) ?_
        refine Sx.G.pure (.bool false) (by kernel_rfl) (fun w => by kernel_rfl) ?_
        refine Sx.G.skip (by kernel_rfl) ?_
        refine Sx.G.skip (by kernel_rfl) ?_
        refine Sx.G.skip (by kernel_rfl) ?_
        refine Sx.G.skip (by kernel_rfl) ?_
        refine Sx.G.skip (by kernel_rfl) ?_
        refine Sx.G.pure (.bool false) (by kernel_rfl) (fun w => by kernel_rfl) ?_
        refine Sx.G.pure (.bool false) (by kernel_rfl) (fun w => by kernel_rfl) ?_
        refine Sx.G.skip (by kernel_rfl) ?_
        refine Sx.G.skip (by kernel_rfl) ?_
        refine Sx.G.skip (by kernel_rfl) ?_
        refine Sx.G.skip (by kernel_rfl) ?_
        refine Sx.G.skip (by kernel_rfl) ?_
        refine Sx.G.pure (.bool false) (by kernel_rfl) (fun w => by kernel_rfl) ?_
        refine Sx.G.pure (.bool false) (by kernel_rfl) (fun w => by kernel_rfl) ?_
        refine Sx.G.nil ?_
        refine Sx.E.next ?_
        refine Sx.C.ret ?_
        refine Sx.E.ret1 (.bool false) rfl (by kernel_rfl) (fun w S => ?_)
        exact ⟨congrArg Ending.returned (congrArg Value.bool (by simp only [sameG, hb3, hb4, hb5, Bool.and_true, Bool.and_false, Bool.false_and, Bool.true_and])), S.below⟩
      · have hb5 := hc5
        refine Sx.G.pure (.pointer (some ⟨b1, 3, none⟩)) (by kernel_rfl) (fun w => by kernel_rfl) ?_
        refine Sx.G.ld1 25 (.tmp 25) b1 3 1 [.slice PA0 g.prog.length Pc0, .int .i64 g.a, .int .i64 g.pc, .slice PA1 g.wr.length Pc1, .slice PA2 g.lv.length Pc2, .int .i64 g.t.1, .int .i64 g.t.2.1, .bool g.t.2.2, .int .i64 g.pd, .int .i64 g.x.1, .int .i64 g.x.2.1, .bool g.x.2.2.1, .int .i64 g.x.2.2.2, .bool g.hl, .slice PA3 g.seen.length Pc3] (.slice PA1 g.wr.length Pc1) rfl (by kernel_rfl) (by kernel_rfl) rfl (by kernel_rfl) (by kernel_rfl) ?_
        refine Sx.G.pure (.pointer (some ⟨b2, 3, none⟩)) (by kernel_rfl) (fun w => by kernel_rfl) ?_
        refine Sx.G.ld1 25 (.tmp 27) b2 3 0 [.slice RA0 k.prog.length Rc0, .int .i64 k.a, .int .i64 k.pc, .slice RA1 k.wr.length Rc1, .slice RA2 k.lv.length Rc2, .int .i64 k.t.1, .int .i64 k.t.2.1, .bool k.t.2.2, .int .i64 k.pd, .int .i64 k.x.1, .int .i64 k.x.2.1, .bool k.x.2.2.1, .int .i64 k.x.2.2.2, .bool k.hl, .slice RA3 k.seen.length Rc3] (.slice RA1 k.wr.length Rc1) rfl (by kernel_rfl) (by kernel_rfl) rfl (by kernel_rfl) (by kernel_rfl) ?_
        refine Sx.G.plain 33 #[.slice PA1 g.wr.length Pc1, .slice RA1 k.wr.length Rc1] (.bool (decide (g.wr = k.wr))) (by kernel_rfl) (fun w => by kernel_rfl) (fun w S => by exact ((Slots.law_same PA1 RA1 g.wr.length k.wr.length Pc1 Rc1 0 0 _ _ g.wr k.wr _ q1 p1 rfl rfl (by rw [← pcells_s]; exact p2_lies (St.old S h1)) (by rw [← pcells_s]; exact p2_lies (St.old S j1))).mono fun e w' h => And.intro h.1 (drew_below h.2))) ?_
        refine Sx.G.pure (.bool (decide (g.wr = k.wr))) (by kernel_rfl) (fun w => by kernel_rfl) ?_
        refine Sx.G.pure (.bool (decide (g.wr = k.wr))) (by kernel_rfl) (fun w => by kernel_rfl) ?_
        cases hc6 : (decide (g.wr = k.wr))
        · have hb6 := hc6
          replace hc6 := of_decide_eq_false hc6
          refine Sx.G.skip (by kernel_rfl) ?_
          refine Sx.G.skip (by kernel_rfl) ?_
          refine Sx.G.skip (by kernel_rfl) ?_
          refine Sx.G.skip (by kernel_rfl) ?_
          refine Sx.G.skip (by kernel_rfl) ?_
          refine Sx.G.pure (.bool false) (by kernel_rfl) (fun w => by kernel_rfl) ?_
          refine Sx.G.pure (.bool false) (by kernel_rfl) (fun w => by kernel_rfl) ?_
          refine Sx.G.skip (by kernel_rfl) ?_
          refine Sx.G.skip (by kernel_rfl) ?_
          refine Sx.G.skip (by kernel_rfl) ?_
          refine Sx.G.skip (by kernel_rfl) ?_
          refine Sx.G.skip (by kernel_rfl) ?_
          refine Sx.G.pure (.bool false) (by kernel_rfl) (fun w => by kernel_rfl) ?_
          refine Sx.G.pure (.bool false) (by kernel_rfl) (fun w => by kernel_rfl) ?_
          refine Sx.G.skip (by kernel_rfl) ?_
          refine Sx.G.skip (by kernel_rfl) ?_
          refine Sx.G.skip (by kernel_rfl) ?_
          refine Sx.G.skip (by kernel_rfl) ?_
          refine Sx.G.skip (by kernel_rfl) ?_
          refine Sx.G.pure (.bool false) (by kernel_rfl) (fun w => by kernel_rfl) ?_
          refine Sx.G.pure (.bool false) (by kernel_rfl) (fun w => by kernel_rfl) ?_
          refine Sx.G.skip (by kernel_rfl) ?_
          refine Sx.G.skip (by kernel_rfl) ?_
          refine Sx.G.skip (by kernel_rfl) ?_
          refine Sx.G.skip (by kernel_rfl) ?_
          refine Sx.G.skip (by kernel_rfl) ?_
          refine Sx.G.pure (.bool false) (by kernel_rfl) (fun w => by kernel_rfl) ?_
          refine Sx.G.pure (.bool false) (by kernel_rfl) (fun w => by kernel_rfl) ?_
          refine Sx.G.skip (by kernel_rfl) ?_
          refine Sx.G.skip (by kernel_rfl) ?_
          refine Sx.G.skip (by kernel_rfl) ?_
          refine Sx.G.skip (by kernel_rfl) ?_
          refine Sx.G.skip (by kernel_rfl) ?_
          refine Sx.G.pure (.bool false) (by kernel_rfl) (fun w => by kernel_rfl) ?_
          refine Sx.G.pure (.bool false) (by kernel_rfl) (fun w => by kernel_rfl) ?_
          refine Sx.G.skip (by kernel_rfl) ?_
          refine Sx.G.skip (by kernel_rfl) ?_
          refine Sx.G.skip (by kernel_rfl) ?_
          refine Sx.G.skip (by kernel_rfl) ?_
          refine Sx.G.skip (by kernel_rfl) ?_
          refine Sx.G.pure (.bool false) (by kernel_rfl) (fun w => by kernel_rfl) ?_
          refine Sx.G.pure (.bool false) (by kernel_rfl) (fun w => by kernel_rfl) ?_
          refine Sx.G.nil ?_
          refine Sx.E.next ?_
          refine Sx.C.ret ?_
          refine Sx.E.ret1 (.bool false) rfl (by kernel_rfl) (fun w S => ?_)
          exact ⟨congrArg Ending.returned (congrArg Value.bool (by simp only [sameG, hb3, hb4, hb5, hb6, Bool.and_true, Bool.and_false, Bool.false_and, Bool.true_and])), S.below⟩
        · have hb6 := hc6
          replace hc6 := of_decide_eq_true hc6
          refine Sx.G.pure (.pointer (some ⟨b1, 4, none⟩)) (by kernel_rfl) (fun w => by kernel_rfl) ?_
          refine Sx.G.ld1 25 (.tmp 32) b1 4 1 [.slice PA0 g.prog.length Pc0, .int .i64 g.a, .int .i64 g.pc, .slice PA1 g.wr.length Pc1, .slice PA2 g.lv.length Pc2, .int .i64 g.t.1, .int .i64 g.t.2.1, .bool g.t.2.2, .int .i64 g.pd, .int .i64 g.x.1, .int .i64 g.x.2.1, .bool g.x.2.2.1, .int .i64 g.x.2.2.2, .bool g.hl, .slice PA3 g.seen.length Pc3] (.slice PA2 g.lv.length Pc2) rfl (by kernel_rfl) (by kernel_rfl) rfl (by kernel_rfl) (by kernel_rfl) ?_
          refine Sx.G.pure (.pointer (some ⟨b2, 4, none⟩)) (by kernel_rfl) (fun w => by kernel_rfl) ?_
          refine Sx.G.ld1 25 (.tmp 34) b2 4 0 [.slice RA0 k.prog.length Rc0, .int .i64 k.a, .int .i64 k.pc, .slice RA1 k.wr.length Rc1, .slice RA2 k.lv.length Rc2, .int .i64 k.t.1, .int .i64 k.t.2.1, .bool k.t.2.2, .int .i64 k.pd, .int .i64 k.x.1, .int .i64 k.x.2.1, .bool k.x.2.2.1, .int .i64 k.x.2.2.2, .bool k.hl, .slice RA3 k.seen.length Rc3] (.slice RA2 k.lv.length Rc2) rfl (by kernel_rfl) (by kernel_rfl) rfl (by kernel_rfl) (by kernel_rfl) ?_
          refine Sx.G.plain 33 #[.slice PA2 g.lv.length Pc2, .slice RA2 k.lv.length Rc2] (.bool (decide (g.lv = k.lv))) (by kernel_rfl) (fun w => by kernel_rfl) (fun w S => by exact ((Slots.law_same PA2 RA2 g.lv.length k.lv.length Pc2 Rc2 0 0 _ _ g.lv k.lv _ q2 p2 rfl rfl (by rw [← pcells_s]; exact p2_lies (St.old S h2)) (by rw [← pcells_s]; exact p2_lies (St.old S j2))).mono fun e w' h => And.intro h.1 (drew_below h.2))) ?_
          refine Sx.G.pure (.bool (decide (g.lv = k.lv))) (by kernel_rfl) (fun w => by kernel_rfl) ?_
          refine Sx.G.pure (.bool (decide (g.lv = k.lv))) (by kernel_rfl) (fun w => by kernel_rfl) ?_
          cases hc7 : (decide (g.lv = k.lv))
          · have hb7 := hc7
            replace hc7 := of_decide_eq_false hc7
            refine Sx.G.skip (by kernel_rfl) ?_
            refine Sx.G.skip (by kernel_rfl) ?_
            refine Sx.G.skip (by kernel_rfl) ?_
            refine Sx.G.skip (by kernel_rfl) ?_
            refine Sx.G.skip (by kernel_rfl) ?_
            refine Sx.G.pure (.bool false) (by kernel_rfl) (fun w => by kernel_rfl) ?_
            refine Sx.G.pure (.bool false) (by kernel_rfl) (fun w => by kernel_rfl) ?_
            refine Sx.G.skip (by kernel_rfl) ?_
            refine Sx.G.skip (by kernel_rfl) ?_
            refine Sx.G.skip (by kernel_rfl) ?_
            refine Sx.G.skip (by kernel_rfl) ?_
            refine Sx.G.skip (by kernel_rfl) ?_
            refine Sx.G.pure (.bool false) (by kernel_rfl) (fun w => by kernel_rfl) ?_
            refine Sx.G.pure (.bool false) (by kernel_rfl) (fun w => by kernel_rfl) ?_
            refine Sx.G.skip (by kernel_rfl) ?_
            refine Sx.G.skip (by kernel_rfl) ?_
            refine Sx.G.skip (by kernel_rfl) ?_
            refine Sx.G.skip (by kernel_rfl) ?_
            refine Sx.G.skip (by kernel_rfl) ?_
            refine Sx.G.pure (.bool false) (by kernel_rfl) (fun w => by kernel_rfl) ?_
            refine Sx.G.pure (.bool false) (by kernel_rfl) (fun w => by kernel_rfl) ?_
            refine Sx.G.skip (by kernel_rfl) ?_
            refine Sx.G.skip (by kernel_rfl) ?_
            refine Sx.G.skip (by kernel_rfl) ?_
            refine Sx.G.skip (by kernel_rfl) ?_
            refine Sx.G.skip (by kernel_rfl) ?_
            refine Sx.G.pure (.bool false) (by kernel_rfl) (fun w => by kernel_rfl) ?_
            refine Sx.G.pure (.bool false) (by kernel_rfl) (fun w => by kernel_rfl) ?_
            refine Sx.G.skip (by kernel_rfl) ?_
            refine Sx.G.skip (by kernel_rfl) ?_
            refine Sx.G.skip (by kernel_rfl) ?_
            refine Sx.G.skip (by kernel_rfl) ?_
            refine Sx.G.skip (by kernel_rfl) ?_
            refine Sx.G.pure (.bool false) (by kernel_rfl) (fun w => by kernel_rfl) ?_
            refine Sx.G.pure (.bool false) (by kernel_rfl) (fun w => by kernel_rfl) ?_
            refine Sx.G.nil ?_
            refine Sx.E.next ?_
            refine Sx.C.ret ?_
            refine Sx.E.ret1 (.bool false) rfl (by kernel_rfl) (fun w S => ?_)
            exact ⟨congrArg Ending.returned (congrArg Value.bool (by simp only [sameG, hb3, hb4, hb5, hb6, hb7, Bool.and_true, Bool.and_false, Bool.false_and, Bool.true_and])), S.below⟩
          · have hb7 := hc7
            replace hc7 := of_decide_eq_true hc7
            refine Sx.G.pure (.pointer (some ⟨b1, 5, none⟩)) (by kernel_rfl) (fun w => by kernel_rfl) ?_
            refine Sx.G.ld 27 (.tmp 39) b1 5 1 [.slice PA0 g.prog.length Pc0, .int .i64 g.a, .int .i64 g.pc, .slice PA1 g.wr.length Pc1, .slice PA2 g.lv.length Pc2, .int .i64 g.t.1, .int .i64 g.t.2.1, .bool g.t.2.2, .int .i64 g.pd, .int .i64 g.x.1, .int .i64 g.x.2.1, .bool g.x.2.2.1, .int .i64 g.x.2.2.2, .bool g.hl, .slice PA3 g.seen.length Pc3] [.int .i64 g.t.1, .int .i64 g.t.2.1, .bool g.t.2.2] rfl (by kernel_rfl) (by kernel_rfl) rfl (by kernel_rfl) (by kernel_rfl) (by kernel_rfl) ?_
            refine Sx.G.pure (.pointer (some ⟨b2, 5, none⟩)) (by kernel_rfl) (fun w => by kernel_rfl) ?_
            refine Sx.G.ld 27 (.tmp 41) b2 5 0 [.slice RA0 k.prog.length Rc0, .int .i64 k.a, .int .i64 k.pc, .slice RA1 k.wr.length Rc1, .slice RA2 k.lv.length Rc2, .int .i64 k.t.1, .int .i64 k.t.2.1, .bool k.t.2.2, .int .i64 k.pd, .int .i64 k.x.1, .int .i64 k.x.2.1, .bool k.x.2.2.1, .int .i64 k.x.2.2.2, .bool k.hl, .slice RA3 k.seen.length Rc3] [.int .i64 k.t.1, .int .i64 k.t.2.1, .bool k.t.2.2] rfl (by kernel_rfl) (by kernel_rfl) rfl (by kernel_rfl) (by kernel_rfl) (by kernel_rfl) ?_
            refine Sx.G.pure (.bool ((g.t.1 == k.t.1 && g.t.2.1 == k.t.2.1 && g.t.2.2 == k.t.2.2))) (by kernel_rfl) (fun w => Sx.run_eqs rfl rfl rfl (by kernel_rfl) (fun w => eqv_Ctl_eql g.t.1 g.t.2.1 g.t.2.2 k.t.1 k.t.2.1 k.t.2.2 w) w) ?_
            refine Sx.G.pure (.bool ((g.t.1 == k.t.1 && g.t.2.1 == k.t.2.1 && g.t.2.2 == k.t.2.2))) (by kernel_rfl) (fun w => by kernel_rfl) ?_
            refine Sx.G.pure (.bool ((g.t.1 == k.t.1 && g.t.2.1 == k.t.2.1 && g.t.2.2 == k.t.2.2))) (by kernel_rfl) (fun w => by kernel_rfl) ?_
            cases hc8 : ((g.t.1 == k.t.1 && g.t.2.1 == k.t.2.1 && g.t.2.2 == k.t.2.2))
            · have hb8 := hc8
              refine Sx.G.skip (by kernel_rfl) ?_
              refine Sx.G.skip (by kernel_rfl) ?_
              refine Sx.G.skip (by kernel_rfl) ?_
              refine Sx.G.skip (by kernel_rfl) ?_
              refine Sx.G.skip (by kernel_rfl) ?_
              refine Sx.G.pure (.bool false) (by kernel_rfl) (fun w => by kernel_rfl) ?_
              refine Sx.G.pure (.bool false) (by kernel_rfl) (fun w => by kernel_rfl) ?_
              refine Sx.G.skip (by kernel_rfl) ?_
              refine Sx.G.skip (by kernel_rfl) ?_
              refine Sx.G.skip (by kernel_rfl) ?_
              refine Sx.G.skip (by kernel_rfl) ?_
              refine Sx.G.skip (by kernel_rfl) ?_
              refine Sx.G.pure (.bool false) (by kernel_rfl) (fun w => by kernel_rfl) ?_
              refine Sx.G.pure (.bool false) (by kernel_rfl) (fun w => by kernel_rfl) ?_
              refine Sx.G.skip (by kernel_rfl) ?_
              refine Sx.G.skip (by kernel_rfl) ?_
              refine Sx.G.skip (by kernel_rfl) ?_
              refine Sx.G.skip (by kernel_rfl) ?_
              refine Sx.G.skip (by kernel_rfl) ?_
              refine Sx.G.pure (.bool false) (by kernel_rfl) (fun w => by kernel_rfl) ?_
              refine Sx.G.pure (.bool false) (by kernel_rfl) (fun w => by kernel_rfl) ?_
              refine Sx.G.skip (by kernel_rfl) ?_
              refine Sx.G.skip (by kernel_rfl) ?_
              refine Sx.G.skip (by kernel_rfl) ?_
              refine Sx.G.skip (by kernel_rfl) ?_
              refine Sx.G.skip (by kernel_rfl) ?_
              refine Sx.G.pure (.bool false) (by kernel_rfl) (fun w => by kernel_rfl) ?_
              refine Sx.G.pure (.bool false) (by kernel_rfl) (fun w => by kernel_rfl) ?_
              refine Sx.G.nil ?_
              refine Sx.E.next ?_
              refine Sx.C.ret ?_
              refine Sx.E.ret1 (.bool false) rfl (by kernel_rfl) (fun w S => ?_)
              exact ⟨congrArg Ending.returned (congrArg Value.bool (by simp only [sameG, hb3, hb4, hb5, hb6, hb7, hb8, Bool.and_true, Bool.and_false, Bool.false_and, Bool.true_and])), S.below⟩
            · have hb8 := hc8
              refine Sx.G.pure (.pointer (some ⟨b1, 8, none⟩)) (by kernel_rfl) (fun w => by kernel_rfl) ?_
              refine Sx.G.ld1 3 (.tmp 46) b1 8 1 [.slice PA0 g.prog.length Pc0, .int .i64 g.a, .int .i64 g.pc, .slice PA1 g.wr.length Pc1, .slice PA2 g.lv.length Pc2, .int .i64 g.t.1, .int .i64 g.t.2.1, .bool g.t.2.2, .int .i64 g.pd, .int .i64 g.x.1, .int .i64 g.x.2.1, .bool g.x.2.2.1, .int .i64 g.x.2.2.2, .bool g.hl, .slice PA3 g.seen.length Pc3] (.int .i64 g.pd) rfl (by kernel_rfl) (by kernel_rfl) rfl (by kernel_rfl) (by kernel_rfl) ?_
              refine Sx.G.pure (.pointer (some ⟨b2, 8, none⟩)) (by kernel_rfl) (fun w => by kernel_rfl) ?_
              refine Sx.G.ld1 3 (.tmp 48) b2 8 0 [.slice RA0 k.prog.length Rc0, .int .i64 k.a, .int .i64 k.pc, .slice RA1 k.wr.length Rc1, .slice RA2 k.lv.length Rc2, .int .i64 k.t.1, .int .i64 k.t.2.1, .bool k.t.2.2, .int .i64 k.pd, .int .i64 k.x.1, .int .i64 k.x.2.1, .bool k.x.2.2.1, .int .i64 k.x.2.2.2, .bool k.hl, .slice RA3 k.seen.length Rc3] (.int .i64 k.pd) rfl (by kernel_rfl) (by kernel_rfl) rfl (by kernel_rfl) (by kernel_rfl) ?_
              refine Sx.G.pure (.bool (g.pd == k.pd)) (by kernel_rfl) (fun w => by kernel_rfl) ?_
              refine Sx.G.pure (.bool (g.pd == k.pd)) (by kernel_rfl) (fun w => by kernel_rfl) ?_
              refine Sx.G.pure (.bool (g.pd == k.pd)) (by kernel_rfl) (fun w => by kernel_rfl) ?_
              cases hc9 : (g.pd == k.pd)
              · have hb9 := hc9
                refine Sx.G.skip (by kernel_rfl) ?_
                refine Sx.G.skip (by kernel_rfl) ?_
                refine Sx.G.skip (by kernel_rfl) ?_
                refine Sx.G.skip (by kernel_rfl) ?_
                refine Sx.G.skip (by kernel_rfl) ?_
                refine Sx.G.pure (.bool false) (by kernel_rfl) (fun w => by kernel_rfl) ?_
                refine Sx.G.pure (.bool false) (by kernel_rfl) (fun w => by kernel_rfl) ?_
                refine Sx.G.skip (by kernel_rfl) ?_
                refine Sx.G.skip (by kernel_rfl) ?_
                refine Sx.G.skip (by kernel_rfl) ?_
                refine Sx.G.skip (by kernel_rfl) ?_
                refine Sx.G.skip (by kernel_rfl) ?_
                refine Sx.G.pure (.bool false) (by kernel_rfl) (fun w => by kernel_rfl) ?_
                refine Sx.G.pure (.bool false) (by kernel_rfl) (fun w => by kernel_rfl) ?_
                refine Sx.G.skip (by kernel_rfl) ?_
                refine Sx.G.skip (by kernel_rfl) ?_
                refine Sx.G.skip (by kernel_rfl) ?_
                refine Sx.G.skip (by kernel_rfl) ?_
                refine Sx.G.skip (by kernel_rfl) ?_
                refine Sx.G.pure (.bool false) (by kernel_rfl) (fun w => by kernel_rfl) ?_
                refine Sx.G.pure (.bool false) (by kernel_rfl) (fun w => by kernel_rfl) ?_
                refine Sx.G.nil ?_
                refine Sx.E.next ?_
                refine Sx.C.ret ?_
                refine Sx.E.ret1 (.bool false) rfl (by kernel_rfl) (fun w S => ?_)
                exact ⟨congrArg Ending.returned (congrArg Value.bool (by simp only [sameG, hb3, hb4, hb5, hb6, hb7, hb8, hb9, Bool.and_true, Bool.and_false, Bool.false_and, Bool.true_and])), S.below⟩
              · have hb9 := hc9
                refine Sx.G.pure (.pointer (some ⟨b1, 9, none⟩)) (by kernel_rfl) (fun w => by kernel_rfl) ?_
                refine Sx.G.ld 29 (.tmp 53) b1 9 1 [.slice PA0 g.prog.length Pc0, .int .i64 g.a, .int .i64 g.pc, .slice PA1 g.wr.length Pc1, .slice PA2 g.lv.length Pc2, .int .i64 g.t.1, .int .i64 g.t.2.1, .bool g.t.2.2, .int .i64 g.pd, .int .i64 g.x.1, .int .i64 g.x.2.1, .bool g.x.2.2.1, .int .i64 g.x.2.2.2, .bool g.hl, .slice PA3 g.seen.length Pc3] [.int .i64 g.x.1, .int .i64 g.x.2.1, .bool g.x.2.2.1, .int .i64 g.x.2.2.2] rfl (by kernel_rfl) (by kernel_rfl) rfl (by kernel_rfl) (by kernel_rfl) (by kernel_rfl) ?_
                refine Sx.G.pure (.pointer (some ⟨b2, 9, none⟩)) (by kernel_rfl) (fun w => by kernel_rfl) ?_
                refine Sx.G.ld 29 (.tmp 55) b2 9 0 [.slice RA0 k.prog.length Rc0, .int .i64 k.a, .int .i64 k.pc, .slice RA1 k.wr.length Rc1, .slice RA2 k.lv.length Rc2, .int .i64 k.t.1, .int .i64 k.t.2.1, .bool k.t.2.2, .int .i64 k.pd, .int .i64 k.x.1, .int .i64 k.x.2.1, .bool k.x.2.2.1, .int .i64 k.x.2.2.2, .bool k.hl, .slice RA3 k.seen.length Rc3] [.int .i64 k.x.1, .int .i64 k.x.2.1, .bool k.x.2.2.1, .int .i64 k.x.2.2.2] rfl (by kernel_rfl) (by kernel_rfl) rfl (by kernel_rfl) (by kernel_rfl) (by kernel_rfl) ?_
                refine Sx.G.pure (.bool ((g.x.1 == k.x.1 && g.x.2.1 == k.x.2.1 && g.x.2.2.1 == k.x.2.2.1 && g.x.2.2.2 == k.x.2.2.2))) (by kernel_rfl) (fun w => Sx.run_eqs rfl rfl rfl (by kernel_rfl) (fun w => eqv_Exit_eql g.x.1 g.x.2.1 g.x.2.2.1 g.x.2.2.2 k.x.1 k.x.2.1 k.x.2.2.1 k.x.2.2.2 w) w) ?_
                refine Sx.G.pure (.bool ((g.x.1 == k.x.1 && g.x.2.1 == k.x.2.1 && g.x.2.2.1 == k.x.2.2.1 && g.x.2.2.2 == k.x.2.2.2))) (by kernel_rfl) (fun w => by kernel_rfl) ?_
                refine Sx.G.pure (.bool ((g.x.1 == k.x.1 && g.x.2.1 == k.x.2.1 && g.x.2.2.1 == k.x.2.2.1 && g.x.2.2.2 == k.x.2.2.2))) (by kernel_rfl) (fun w => by kernel_rfl) ?_
                cases hc10 : ((g.x.1 == k.x.1 && g.x.2.1 == k.x.2.1 && g.x.2.2.1 == k.x.2.2.1 && g.x.2.2.2 == k.x.2.2.2))
                · have hb10 := hc10
                  refine Sx.G.skip (by kernel_rfl) ?_
                  refine Sx.G.skip (by kernel_rfl) ?_
                  refine Sx.G.skip (by kernel_rfl) ?_
                  refine Sx.G.skip (by kernel_rfl) ?_
                  refine Sx.G.skip (by kernel_rfl) ?_
                  refine Sx.G.pure (.bool false) (by kernel_rfl) (fun w => by kernel_rfl) ?_
                  refine Sx.G.pure (.bool false) (by kernel_rfl) (fun w => by kernel_rfl) ?_
                  refine Sx.G.skip (by kernel_rfl) ?_
                  refine Sx.G.skip (by kernel_rfl) ?_
                  refine Sx.G.skip (by kernel_rfl) ?_
                  refine Sx.G.skip (by kernel_rfl) ?_
                  refine Sx.G.skip (by kernel_rfl) ?_
                  refine Sx.G.pure (.bool false) (by kernel_rfl) (fun w => by kernel_rfl) ?_
                  refine Sx.G.pure (.bool false) (by kernel_rfl) (fun w => by kernel_rfl) ?_
                  refine Sx.G.nil ?_
                  refine Sx.E.next ?_
                  refine Sx.C.ret ?_
                  refine Sx.E.ret1 (.bool false) rfl (by kernel_rfl) (fun w S => ?_)
                  exact ⟨congrArg Ending.returned (congrArg Value.bool (by simp only [sameG, hb3, hb4, hb5, hb6, hb7, hb8, hb9, hb10, Bool.and_true, Bool.and_false, Bool.false_and, Bool.true_and])), S.below⟩
                · have hb10 := hc10
                  refine Sx.G.pure (.pointer (some ⟨b1, 13, none⟩)) (by kernel_rfl) (fun w => by kernel_rfl) ?_
                  refine Sx.G.ld1 4 (.tmp 60) b1 13 1 [.slice PA0 g.prog.length Pc0, .int .i64 g.a, .int .i64 g.pc, .slice PA1 g.wr.length Pc1, .slice PA2 g.lv.length Pc2, .int .i64 g.t.1, .int .i64 g.t.2.1, .bool g.t.2.2, .int .i64 g.pd, .int .i64 g.x.1, .int .i64 g.x.2.1, .bool g.x.2.2.1, .int .i64 g.x.2.2.2, .bool g.hl, .slice PA3 g.seen.length Pc3] (.bool g.hl) rfl (by kernel_rfl) (by kernel_rfl) rfl (by kernel_rfl) (by kernel_rfl) ?_
                  refine Sx.G.pure (.pointer (some ⟨b2, 13, none⟩)) (by kernel_rfl) (fun w => by kernel_rfl) ?_
                  refine Sx.G.ld1 4 (.tmp 62) b2 13 0 [.slice RA0 k.prog.length Rc0, .int .i64 k.a, .int .i64 k.pc, .slice RA1 k.wr.length Rc1, .slice RA2 k.lv.length Rc2, .int .i64 k.t.1, .int .i64 k.t.2.1, .bool k.t.2.2, .int .i64 k.pd, .int .i64 k.x.1, .int .i64 k.x.2.1, .bool k.x.2.2.1, .int .i64 k.x.2.2.2, .bool k.hl, .slice RA3 k.seen.length Rc3] (.bool k.hl) rfl (by kernel_rfl) (by kernel_rfl) rfl (by kernel_rfl) (by kernel_rfl) ?_
                  refine Sx.G.pure (.bool (g.hl == k.hl)) (by kernel_rfl) (fun w => by kernel_rfl) ?_
                  refine Sx.G.pure (.bool (g.hl == k.hl)) (by kernel_rfl) (fun w => by kernel_rfl) ?_
                  refine Sx.G.pure (.bool (g.hl == k.hl)) (by kernel_rfl) (fun w => by kernel_rfl) ?_
                  cases hc11 : (g.hl == k.hl)
                  · have hb11 := hc11
                    refine Sx.G.skip (by kernel_rfl) ?_
                    refine Sx.G.skip (by kernel_rfl) ?_
                    refine Sx.G.skip (by kernel_rfl) ?_
                    refine Sx.G.skip (by kernel_rfl) ?_
                    refine Sx.G.skip (by kernel_rfl) ?_
                    refine Sx.G.pure (.bool false) (by kernel_rfl) (fun w => by kernel_rfl) ?_
                    refine Sx.G.pure (.bool false) (by kernel_rfl) (fun w => by kernel_rfl) ?_
                    refine Sx.G.nil ?_
                    refine Sx.E.next ?_
                    refine Sx.C.ret ?_
                    refine Sx.E.ret1 (.bool false) rfl (by kernel_rfl) (fun w S => ?_)
                    exact ⟨congrArg Ending.returned (congrArg Value.bool (by simp only [sameG, hb3, hb4, hb5, hb6, hb7, hb8, hb9, hb10, hb11, Bool.and_true, Bool.and_false, Bool.false_and, Bool.true_and])), S.below⟩
                  · have hb11 := hc11
                    refine Sx.G.pure (.pointer (some ⟨b1, 14, none⟩)) (by kernel_rfl) (fun w => by kernel_rfl) ?_
                    refine Sx.G.ld1 30 (.tmp 67) b1 14 1 [.slice PA0 g.prog.length Pc0, .int .i64 g.a, .int .i64 g.pc, .slice PA1 g.wr.length Pc1, .slice PA2 g.lv.length Pc2, .int .i64 g.t.1, .int .i64 g.t.2.1, .bool g.t.2.2, .int .i64 g.pd, .int .i64 g.x.1, .int .i64 g.x.2.1, .bool g.x.2.2.1, .int .i64 g.x.2.2.2, .bool g.hl, .slice PA3 g.seen.length Pc3] (.slice PA3 g.seen.length Pc3) rfl (by kernel_rfl) (by kernel_rfl) rfl (by kernel_rfl) (by kernel_rfl) ?_
                    refine Sx.G.pure (.pointer (some ⟨b2, 14, none⟩)) (by kernel_rfl) (fun w => by kernel_rfl) ?_
                    refine Sx.G.ld1 30 (.tmp 69) b2 14 0 [.slice RA0 k.prog.length Rc0, .int .i64 k.a, .int .i64 k.pc, .slice RA1 k.wr.length Rc1, .slice RA2 k.lv.length Rc2, .int .i64 k.t.1, .int .i64 k.t.2.1, .bool k.t.2.2, .int .i64 k.pd, .int .i64 k.x.1, .int .i64 k.x.2.1, .bool k.x.2.2.1, .int .i64 k.x.2.2.2, .bool k.hl, .slice RA3 k.seen.length Rc3] (.slice RA3 k.seen.length Rc3) rfl (by kernel_rfl) (by kernel_rfl) rfl (by kernel_rfl) (by kernel_rfl) ?_
                    refine Sx.G.plain 50 #[.slice PA3 g.seen.length Pc3, .slice RA3 k.seen.length Rc3] (.bool (decide (g.seen = k.seen))) (by kernel_rfl) (fun w => by kernel_rfl) (fun w S => by exact ((Grid.law_ints PA3 RA3 g.seen.length k.seen.length Pc3 Rc3 0 0 _ _ g.seen k.seen _ q3 p3 rfl rfl (i1_lies (St.old S h3)) (i1_lies (St.old S j3))).mono fun e w' h => And.intro h.1 (drew_below h.2))) ?_
                    refine Sx.G.pure (.bool (decide (g.seen = k.seen))) (by kernel_rfl) (fun w => by kernel_rfl) ?_
                    refine Sx.G.pure (.bool (decide (g.seen = k.seen))) (by kernel_rfl) (fun w => by kernel_rfl) ?_
                    refine Sx.G.nil ?_
                    refine Sx.E.next ?_
                    refine Sx.C.ret ?_
                    refine Sx.E.ret1 (.bool (decide (g.seen = k.seen))) rfl (by kernel_rfl) (fun w S => ?_)
                    exact ⟨congrArg Ending.returned (congrArg Value.bool (by simp only [sameG, hb3, hb4, hb5, hb6, hb7, hb8, hb9, hb10, hb11, Bool.and_true, Bool.and_false, Bool.false_and, Bool.true_and])), S.below⟩
end Go.Proofs.Ytdbhfadiinmgiaa.Guests
namespace Go.Proofs.Ytdbhfadiinmgiaa.Guests
set_option maxRecDepth 100000
open Go.ChangeShapes Go.WideShapes Go.ChangeAt Go.RowKit
open Go.Proofs.Ytdbhfadiinmgiaa.Base Go.Proofs.Ytdbhfadiinmgiaa.Mem Go.Proofs.Ytdbhfadiinmgiaa.Data Go.Proofs.Ytdbhfadiinmgiaa.Slots Go.Proofs.Ytdbhfadiinmgiaa.Ints Go.Proofs.Ytdbhfadiinmgiaa.Ctls Go.Proofs.Ytdbhfadiinmgiaa.Exits Go.Proofs.Ytdbhfadiinmgiaa.Stt Go.Proofs.Ytdbhfadiinmgiaa.Part
set_option linter.unusedVariables false
section
variable {w : World} {lo hi : Nat} {P : Value} {F : List Nat}
theorem so_p2 {l : List (Int × Int)} (h : SO w lo hi (pcells l) l.length P) : rdLst (rPair rInt rInt) w lo hi l [P] := by
  obtain ⟨A, c, rfl, hc, ho⟩ := h
  exact ⟨A, c, pcells l, rfl, hc, p2_all w lo hi l, ho.1⟩
theorem so_i1 {l : List Int} (h : SO w lo hi (ncells l) l.length P) : rdLst rInt w lo hi l [P] := by
  obtain ⟨A, c, rfl, hc, ho⟩ := h
  exact ⟨A, c, icells l, rfl, hc, i1_all w lo hi l, ho.1⟩
theorem bl_row {P : Value} {k : Nat} (hk : k ∈ bl P) : P.ownBlock = some k := by
  unfold bl at hk
  split at hk
  · split at hk
    · cases hk
    · simp at hk; subst hk; rfl
  · cases hk
theorem p2_so {e : TypeId} {l : List (Int × Int)} (h : (rLst e (rPair rInt rInt)).own w lo hi l [P] F) : SO w lo hi (pcells l) l.length P ∧ ∀ k ∈ bl P, k ∈ F := by
  obtain ⟨v, ds, F1, e1, rfl, h1, h2, h3⟩ := h
  cases e1
  obtain ⟨A, c, rfl, hc⟩ := row_form h2
  have hd := p2_cells (ownAll_reads h1)
  subst hd
  exact ⟨⟨A, c, rfl, hc, row_lies h2 h3⟩, fun k hk => by simp [bl_row hk]⟩
theorem i1_so {e : TypeId} {l : List Int} (h : (rLst e rInt).own w lo hi l [P] F) : SO w lo hi (ncells l) l.length P ∧ ∀ k ∈ bl P, k ∈ F := by
  obtain ⟨v, ds, F1, e1, rfl, h1, h2, h3⟩ := h
  cases e1
  obtain ⟨A, c, rfl, hc⟩ := row_form h2
  have hd := i1_cells (ownAll_reads h1)
  subst hd
  exact ⟨⟨A, c, rfl, hc, row_lies h2 h3⟩, fun k hk => by simp [bl_row hk]⟩
theorem p2_sow {l : List (Int × Int)} (h : (rLsw (rPair rInt rInt)).own w lo hi l [P] F) : SO w lo hi (pcells l) l.length P ∧ ∀ k ∈ bl P, k ∈ F := by
  obtain ⟨A, c, ds, F1, e1, hc, rfl, h1, h2⟩ := h
  cases e1
  have hd := p2_cells (ownAll_reads h1)
  subst hd
  refine ⟨⟨A, c, rfl, hc, h2⟩, fun k hk => ?_⟩
  unfold bl at hk
  split at hk
  · rename_i a n c' e
    cases e
    split at hk
    · cases hk
    · rename_i hn
      simp at hk
      have hl : l ≠ [] := fun e => hn (by rw [e]; rfl)
      have hp : pcells l ≠ [] := by
        cases l with
        | nil => exact absurd rfl hl
        | cons s l => simp [pcells]
      simp [blks, hp, hk]
  · cases hk
end
theorem gO.rg {w : World} {lo hi : Nat} {g : gT} {P0 P1 P2 P3 : Value} (h : gO w lo hi g P0 P1 P2 P3) : rG.rd w lo hi g (gV g P0 P1 P2 P3) :=
  rG_rd_mk (so_p2 (by rw [pcells_j]; exact h.r0)) (so_p2 (by rw [pcells_s]; exact h.r1)) (so_p2 (by rw [pcells_s]; exact h.r2)) (so_i1 h.r3)
theorem rG_gO {w : World} {lo hi : Nat} {g : gT} {cs : List Value} {F : List Nat} (h : rG.own w lo hi g cs F) (hF : F.Nodup) : ∃ P0 P1 P2 P3, cs = gV g P0 P1 P2 P3 ∧ gO w lo hi g P0 P1 P2 P3 := by
  obtain ⟨P0, P1, P2, P3, F0, F1, F2, F3, rfl, rfl, h0, h1, h2, h3⟩ := rG_own h
  obtain ⟨r0, b0⟩ := p2_so h0
  obtain ⟨r1, b1⟩ := p2_sow h1
  obtain ⟨r2, b2⟩ := p2_sow h2
  obtain ⟨r3, b3⟩ := i1_so h3
  obtain ⟨_, n0, d0⟩ := List.nodup_append.1 hF
  obtain ⟨_, n1, d1⟩ := List.nodup_append.1 n0
  obtain ⟨_, _, d2⟩ := List.nodup_append.1 n1
  rw [pcells_j] at r0
  rw [pcells_s] at r1 r2
  exact ⟨P0, P1, P2, P3, rfl, r0, r1, r2, r3, fun k h h' => d0 k (b0 k h) k (by simp [b1 k h']) rfl, fun k h h' => d0 k (b0 k h) k (by simp [b2 k h']) rfl, fun k h h' => d0 k (b0 k h) k (by simp [b3 k h']) rfl,
    fun k h h' => d1 k (b1 k h) k (by simp [b2 k h']) rfl, fun k h h' => d1 k (b1 k h) k (by simp [b3 k h']) rfl, fun k h h' => d2 k (b2 k h) k (b3 k h') rfl⟩
/-- What a call gives, as the laws' helpers take it. -/
theorem gives_gP {w : World} {g : gT} (e : Ending) (w' : World) (h : Gives rG w g e w') : gP w g e w' := by
  obtain ⟨cs, F, rfl, ho, hF, hb⟩ := h
  obtain ⟨P0, P1, P2, P3, rfl, h4⟩ := rG_gO ho hF
  exact ⟨P0, P1, P2, P3, rfl, h4, hb⟩
theorem gcap_rg {g : gT} (h : gcap g) : rG.cap g :=
  ⟨⟨h.1, fun _ _ => ⟨trivial, trivial⟩⟩, trivial, trivial, ⟨h.2.1, fun _ _ => ⟨trivial, trivial⟩⟩, ⟨h.2.2.1, fun _ _ => ⟨trivial, trivial⟩⟩, ⟨trivial, trivial, trivial⟩, trivial, ⟨trivial, trivial, trivial, trivial⟩, trivial, ⟨h.2.2.2, fun _ _ => trivial⟩⟩
section
variable {w0 w w' : World} {L : List Res} {g : gT} {P0 P1 P2 P3 : Value}
end
end Go.Proofs.Ytdbhfadiinmgiaa.Guests
namespace Go.Proofs.Ytdbhfadiinmgiaa.Guests
set_option maxRecDepth 100000
open Go.ChangeShapes Go.WideShapes Go.ChangeAt Go.RowKit
open Go.Proofs.Ytdbhfadiinmgiaa.Base Go.Proofs.Ytdbhfadiinmgiaa.Mem Go.Proofs.Ytdbhfadiinmgiaa.Data Go.Proofs.Ytdbhfadiinmgiaa.Slots Go.Proofs.Ytdbhfadiinmgiaa.Ints Go.Proofs.Ytdbhfadiinmgiaa.Stt Go.Proofs.Ytdbhfadiinmgiaa.Part
set_option linter.unusedVariables false
section
variable {w0 w w' : World} {L : List Res} {cs cs' : List Value} {n : Nat} {P : Value}
theorem below_eq {w w' : World} (h : w = w') : Below w.heap.size w w' := h ▸ Below.refl _ _
end
end Go.Proofs.Ytdbhfadiinmgiaa.Guests
namespace Go.Proofs.Ytdbhfadiinmgiaa.Draw
set_option maxRecDepth 100000
open Go.ChangeShapes Go.WideShapes Go.ChangeAt Go.RowKit
open Go.Proofs.Ytdbhfadiinmgiaa.Base
/-- The bytes of a slice lie in memory. -/
def CodeAt (w : World) (A : Option Addr) (n : Nat) : Prop :=
  ∀ k, k < n → ∃ (b off : Nat) (x : Int), A = some ⟨b, off, none⟩ ∧ b < w.heap.size ∧ 0 ≤ x ∧ x ≤ 255 ∧ w.cell? ⟨b, off + k, none⟩ = some (.int .u8 x)
theorem CodeAt.below {w w' : World} {A : Option Addr} {n : Nat} (h : CodeAt w A n) (hb : Below w.heap.size w w') : CodeAt w' A n := fun k hk => by
  obtain ⟨b, off, x, e, h1, h2, h3, h4⟩ := h k hk
  exact ⟨b, off, x, e, Nat.lt_of_lt_of_le h1 hb.size, h2, h3, (hb.cell h1).trans h4⟩
/-- The cursor's block g, in a world w that agrees with w0 below w0's end. -/
def Cur (w0 : World) (A : Option Addr) (n c : Nat) (w : World) (g : Nat) : Prop :=
  Below w0.heap.size w0 w ∧ w0.heap.size ≤ g ∧ ∃ (i : Nat) (h : Int), i ≤ n ∧ w.heap[g]? = some (.cells #[.slice A n c, .int .i64 i, .int .i64 h] 98 (0, 0))
def BytePost (w0 : World) (A : Option Addr) (n c : Nat) (w : World) (g : Nat) (m : Int) (e : Ending) (w' : World) : Prop :=
  ∃ x : Int, e = .returned (.int .i64 x) ∧ 0 ≤ x ∧ x < m ∧ Cur w0 A n c w' g ∧ w.grownBy w' (some g)
theorem and255 (n : Int) : bits .and .i64 n 255 = n % 256 := by
  have h1 : (BitVec.ofInt 64 255).toNat = 2 ^ 8 - 1 := by decide
  have h2 : (BitVec.ofInt 64 n &&& BitVec.ofInt 64 255).toNat = (n % ((2 ^ 64 : Nat) : Int)).toNat % 2 ^ 8 := by
    rw [BitVec.toNat_and, BitVec.toNat_ofInt, h1, Nat.and_two_pow_sub_one_eq_mod]
  change IntKind.i64.wrap ((BitVec.ofInt 64 n &&& BitVec.ofInt 64 255).toNat : Nat) = n % 256
  rw [h2, IntKind.wrap_i64]
  omega
theorem and255_bd (n : Int) : 0 ≤ bits .and .i64 n 255 ∧ bits .and .i64 n 255 < 256 := by rw [and255]; omega
theorem blk_set1 {w : World} {g : Nat} {T : TypeId} {x y z u : Value} (h : w.heap[g]? = some (.cells #[x, y, z] T (0, 0))) : (w.setCell ⟨g, 1, none⟩ u).heap[g]? = some (.cells #[x, u, z] T (0, 0)) := by
  simp [World.setCell, Array.getElem?_modify, h]
theorem blk_set2 {w : World} {g : Nat} {T : TypeId} {x y z u : Value} (h : w.heap[g]? = some (.cells #[x, y, z] T (0, 0))) : (w.setCell ⟨g, 2, none⟩ u).heap[g]? = some (.cells #[x, y, u] T (0, 0)) := by
  simp [World.setCell, Array.getElem?_modify, h]
theorem grown_set (w : World) (g j : Nat) (u : Value) : w.grownBy (w.setCell ⟨g, j, none⟩ u) (some g) :=
  ⟨rfl, rfl, rfl, by simp, fun i _ hne => Below.heap_setCell w ⟨g, j, none⟩ u i (fun h => hne (by rw [h]))⟩
theorem grown_drewN {a w : World} {row : Option Nat} (h : a.grownBy w row) (n : Nat) : a.grownBy (w.drewN n) row := ⟨h.os, h.tape, h.output, h.size, h.block⟩
theorem grown_trans {a b c : World} {row : Option Nat} (h : a.grownBy b row) (k : b.grownBy c row) : a.grownBy c row :=
  ⟨k.os.trans h.os, k.tape.trans h.tape, k.output.trans h.output, Nat.le_trans h.size k.size, fun i hi hne => (k.block i (Nat.lt_of_lt_of_le hi h.size) hne).trans (h.block i hi hne)⟩
set_option maxHeartbeats 1000000 in
theorem byte_any (w0 : World) (A : Option Addr) (n c g : Nat) (w : World) (hn : n ≤ 1048576) (hcode : CodeAt w0 A n) (hcur : Cur w0 A n c w g) :
    Calls Try.prog 99 #[.pointer (some ⟨g, 0, none⟩)] w (BytePost w0 A n c w g 256) := by
  obtain ⟨hb, hg, i, h, hi, hblk⟩ := hcur
  have c0 : w.cell? ⟨g, 0, none⟩ = some (.slice A n c) := cell_of_row w g 0 _ _ _ hblk
  have c1 : w.cell? ⟨g, 1, none⟩ = some (.int .i64 i) := cell_of_row w g 1 _ _ _ hblk
  have c2 : w.cell? ⟨g, 2, none⟩ = some (.int .i64 h) := cell_of_row w g 2 _ _ _ hblk
  have f1 : w.frozen? ⟨g, 1, none⟩ = false := by simp [World.frozen?, hblk]
  have f2 : w.frozen? ⟨g, 2, none⟩ = false := by simp [World.frozen?, hblk]
  have HB := Lib.hid hblk
  clear hblk
  have bd := Lib.hid and255_bd
  by_cases hlt : i < n
  · obtain ⟨b, off, x, rfl, hbw, hx0, hx1, hx⟩ := hcode i hlt
    have hne : g ≠ b := by omega
    have hne' : b ≠ g := by omega
    have hcx : w.cell? ⟨b, off + i, none⟩ = some (.int .u8 x) := (hb.cell hbw).trans hx
    have hcx2 : ∀ v, (w.setCell ⟨g, 2, none⟩ v).cell? ⟨b, off + i, none⟩ = some (.int .u8 x) := fun v => by
      rw [World.cell?_setCell_far w _ _ v hne]; exact hcx
    have hi0 : (0 : Int) ≤ (i : Int) := Int.natCast_nonneg _
    have hi1 : (i : Int) < (n : Int) := by omega
    clear hx hcx
    go_enter Try.func99, Try.ntmps99
    go_wp2
    go_quiet (fail)
    go_wp2
    go_quiet (fail)
    go_wp2
    go_quiet (fail)
    go_wp2
    go_ret
    have hB2 : (((w.setCell ⟨g, 2, none⟩ (.int .i64 (wrap64 (wrap64 (h * 6364136223846793005) + 1442695040888963407)))).drewN (nq + 0)).heap[g]? = some (.cells #[.slice (some ⟨b, off, none⟩) n c, .int .i64 i, .int .i64 (wrap64 (wrap64 (h * 6364136223846793005) + 1442695040888963407))] 98 (0, 0))) := blk_set2 HB.out
    exact ⟨_, rfl, (bd.out _).1, (bd.out _).2, ⟨(below_drewN (hb.setCell (p := ⟨g, 2, none⟩) hg _) _).setCell (p := ⟨g, 1, none⟩) hg _, hg, i + 1, _, by omega, blk_set1 hB2⟩, grown_trans (grown_drewN (grown_set w g 2 _) _) (grown_set _ g 1 _)⟩
  · go_enter Try.func99, Try.ntmps99
    go_wp2
    go_quiet (fail)
    go_wp2
    go_quiet (fail)
    go_wp2
    go_ret
    exact ⟨_, rfl, (bd.out _).1, (bd.out _).2, ⟨below_drewN (below_drewN (hb.setCell (p := ⟨g, 2, none⟩) hg _) _) _, hg, i, _, hi, blk_set2 HB.out⟩, grown_drewN (grown_drewN (grown_set w g 2 _) _) _⟩
set_option maxHeartbeats 1000000 in
/-- l01Below(c, m) for m from 1 on. -/
theorem below_any (w0 : World) (A : Option Addr) (n c g : Nat) (w : World) (m : Int) (hm0 : 0 < m) (hm1 : m ≤ 4294967296) (hn : n ≤ 1048576) (hcode : CodeAt w0 A n) (hcur : Cur w0 A n c w g) :
    Calls Try.prog 48 #[.pointer (some ⟨g, 0, none⟩), .int .i64 m] w (BytePost w0 A n c w g m) := by
  have HC := Lib.hid hcode
  have HU := Lib.hid hcur
  clear hcode hcur
  have hm2 : ¬ m ≤ 0 := by omega
  by_cases h256 : m ≤ 256
  · go_enter Try.func48, Try.ntmps48
    go_wp2_with (go_at_call 99; refine (byte_any w0 A n c g _ hn HC.out HU.out).mono ?_; rintro e w1 ⟨x, rfl, hx0, hx1, hc1, hg1⟩)
    go_ret
    exact ⟨_, rfl, Int.emod_nonneg _ (by omega), Int.emod_lt_of_pos _ hm0, hc1, hg1⟩
  · go_enter Try.func48, Try.ntmps48
    go_wp2_with fail
    refine (byte_any w0 A n c g _ hn HC.out HU.out).mono ?_
    rintro e w1 ⟨x, rfl, hx0, hx1, hc1, hg1⟩
    go_wp2_with fail
    refine (byte_any w0 A n c g _ hn HC.out hc1).mono ?_
    rintro e w2 ⟨y, rfl, hy0, hy1, hc2, hg2⟩
    go_wp2_with fail
    refine (byte_any w0 A n c g _ hn HC.out hc2).mono ?_
    rintro e w3 ⟨z, rfl, hz0, hz1, hc3, hg3⟩
    go_wp2_with fail
    refine (byte_any w0 A n c g _ hn HC.out hc3).mono ?_
    rintro e w4 ⟨u, rfl, hu0, hu1, hc4, hg4⟩
    go_wp2_with fail
    go_ret
    exact ⟨_, rfl, Int.emod_nonneg _ (by omega), Int.emod_lt_of_pos _ hm0, hc4, grown_trans (grown_trans (grown_trans hg1 hg2) hg3) hg4⟩
def NewPost (A : Option Addr) (n c : Nat) (w : World) (e : Ending) (w' : World) : Prop :=
  e = .returned (.pointer (some ⟨w.heap.size, 0, none⟩)) ∧ Cur w A n c w' w.heap.size ∧ w'.heap.size = w.heap.size + 1
theorem new_end (A : Option Addr) (n c : Nat) (w : World) (x : Int) : NewPost A n c w (.returned (.pointer (some ⟨w.heap.size, 0, none⟩))) (w.alloc (.cells #[.slice A n c, .int .i64 0, .int .i64 x] 98)) :=
  ⟨rfl, ⟨(Below.refl _ _).alloc (Nat.le_refl _) _, Nat.le_refl _, 0, x, Nat.zero_le _, heap_alloc_new w _⟩, by simp⟩
set_option maxRecDepth 100000 in
set_option maxHeartbeats 1000000 in
theorem new_any (A : Option Addr) (n c : Nat) (w : World) (hn : n ≤ 1048576) (hcode : CodeAt w A n) :
    Calls Try.prog 43 #[.slice A n c] w (NewPost A n c w) := by
  have HC := Lib.hid hcode
  clear hcode
  go_enter Try.func43, Try.ntmps43
  go_wp2
  go_loop [3, 4] (fun h i => ∃ (k : Nat) (x : Int), k ≤ n ∧ k ≤ 4000 ∧ i = .int .i64 k ∧ h = .int .i64 x) (fun _ i => n - (intOf i).toNat)
  case atStart => exact ⟨0, _, Nat.zero_le _, Nat.zero_le _, rfl, rfl⟩
  case round =>
    obtain ⟨k, x, hk, hk2, rfl, rfl⟩ := hrel
    by_cases hlt : k < n
    · by_cases hlt2 : k < 4000
      · obtain ⟨b, off, y, rfl, hbw, hy0, hy1, hy⟩ := HC.out k hlt
        have hi0 : (0 : Int) ≤ (k : Int) := Int.natCast_nonneg _
        have hi1 : (k : Int) < (n : Int) := by omega
        go_wp2
        go_round
        case rel => exact ⟨k + 1, _, by omega, by omega, by go_num, rfl⟩
        case measure => simp [intOf]; omega
      · go_wp2
        go_ret
        exact new_end A n c w x
    · go_wp2
      go_ret
      exact new_end A n c w x
theorem Cur.lt {w0 w : World} {A : Option Addr} {n c g : Nat} (h : Cur w0 A n c w g) : g < w.heap.size := by
  obtain ⟨_, _, _, _, _, hb⟩ := h
  rcases Nat.lt_or_ge g w.heap.size with h' | h'
  · exact h'
  · rw [Array.getElem?_eq_none h'] at hb; cases hb
theorem Cur.grown {w0 w w' : World} {A : Option Addr} {n c g : Nat} {row : Option Nat} (h : Cur w0 A n c w g) (hg : w.grownBy w' row) (hne : row ≠ some g) (hr : ∀ k, row = some k → w0.heap.size ≤ k) : Cur w0 A n c w' g := by
  have hlt := h.lt
  obtain ⟨hb, hg0, i, x, hi, hk⟩ := h
  exact ⟨hb.grown hg hb.size hr, hg0, i, x, hi, (hg.block g hlt (Ne.symm hne)).trans hk⟩
theorem Cur.alloc {w0 w : World} {A : Option Addr} {n c g : Nat} (h : Cur w0 A n c w g) (o : Obj) : Cur w0 A n c (w.alloc o) g :=
  h.grown (World.grownBy_alloc w o none) (by simp) (fun _ h => by cases h)
end Go.Proofs.Ytdbhfadiinmgiaa.Draw
namespace Go.Proofs.Ytdbhfadiinmgiaa.Sx
set_option maxRecDepth 100000
open Go.ChangeShapes Go.WideShapes Go.ChangeAt Go.RowKit Go.Deep
open Go.Proofs.Ytdbhfadiinmgiaa.Base Go.Proofs.Ytdbhfadiinmgiaa.Mem Go.Proofs.Ytdbhfadiinmgiaa.Data Go.Proofs.Ytdbhfadiinmgiaa.Stt Go.Proofs.Ytdbhfadiinmgiaa.Draw
set_option linter.unusedVariables false
/-- A call that begins in the middle of its caller's memory. -/
theorem enterS {P : Program} {f : FuncId} {fn : Func} {c : Code} {args : List Value} {w0 w : World} {L : List Res} {R : Ending → World → Prop} {n : Nat} (S : St w0 w L) (hf : P.funcs[f]? = some fn) (hb : fn.body = some c) (hn : fn.ntmps = n) (hl : Nat.ble args.length n = true)
    (h : C P n (bodyPost P fn R) w0 (slots 0 args) L c) : Calls P f args.toArray w R :=
  calls_of_wp hf hb (h _ w ⟨by
    have := Nat.le_of_ble_eq_true hl
    simp [hn]; omega, rfl, fun s v hs => by
    obtain ⟨_, h2⟩ := look_slots args 0 s v hs
    have hlt : s < args.length := by have := (List.getElem?_eq_some_iff.1 h2).1; simpa using this
    rw [Array.getElem?_append_left (by simpa using hlt)]
    simpa using h2⟩ S)
/-- The cursor. -/
def cu (A : Option Addr) (n c g : Nat) : Res where
  says w := ∃ (i : Nat) (h : Int), i ≤ n ∧ w.heap[g]? = some (.cells #[.slice A n c, .int .i64 i, .int .i64 h] 98 (0, 0))
  foot k := k = g
  lo := g
  hi := g + 1
  inn k h := by omega
  kept h hk := by
    obtain ⟨i, x, hi, hb⟩ := h
    exact ⟨i, x, hi, (hk g rfl).trans hb⟩
/-- All other blocks that were there when the call began. -/
def frm (w0 w : World) (g : Nat) : Res where
  says w' := ∀ k, w0.heap.size ≤ k → k < w.heap.size → k ≠ g → w'.heap[k]? = w.heap[k]?
  foot k := w0.heap.size ≤ k ∧ k < w.heap.size ∧ k ≠ g
  lo := w0.heap.size
  hi := w.heap.size
  inn k h := ⟨h.1, h.2.1⟩
  kept h hk := fun k h1 h2 h3 => (hk k ⟨h1, h2, h3⟩).trans (h k h1 h2 h3)
section
variable {w0 w w' : World} {L : List Res} {A : Option Addr} {n c g : Nat} {r : Res}
theorem st_cur (h : Cur w0 A n c w g) : St w0 w [cu A n c g, frm w0 w g] := by
  have hlt := h.lt
  obtain ⟨hb, hg, hs⟩ := h
  refine ⟨hb, fun i r hr => ?_, fun i r hr => ?_, fun i r hr => ?_, fun i j r s h1 h2 hne k hk hk' => ?_⟩
  · match i, hr with
    | 0, hr => cases hr; exact hs
    | 1, hr => cases hr; exact fun k _ _ _ => rfl
    | i + 2, hr => simp at hr
  · match i, hr with
    | 0, hr => cases hr; exact hg
    | 1, hr => cases hr; exact Nat.le_refl _
    | i + 2, hr => simp at hr
  · match i, hr with
    | 0, hr => cases hr; exact hlt
    | 1, hr => cases hr; exact Nat.le_refl _
    | i + 2, hr => simp at hr
  · match i, j, h1, h2 with
    | 0, 0, _, _ => exact hne rfl
    | 1, 1, _, _ => exact hne rfl
    | 0, 1, h1, h2 => cases h1; cases h2; exact hk'.2.2 hk
    | 1, 0, h1, h2 => cases h1; cases h2; exact hk.2.2 hk'
    | i + 2, _, h1, _ => simp at h1
    | _, j + 2, _, h2 => simp at h2
theorem St.cur (S : St w0 w L) (i : Nat) (h : L[i]? = some (cu A n c g)) : Cur w0 A n c w g := ⟨S.below, S.lo i _ h, S.at_ i h⟩
/-- A draw: the cursor has moved. -/
theorem St.moved (S : St w0 w L) (i : Nat) (h : L[i]? = some (cu A n c g)) (hc : Cur w0 A n c w' g) (hg : w.grownBy w' (some g)) : St w0 w' L := by
  have T := S.turn i h (cu A n c g) (Only.of_grown hg fun k hk => by cases hk; rfl) hc.2.2 (fun k hk => .inl hk) (S.lo i (cu A n c g) h) (Nat.le_trans (S.hi i (cu A n c g) h) hg.size)
  have e : L.set i (cu A n c g) = L := by
    obtain ⟨hi, he⟩ := List.getElem?_eq_some_iff.1 h
    rw [← he]
    exact List.set_getElem_self hi
  rwa [e] at T
/-- .. and something new has come. -/
theorem St.plus (S : St w0 w L) (T : St w0 w' L) (r : Res) (hs : r.says w') (hl : w.heap.size ≤ r.lo) (hh : r.hi ≤ w'.heap.size) : St w0 w' (r :: L) := by
  refine ⟨T.below, fun i s h => ?_, fun i s h => ?_, fun i s h => ?_, fun i j s t h1 h2 hne k hk hk' => ?_⟩
  · cases i with
    | zero => cases h; exact hs
    | succ i => exact T.says i s h
  · cases i with
    | zero => cases h; exact Nat.le_trans S.below.size hl
    | succ i => exact T.lo i s h
  · cases i with
    | zero => cases h; exact hh
    | succ i => exact T.hi i s h
  · cases i with
    | zero =>
      cases h1
      cases j with
      | zero => exact hne rfl
      | succ j => have h3 := (S.footlt h2 hk').2; have h4 := (r.inn k hk).1; omega
    | succ i =>
      cases j with
      | zero => cases h2; have h3 := (S.footlt h1 hk).2; have h4 := (r.inn k hk').1; omega
      | succ j => exact S.apart i j s t h1 h2 (by omega) k hk hk'
/-- What the whole call has left alone. -/
theorem St.grown (S : St w0 w' L) (i : Nat) (h : L[i]? = some (frm w0 w g)) (hb : Below w0.heap.size w0 w) : w.grownBy w' (some g) :=
  ⟨S.below.os.trans hb.os.symm, S.below.tape.trans hb.tape.symm, S.below.output.trans hb.output.symm, S.hi i _ h, fun k hk hne => by
    by_cases h0 : k < w0.heap.size
    · exact (S.below.block k h0).trans (hb.block k h0).symm
    · exact S.at_ i h k (by omega) hk (fun e => hne (by rw [e]))⟩
/-- What a draw has made. -/
structure Fresh (w0 w w' : World) (M : List Res) : Prop where
  says : ∀ (i : Nat) (r : Res), M[i]? = some r → r.says w'
  lo : ∀ (i : Nat) (r : Res), M[i]? = some r → w0.heap.size ≤ r.lo
  hi : ∀ (i : Nat) (r : Res), M[i]? = some r → r.hi ≤ w'.heap.size
  new : ∀ (i : Nat) (r : Res), M[i]? = some r → ∀ k, r.foot k → w.heap.size ≤ k
  apart : ∀ (i j : Nat) (r s : Res), M[i]? = some r → M[j]? = some s → i ≠ j → ∀ k, r.foot k → ¬ s.foot k
/-- At a draw's end. -/
theorem St.made {M : List Res} (S : St w0 w' (cu A n c g :: frm w0 w g :: M)) : Fresh w0 w w' M := by
  have at2 : ∀ {i : Nat} {r : Res}, M[i]? = some r → (cu A n c g :: frm w0 w g :: M)[i + 2]? = some r := fun h => h
  refine ⟨fun i r h => S.says _ r (at2 h), fun i r h => S.lo _ r (at2 h), fun i r h => S.hi _ r (at2 h), fun i r h k hk => ?_, fun i j r s h1 h2 hne => S.apart _ _ r s (at2 h1) (at2 h2) (by omega)⟩
  rcases Nat.lt_or_ge k w.heap.size with hlt | hge
  · have h0 := (S.footlt (at2 h) hk).1
    by_cases e : k = g
    · exact absurd e (S.apart (i + 2) 0 r (cu A n c g) (at2 h) rfl (by omega) k hk)
    · exact absurd ⟨h0, hlt, e⟩ (S.apart (i + 2) 1 r (frm w0 w g) (at2 h) rfl (by omega) k hk)
  · exact hge
theorem St.joinD {M : List Res} (S : St w0 w L) (T : St w0 w' L) (H : Fresh w0 w w' M) : St w0 w' (M ++ L) := by
  have key : ∀ (i : Nat) (s : Res), (M ++ L)[i]? = some s → (i < M.length ∧ M[i]? = some s) ∨ (M.length ≤ i ∧ L[i - M.length]? = some s) := fun i s h => by
    by_cases hi : i < M.length
    · rw [List.getElem?_append_left hi] at h; exact .inl ⟨hi, h⟩
    · rw [List.getElem?_append_right (by omega)] at h; exact .inr ⟨by omega, h⟩
  refine ⟨T.below, fun i s h => ?_, fun i s h => ?_, fun i s h => ?_, fun i j s t h1 h2 hne k hk hk' => ?_⟩
  · rcases key i s h with ⟨_, h⟩ | ⟨_, h⟩
    · exact H.says i s h
    · exact T.says _ s h
  · rcases key i s h with ⟨_, h⟩ | ⟨_, h⟩
    · exact H.lo i s h
    · exact T.lo _ s h
  · rcases key i s h with ⟨_, h⟩ | ⟨_, h⟩
    · exact H.hi i s h
    · exact T.hi _ s h
  · rcases key i s h1 with ⟨a1, h1⟩ | ⟨a1, h1⟩
    · rcases key j t h2 with ⟨a2, h2⟩ | ⟨a2, h2⟩
      · exact H.apart i j s t h1 h2 hne k hk hk'
      · have e1 := H.new i s h1 k hk; have e2 := (S.footlt h2 hk').2; omega
    · rcases key j t h2 with ⟨a2, h2⟩ | ⟨a2, h2⟩
      · have e1 := H.new j t h2 k hk'; have e2 := (S.footlt h1 hk).2; omega
      · exact T.apart _ _ s t h1 h2 (by omega) k hk hk'
/-- A slice of pairs that is read only, with its block. -/
def rp (lo hi : Nat) (l : List (Int × Int)) (A : Option Addr) (cap : Nat) : Res where
  says w := l.length ≤ cap ∧ Lies w lo hi A (pcells l)
  foot k := k ∈ blks A (pcells l) ∧ lo ≤ k ∧ k < hi
  lo := lo
  hi := hi
  inn k h := h.2
  kept h hk := ⟨h.1, fun j u hu => by
    obtain ⟨b, off, e, h1, h2, h3⟩ := h.2 j u hu
    have hne : pcells l ≠ [] := fun e => by rw [e] at hu; cases hu
    have hb : b ∈ blks A (pcells l) := by unfold blks; rw [if_neg hne, e]; simp
    exact ⟨b, off, e, h1, h2, (World.cell?_of_block (hk b ⟨hb, h1, h2⟩)).trans h3⟩⟩
theorem rp_rd {lo hi cap : Nat} {l : List (Int × Int)} (h : (rp lo hi l A cap).says w) : rdLst (rPair rInt rInt) w lo hi l [.slice A l.length cap] := ⟨A, cap, pcells l, rfl, h.1, p2_all w lo hi l, h.2⟩
theorem St.rp_rd (S : St w0 w L) (i : Nat) {lo hi cap : Nat} {l : List (Int × Int)} (h : L[i]? = some (rp lo hi l A cap)) : rdLst (rPair rInt rInt) w 0 w.heap.size l [.slice A l.length cap] := (Sx.rp_rd (S.at_ i h)).wide (Nat.zero_le _) (S.hi i _ h)
theorem wf_small {x : Int} (h0 : 0 ≤ x) (h1 : x < 4294967296) : (Lit.int .i64 x).wf = true := by
  simp [Lit.wf]
  have e1 : IntKind.i64.min = -9223372036854775808 := by decide
  have e2 : IntKind.i64.max = 9223372036854775807 := by decide
  omega
/-- A row of pairs that a draw hands back. -/
theorem row_pairs {e : TypeId} {b m cap : Nat} {l : List (Int × Int)} (hl : l.length = m) (h : w'.ownsRow w.heap.size e 2 (.slice (some ⟨b, 0, none⟩) m cap) m (pcells l)) : (ow (rLst e (rPair rInt rInt)) w.heap.size w'.heap.size l [.slice (some ⟨b, 0, none⟩) m cap] [b]).says w' := by
  subst hl
  refine ⟨⟨_, pcells l, [], rfl, by simp [Value.ownBlock], ?_, h, fun k hk => (h.lt k hk).2⟩, by simp⟩
  exact flat_all flat_P2 w' w.heap.size w'.heap.size (p2_all w' 0 0 l)
/-- A row that is only read from now on. -/
theorem St.toRp (S : St w0 w L) (i : Nat) {e : TypeId} {lo hi m cap : Nat} {A : Option Addr} {F : List Nat} {l : List (Int × Int)} (h : L[i]? = some (ow (rLst e (rPair rInt rInt)) lo hi l [.slice A m cap] F)) : m = l.length ∧ St w0 w (L.set i (rp lo hi l A cap)) := by
  obtain ⟨⟨v, ds, F1, e1, hF, hall, hrow, hhi⟩, hnd⟩ := S.at_ i h
  cases e1
  obtain ⟨A', c', e2, hc⟩ := row_form hrow
  cases e2
  have hd := p2_cells (ownAll_reads hall)
  subst hd
  refine ⟨rfl, S.turn i h (rp lo hi l A cap) (Only.refl _ _) ⟨hc, (row_lies hrow hhi).1⟩ (fun k hk => .inl ⟨?_, hk.2⟩) (S.lo i (ow (rLst e (rPair rInt rInt)) lo hi l [.slice A l.length cap] F) h) (S.hi i (ow (rLst e (rPair rInt rInt)) lo hi l [.slice A l.length cap] F) h)⟩
  have hk1 := hk.1
  unfold blks at hk1
  split at hk1
  · cases hk1
  · cases A with
    | none => cases hk1
    | some a =>
      have : k = a.block := by simpa using hk1
      rw [hF, this]
      simp [Value.ownBlock]
theorem lies_rp {lo hi m cap : Nat} {A : Option Addr} {l : List (Int × Int)} (hl : l.length = m) (hc : m ≤ cap) (h : Lies w lo hi A (pcells l)) : (rp lo hi l A cap).says w := ⟨by omega, h⟩
/-- A block as it was made. -/
def bk (b : Nat) (cs : List Value) (t : TypeId) : Res where
  says w := w.heap[b]? = some (.cells cs.toArray t (0, 0))
  foot k := k = b
  lo := b
  hi := b + 1
  inn k h := by omega
  kept h hk := (hk b rfl).trans h
theorem G.block {P : Program} {n : Nat} {ops : Array Oper} {Q : Exit → Act → World → Prop} {T : Tl} {rest : List Oper} {o : Oper} (e : TypeId) (vs : List Value) (m : Nat) (hc : chk n T ops o = true) (hr : ∀ w : World, (execOp (ev T) o).run P w = .ok (.value (.slice (some ⟨w.heap.size, 0, none⟩) m m)) (w.alloc (.cells vs.toArray e)))
    (k : ∀ b, G P n ops Q w0 (up o.dst (.slice (some ⟨b, 0, none⟩) m m) T) (bk b vs e :: L) rest) : G P n ops Q w0 T L (o :: rest) :=
  G.turns hc fun w S => ⟨_, _, _, hr w, S.add ((Below.refl _ _).alloc (Nat.le_refl _) _) (bk w.heap.size vs e) (heap_alloc_new w _) (Nat.le_refl _) (by simp [bk]), k _⟩
theorem St.bk_ne (S : St w0 w L) (i j : Nat) {b : Nat} {cs : List Value} {t : TypeId} (h : L[i]? = some (bk b cs t)) (h' : L[j]? = some (cu A n c g)) (hij : i ≠ j) : b ≠ g := fun e => S.apart i j _ _ h h' hij b rfl e
end
end Go.Proofs.Ytdbhfadiinmgiaa.Sx
namespace Go.Proofs.Ytdbhfadiinmgiaa.Draw
set_option maxRecDepth 100000
open Go.ChangeShapes Go.WideShapes Go.ChangeAt Go.RowKit
open Go.Proofs.Ytdbhfadiinmgiaa.Base
/-- One of the list was drawn. -/
def PickPost (w0 : World) (A : Option Addr) (n c : Nat) (w : World) (g : Nat) (l : List Int) (e : Ending) (w' : World) : Prop :=
  ∃ x : Int, e = .returned (.int .i64 x) ∧ x ∈ l ∧ Cur w0 A n c w' g ∧ w.grownBy w' (some g)
def OncePost (w0 : World) (A : Option Addr) (n c : Nat) (w : World) (g : Nat) (e : Ending) (w' : World) : Prop :=
  ∃ x : Bool, e = .returned (.bool x) ∧ Cur w0 A n c w' g ∧ w.grownBy w' (some g)
set_option maxHeartbeats 1000000 in
theorem pick_any (w0 : World) (A : Option Addr) (n c g : Nat) (w : World) (g' k : Nat) (l : List Int) (hl0 : 0 < k) (hl1 : k ≤ 256) (hn : n ≤ 1048576) (hcode : CodeAt w0 A n) (hcur : Cur w0 A n c w g)
    (hne : g' ≠ g) (hlk : l.length = k) (hblk : w.heap[g']? = some (.cells (l.map (Value.int .i64)).toArray 3 (0, 0))) :
    Calls Try.prog 87 #[.pointer (some ⟨g, 0, none⟩), .slice (some ⟨g', 0, none⟩) k k] w (PickPost w0 A n c w g l) := by
  have HC := Lib.hid hcode
  have HU := Lib.hid hcur
  have HB := Lib.hid hblk
  have HL := Lib.hid hlk
  have hg' : g' < w.heap.size := by
    rcases Nat.lt_or_ge g' w.heap.size with h | h
    · exact h
    · rw [Array.getElem?_eq_none h] at hblk; cases hblk
  clear hcode hcur hblk hlk
  go_enter Try.func87, Try.ntmps87
  go_wp2_with fail
  refine (below_any w0 A n c g _ _ (by omega) (by omega) hn HC.out HU.out).mono ?_
  rintro e w1 ⟨x, rfl, hx0, hx1, hc1, hg1⟩
  obtain ⟨j, rfl⟩ := Int.eq_ofNat_of_zero_le hx0
  have hj : j < k := by omega
  have hjl : j < l.length := by have := HL.out; omega
  have hcell : w1.cell? ⟨g', j, none⟩ = some (.int .i64 l[j]) := by
    have := (hg1.block g' hg' (by simpa using hne)).trans HB.out
    simp [World.cell?, this, List.getElem?_eq_getElem hjl]
  have hmem : l[j] ∈ l := List.getElem_mem hjl
  have HF := Lib.hid (And.intro hc1 (And.intro hg1 hmem))
  generalize l[j] = y at hcell HF
  clear hc1 hg1 hmem
  go_wp2_with fail
  go_ret
  exact ⟨y, rfl, HF.out.2.2, HF.out.1, HF.out.2.1⟩
theorem once_any (w0 : World) (A : Option Addr) (n c g : Nat) (w : World) (m : Int) (hm0 : 0 < m) (hm1 : m ≤ 4294967296) (hn : n ≤ 1048576) (hcode : CodeAt w0 A n) (hcur : Cur w0 A n c w g) :
    Calls Try.prog 115 #[.pointer (some ⟨g, 0, none⟩), .int .i64 m] w (OncePost w0 A n c w g) := by
  have HC := Lib.hid hcode
  have HU := Lib.hid hcur
  clear hcode hcur
  go_enter Try.func115, Try.ntmps115
  go_wp2_with fail
  refine (below_any w0 A n c g _ m hm0 hm1 hn HC.out HU.out).mono ?_
  rintro e w1 ⟨x, rfl, hx0, hx1, hc1, hg1⟩
  go_wp2_with fail
  go_ret
  exact ⟨_, rfl, hc1, hg1⟩
end Go.Proofs.Ytdbhfadiinmgiaa.Draw
namespace Go.Proofs.Ytdbhfadiinmgiaa.SDraw
set_option maxRecDepth 100000
open Go.ChangeShapes Go.WideShapes Go.ChangeAt Go.RowKit
open Go.Proofs.Ytdbhfadiinmgiaa.Base Go.Proofs.Ytdbhfadiinmgiaa.Mem Go.Proofs.Ytdbhfadiinmgiaa.Slots Go.Proofs.Ytdbhfadiinmgiaa.Draw
set_option linter.unusedVariables false
def SlotPost (w0 : World) (A : Option Addr) (n c : Nat) (w : World) (g : Nat) (e : Ending) (w' : World) : Prop :=
  ∃ x y : Int, e = .returned (.agg #[.int .i64 x, .int .i64 y]) ∧ wfS (x, y) ∧ Cur w0 A n c w' g ∧ w.grownBy w' (some g)
def NumPost (w0 : World) (A : Option Addr) (n c : Nat) (w : World) (g : Nat) (e : Ending) (w' : World) : Prop :=
  ∃ x : Int, e = .returned (.int .i64 x) ∧ (Lit.int .i64 x).wf = true ∧ Cur w0 A n c w' g ∧ w.grownBy w' (some g)
section
variable {w w1 w2 : World} {g : Nat} {u v : Value} {T : TypeId}
/-- A variable of two cells, made ahead of draws. -/
theorem var_cells (hG : (w.alloc (.cells #[u, v] T)).grownBy w1 (some g)) (hg : g < w.heap.size) :
    w1.cell? ⟨w.heap.size, 0, none⟩ = some u ∧ w1.cell? ⟨w.heap.size, 1, none⟩ = some v ∧ w1.frozen? ⟨w.heap.size, 0, none⟩ = false ∧ w1.frozen? ⟨w.heap.size, 1, none⟩ = false := by
  have hb : w1.heap[w.heap.size]? = some (.cells #[u, v] T (0, 0)) := (hG.block w.heap.size (by simp) (by simp; omega)).trans (heap_alloc_new w _)
  exact ⟨cell_of_row _ _ 0 _ _ _ hb, cell_of_row _ _ 1 _ _ _ hb, frozen_of_row _ _ _ _ _ hb, frozen_of_row _ _ _ _ _ hb⟩
theorem var_grown (o : Obj) (hG : (w.alloc o).grownBy w1 (some g)) (u v : Value) : w.grownBy ((w1.setCell ⟨w.heap.size, 0, none⟩ u).setCell ⟨w.heap.size, 1, none⟩ v) (some g) :=
  ⟨hG.os, hG.tape, hG.output, by have := hG.size; simp at this; simp; omega, fun k hk hne => by
    rw [Below.heap_setCell _ _ _ k (by show k ≠ w.heap.size; omega), Below.heap_setCell _ _ _ k (by show k ≠ w.heap.size; omega)]
    exact (hG.block k (by simp; omega) hne).trans (Below.heap_alloc w o k hk)⟩
theorem var_cur {w0 : World} {A : Option Addr} {n c : Nat} {b : Nat} (h : Cur w0 A n c w1 g) (hg : g < b) (h0 : w0.heap.size ≤ b) (i : Nat) (u : Value) : Cur w0 A n c (w1.setCell ⟨b, i, none⟩ u) g :=
  h.grown (grown_set w1 b i u) (by simp; omega) (fun k hk => by cases hk; exact h0)
theorem grown_new (w : World) (o : Obj) (row : Option Nat) : w.grownBy (w.alloc o) row := World.grownBy_alloc w o row
theorem gtr {a b c : World} {row : Option Nat} (h : a.grownBy b row) (k : b.grownBy c row) : a.grownBy c row := grown_trans h k
theorem of_below (h : Below w.heap.size w w1) (row : Option Nat) : w.grownBy w1 row := Slots.grown_of_below h row
end
def slotList : List Int := [3, 3, 3, 1, 2]
theorem slotList_wf : ∀ x ∈ slotList, (Lit.int .i64 x).wf = true := by decide
theorem wf_small {x m : Int} (h0 : 0 ≤ x) (h1 : x < m) (hm : m ≤ 1048576) : (Lit.int .i64 x).wf = true := by
  simp [Lit.wf]
  have e1 : IntKind.i64.min = -9223372036854775808 := by decide
  have e2 : IntKind.i64.max = 9223372036854775807 := by decide
  omega
set_option maxHeartbeats 2000000 in
theorem slot_any (w0 : World) (A : Option Addr) (n c g : Nat) (w : World) (pages : Int) (hp0 : 0 < pages) (hp1 : pages ≤ 256) (hn : n ≤ 1048576) (hcode : CodeAt w0 A n) (hcur : Cur w0 A n c w g) :
    Calls Try.prog 125 #[.pointer (some ⟨g, 0, none⟩), .int .i64 pages] w (SlotPost w0 A n c w g) := by
  have HC := Lib.hid hcode
  have hlt := hcur.lt
  have hs0 := hcur.1.size
  have HU := Lib.hid (hcur.alloc (.cells #[.int .i64 0, .int .i64 0] 73))
  clear hcode hcur
  go_enter Try.func125, Try.ntmps125
  go_wp2_with fail
  refine (once_any w0 A n c g _ 5 (by omega) (by omega) hn HC.out HU.out).mono ?_
  rintro e w1 ⟨b, rfl, hc1, hg1⟩
  have HU1 := Lib.hid hc1
  have HG1 := Lib.hid hg1
  have hsz1 : w.heap.size < w1.heap.size := by have := hg1.size; simp at this; omega
  clear hc1 hg1 HU
  cases b
  · go_wp2_with fail
    refine (below_any w0 A n c g _ pages hp0 (by omega) hn HC.out HU1.out).mono ?_
    rintro e w2 ⟨x, rfl, hx0, hx1, hc2, hg2⟩
    have HX := Lib.hid (wf_small hx0 hx1 (by omega))
    have HU2 := Lib.hid hc2
    have HG2 := Lib.hid (gtr HG1.out hg2)
    have hsz2 := hg2.size
    clear hx0 hx1 hc2 hg2 HU1 HG1
    go_wp2_with fail
    refine (pick_any w0 A n c g _ w2.heap.size 5 slotList (by decide) (by decide) hn HC.out (HU2.out.alloc _) (by omega) rfl (heap_alloc_new w2 _)).mono ?_
    rintro e w3 ⟨y, rfl, hy, hc3, hg3⟩
    have HY := Lib.hid (slotList_wf y hy)
    have HU3 := Lib.hid hc3
    have HG3 := Lib.hid (gtr (gtr HG2.out (grown_new w2 _ _)) hg3)
    clear hy hc3 hg3 HU2 HG2
    obtain ⟨j0, j1, f0, f1⟩ := var_cells HG3.out hlt
    go_wp2_with fail
    exact bodyPost_ret (v := .agg #[.int .i64 x, .int .i64 y]) (by simp [results, Try.results125, go_sem, j0, j1]) rfl ⟨x, y, rfl, ⟨HX.out, HY.out⟩, var_cur (var_cur HU3.out hlt hs0 _ _) hlt hs0 _ _, var_grown _ HG3.out _ _⟩
  · go_wp2_with fail
    refine (spec_no _).mono ?_
    rintro e w2 ⟨rfl, hb2⟩
    have HU2 := Lib.hid (HU1.out.grown (of_below hb2 none) (by simp) (fun k hk => by cases hk))
    have HG2 := Lib.hid (gtr HG1.out (of_below hb2 (some g)))
    clear hb2 HU1 HG1
    obtain ⟨j0, j1, f0, f1⟩ := var_cells HG2.out hlt
    go_wp2_with fail
    exact bodyPost_ret (v := .agg #[.int .i64 (-1), .int .i64 0]) (by simp [results, Try.results125, go_sem, j0, j1]) rfl ⟨-1, 0, rfl, ⟨by decide, by decide⟩, var_cur (var_cur HU2.out hlt hs0 _ _) hlt hs0 _ _, var_grown _ HG2.out _ _⟩
def rightsL : List Int := [3, 3, 1, 2, 0, 3, 1, -1, 4, 9223372036854775807]
theorem rightsL_wf : ∀ x ∈ rightsL, (Lit.int .i64 x).wf = true := by decide
set_option maxHeartbeats 1000000 in
theorem rights_any (w0 : World) (A : Option Addr) (n c g : Nat) (w : World) (hn : n ≤ 1048576) (hcode : CodeAt w0 A n) (hcur : Cur w0 A n c w g) :
    Calls Try.prog 129 #[.pointer (some ⟨g, 0, none⟩)] w (NumPost w0 A n c w g) := by
  have HC := Lib.hid hcode
  have HU := Lib.hid hcur
  have hlt := hcur.lt
  clear hcode hcur
  go_enter Try.func129, Try.ntmps129
  go_wp2_with fail
  refine (pick_any w0 A n c g _ w.heap.size 10 rightsL (by decide) (by decide) hn HC.out (HU.out.alloc _) (by omega) rfl (heap_alloc_new w _)).mono ?_
  rintro e w1 ⟨x, rfl, hx, hc1, hg1⟩
  have HF := Lib.hid (And.intro (rightsL_wf x hx) (And.intro hc1 (gtr (grown_new w _ _) hg1)))
  clear hx hc1 hg1
  go_wp2_with fail
  go_ret
  exact ⟨x, rfl, HF.out.1, HF.out.2.1, HF.out.2.2⟩
/-- A block is as it was behind draws. -/
theorem blk_kept {w w1 : World} {g b : Nat} {o : Obj} (hG : w.grownBy w1 (some g)) (hb : w.heap[b]? = some o) (hne : b ≠ g) : w1.heap[b]? = some o :=
  (hG.block b (by
    rcases Nat.lt_or_ge b w.heap.size with h | h
    · exact h
    · rw [Array.getElem?_eq_none h] at hb; cases hb) (by simpa using hne)).trans hb
theorem two_of_blk {w : World} {b : Nat} {u v : Value} {T : TypeId} (hb : w.heap[b]? = some (.cells #[u, v] T (0, 0))) :
    w.cell? ⟨b, 0, none⟩ = some u ∧ w.cell? ⟨b, 1, none⟩ = some v ∧ w.frozen? ⟨b, 0, none⟩ = false ∧ w.frozen? ⟨b, 1, none⟩ = false :=
  ⟨cell_of_row _ _ 0 _ _ _ hb, cell_of_row _ _ 1 _ _ _ hb, frozen_of_row _ _ _ _ _ hb, frozen_of_row _ _ _ _ _ hb⟩
theorem grown_far {w W : World} {g b : Nat} (hG : w.grownBy W (some g)) (hb : w.heap.size ≤ b) (i : Nat) (u : Value) : w.grownBy (W.setCell ⟨b, i, none⟩ u) (some g) :=
  ⟨hG.os, hG.tape, hG.output, by simpa using hG.size, fun k hk hne => (Below.heap_setCell _ _ _ k (by show k ≠ b; omega)).trans (hG.block k hk hne)⟩
theorem anyList_wf {pages p : Int} (hp : (Lit.int .i64 pages).wf = true) (h : p ∈ [-1, -2, pages, 9223372036854775807, -9223372036854775808]) : (Lit.int .i64 p).wf = true := by
  simp only [List.mem_cons, List.not_mem_nil, or_false] at h
  rcases h with rfl | rfl | rfl | rfl | rfl
  · decide
  · decide
  · exact hp
  · decide
  · decide
set_option maxHeartbeats 4000000 in
theorem any_any (w0 : World) (A : Option Addr) (n c g : Nat) (w : World) (pages : Int) (hp0 : 0 < pages) (hp1 : pages ≤ 256) (hn : n ≤ 1048576) (hcode : CodeAt w0 A n) (hcur : Cur w0 A n c w g) :
    Calls Try.prog 119 #[.pointer (some ⟨g, 0, none⟩), .int .i64 pages] w (SlotPost w0 A n c w g) := by
  have HC := Lib.hid hcode
  have hlt := hcur.lt
  have hs0 := hcur.1.size
  have HU := Lib.hid (hcur.alloc (.cells #[.int .i64 0, .int .i64 0] 73))
  clear hcode hcur
  go_enter Try.func119, Try.ntmps119
  go_wp2_with fail
  refine (slot_any w0 A n c g _ pages hp0 hp1 hn HC.out HU.out).mono ?_
  rintro e w1 ⟨x, y, rfl, hxy, hc1, hg1⟩
  have HXY := Lib.hid hxy
  have HU1 := Lib.hid (hc1.alloc (.cells #[.int .i64 x, .int .i64 y] 73))
  have HG1 := Lib.hid (gtr hg1 (grown_new w1 (.cells #[.int .i64 x, .int .i64 y] 73) _))
  have hsz1 : w.heap.size < w1.heap.size := by have := hg1.size; simp at this; omega
  have HN1 := Lib.hid (heap_alloc_new w1 (.cells #[.int .i64 x, .int .i64 y] 73))
  clear hc1 hg1 HU hxy
  go_wp2_with fail
  refine (below_any w0 A n c g _ 12 (by omega) (by omega) hn HC.out HU1.out).mono ?_
  rintro e w2 ⟨z, rfl, hz0, hz1, hc2, hg2⟩
  have HU2 := Lib.hid hc2
  have HG2 := Lib.hid (gtr HG1.out hg2)
  have HN2 := Lib.hid (blk_kept hg2 HN1.out (by omega))
  have hsz2 : w1.heap.size < w2.heap.size := by have := hg2.size; simp at this; omega
  clear hc2 hg2 HU1 HG1 HN1
  have hne : w1.heap.size ≠ w.heap.size := by omega
  have hne' : w.heap.size ≠ w1.heap.size := by omega
  have hw1 : (w.alloc (.cells #[.int .i64 0, .int .i64 0] 73)).heap.size ≤ w1.heap.size := by simp; omega
  have hs1 : w0.heap.size ≤ w1.heap.size := by omega
  have hg1 : g < w1.heap.size := by omega
  have hgn : w1.heap.size ≠ g := by omega
  by_cases hz : z = 0
  · subst hz
    go_wp2_with fail
    refine (pick_any w0 A n c g _ w2.heap.size 5 [-1, -2, pages, 9223372036854775807, -9223372036854775808] (by decide) (by decide) hn HC.out (HU2.out.alloc _) (by omega) rfl (heap_alloc_new w2 _)).mono ?_
    rintro e w3 ⟨p, rfl, hp, hc3, hg3⟩
    have HP := Lib.hid (anyList_wf (wf_small (Int.le_of_lt hp0) (Int.lt_add_one_of_le (Int.le_refl pages)) (by omega)) hp)
    have HU3 := Lib.hid hc3
    have HG3 := Lib.hid (gtr (gtr HG2.out (grown_new w2 _ _)) hg3)
    have hn3 := blk_kept (gtr (grown_new w2 _ _) hg3) HN2.out hgn
    obtain ⟨j0, j1, f0, f1⟩ := two_of_blk hn3
    obtain ⟨q0, q1, e0, e1⟩ := var_cells HG3.out hlt
    clear hp hc3 hg3 hn3 HU2 HG2
    go_wp2_with fail
    exact bodyPost_ret (v := .agg #[.int .i64 p, .int .i64 y]) (by simp [results, Try.results119, go_sem, q0, q1]) rfl ⟨p, y, rfl, ⟨HP.out, HXY.out.2⟩, var_cur (var_cur (var_cur HU3.out hg1 hs1 _ _) hlt hs0 _ _) hlt hs0 _ _, var_grown _ (grown_far HG3.out hw1 _ _) _ _⟩
  · have hz' : (z == 0) = false := by simpa using hz
    by_cases hy1 : z = 1
    · subst hy1
      go_wp2_with fail
      refine (rights_any w0 A n c g _ hn HC.out HU2.out).mono ?_
      rintro e w3 ⟨p, rfl, hp, hc3, hg3⟩
      have HP := Lib.hid hp
      have HU3 := Lib.hid hc3
      have HG3 := Lib.hid (gtr HG2.out hg3)
      have hn3 := blk_kept hg3 HN2.out hgn
      obtain ⟨j0, j1, f0, f1⟩ := two_of_blk hn3
      obtain ⟨q0, q1, e0, e1⟩ := var_cells HG3.out hlt
      clear hp hc3 hg3 hn3 HU2 HG2
      go_wp2_with fail
      exact bodyPost_ret (v := .agg #[.int .i64 x, .int .i64 p]) (by simp [results, Try.results119, go_sem, q0, q1]) rfl ⟨x, p, rfl, ⟨HXY.out.1, HP.out⟩, var_cur (var_cur (var_cur HU3.out hg1 hs1 _ _) hlt hs0 _ _) hlt hs0 _ _, var_grown _ (grown_far HG3.out hw1 _ _) _ _⟩
    · have hy' : (z == 1) = false := by simpa using hy1
      obtain ⟨j0, j1, f0, f1⟩ := two_of_blk HN2.out
      obtain ⟨q0, q1, e0, e1⟩ := var_cells HG2.out hlt
      go_wp2_with fail
      exact bodyPost_ret (v := .agg #[.int .i64 x, .int .i64 y]) (by simp [results, Try.results119, go_sem, q0, q1]) rfl ⟨x, y, rfl, HXY.out, var_cur (var_cur HU2.out hlt hs0 _ _) hlt hs0 _ _, var_grown _ HG2.out _ _⟩
end Go.Proofs.Ytdbhfadiinmgiaa.SDraw
namespace Go.Proofs.Ytdbhfadiinmgiaa.SDraw
set_option maxRecDepth 100000
open Go.ChangeShapes Go.WideShapes Go.ChangeAt Go.RowKit
open Go.Proofs.Ytdbhfadiinmgiaa.Base Go.Proofs.Ytdbhfadiinmgiaa.Mem Go.Proofs.Ytdbhfadiinmgiaa.Slots Go.Proofs.Ytdbhfadiinmgiaa.Draw
set_option linter.unusedVariables false
theorem Try.infoSlot3 : (Try.prog.info? 73).map (fun i => (i.zero, i.size, i.bytes)) = some (some (.agg #[.int .i64 0, .int .i64 0]), 2, 16) := by kernel_rfl
def TabOwn (w0 : World) (A : Option Addr) (n c : Nat) (w : World) (g sz : Nat) (e : Ending) (w' : World) : Prop :=
  ∃ b cap l, e = .returned (.slice (some ⟨b, 0, none⟩) sz cap) ∧ l.length = sz ∧ wfL l ∧ w'.ownsRow w.heap.size 73 2 (.slice (some ⟨b, 0, none⟩) sz cap) sz (scells l) ∧ Cur w0 A n c w' g ∧ w.grownBy w' (some g)
theorem grown_own {w a b : World} {g : Nat} {row : Option Nat} (h : w.grownBy a (some g)) (k : a.grownBy b row) (hr : ∀ j, row = some j → w.heap.size ≤ j) : w.grownBy b (some g) :=
  ⟨k.os.trans h.os, k.tape.trans h.tape, k.output.trans h.output, Nat.le_trans h.size k.size, fun i hi hne => (k.block i (Nat.lt_of_lt_of_le hi h.size) (fun e => by have := hr i e.symm; omega)).trans (h.block i hi hne)⟩
theorem wfL_snoc {l : List Sl} {s : Sl} (h : wfL l) (hs : wfS s) : wfL (l ++ [s]) := fun t ht => by
  rcases List.mem_append.1 ht with h1 | h1
  · exact h t h1
  · have : t = s := by simpa using h1
    rw [this]; exact hs
set_option maxHeartbeats 4000000 in
theorem table_any (w0 : World) (A : Option Addr) (n c g sz : Nat) (w : World) (pages : Int) (hp0 : 0 < pages) (hp1 : pages ≤ 256) (hsz : sz ≤ 256) (hn : n ≤ 1048576) (hcode : CodeAt w0 A n) (hcur : Cur w0 A n c w g) :
    Calls Try.prog 113 #[.pointer (some ⟨g, 0, none⟩), .int .i64 (sz : Int), .int .i64 pages] w (TabOwn w0 A n c w g sz) := by
  obtain ⟨i0, hi0, hz0, hz1, hz2⟩ := info_parts Try.infoSlot3
  have HC := Lib.hid hcode
  have hlt := hcur.lt
  have hs0 := hcur.1.size
  have HU := Lib.hid hcur
  clear hcode hcur
  go_enter Try.func113, Try.ntmps113
  go_wp2_with fail
  go_loopw [7, 8] (fun v i wr => ∃ (k b cap : Nat) (l : List Sl), k ≤ sz ∧ i = .int .i64 k ∧ v = .slice (some ⟨b, 0, none⟩) k cap ∧ l.length = k ∧ wfL l ∧ wr.ownsRow w.heap.size 73 2 (.slice (some ⟨b, 0, none⟩) k cap) k (scells l) ∧ Cur w0 A n c wr g ∧ w.grownBy wr (some g)) (fun _ i _ => sz - (intOf i).toNat)
  case atStart =>
    exact ⟨0, w.heap.size, 0, [], Nat.zero_le _, rfl, rfl, rfl, (fun _ h => by cases h), World.ownsRow_made w #[] 0 (Nat.le_refl _) (Nat.zero_le _) rfl, HU.out.alloc _, grown_new w _ _⟩
  case round =>
    obtain ⟨k, b, cap, l, hk, rfl, rfl, hl, hall, hown, hcur, hgr⟩ := hrel
    have HL := Lib.hid hl
    have HA := Lib.hid hall
    have HU := Lib.hid hcur
    have HG := Lib.hid hgr
    have hbs := hgr.size
    clear hl hall hcur hgr
    by_cases hk2 : k < sz
    · have hk3 : (k : Int) < (sz : Int) := by omega
      go_wp2_with fail
      refine (slot_any w0 A n c g _ pages hp0 hp1 hn HC.out HU.out).mono ?_
      rintro e w1 ⟨x, y, rfl, hxy, hc1, hg1⟩
      have hbg : b ≠ g := by have := (hown.lt b rfl).1; omega
      have hown1 := hown.kept hg1 (.inr (by simp [Value.ownBlock]; exact hbg))
      have HX := Lib.hid hxy
      have HU1 := Lib.hid hc1
      have HG1 := Lib.hid (gtr HG.out hg1)
      have hbs1 := HG1.out.size
      have hb1 := (hown1.lt b rfl).1
      clear hxy hc1 hg1 HU HG hown
      go_wp2_with (at_builtin; refine wpList_append_lies _ rfl _ _ 25 rfl w.heap.size 73 i0 _ 2 16 Try.underlying25 hi0 hz0 hz1 hz2 rfl (by omega) (.slice (some ⟨b, 0, none⟩) k cap) k _ rfl (hown1.alloc _) ⟨w1.heap.size, 0, none⟩ 1 1 [.int .i64 x, .int .i64 y] rfl rfl (World.news_of_block (heap_alloc_new w1 _)) (by simp [Value.oneCell']) (by omega) (by simp only [maxLen]; omega) (by omega) (by simp; omega) (w1.heap.size + 1) (by simp) ?_; intro g' cap' w2 hown2 hgrow hat hg2)
      have hcur2 : Cur w0 A n c w2 g := (HU1.out.alloc _).grown hgrow (by simp [Value.ownBlock]; exact hbg) (fun j hj => by simp [Value.ownBlock] at hj; omega)
      have hgr2 : w.grownBy w2 (some g) := grown_own (gtr HG1.out (grown_new w1 _ _)) hgrow (fun j hj => by simp [Value.ownBlock] at hj; omega)
      have hown3 : w2.ownsRow w.heap.size 73 2 (.slice (some ⟨g', 0, none⟩) (k + 1) cap') (k + 1) (scells (l ++ [(x, y)])) := by rw [scells_append]; exact hown2
      have hlen : (l ++ [(x, y)]).length = k + 1 := by simp [HL.out]
      have HF := Lib.hid (And.intro hcur2 (And.intro hgr2 (And.intro hown3 (And.intro hlen (wfL_snoc HA.out HX.out)))))
      clear hown2 hgrow hat hg2 hcur2 hgr2 hown3 hlen
      go_roundw
      case rel => exact ⟨k + 1, g', cap', l ++ [(x, y)], by omega, by go_num, rfl, HF.out.2.2.2.1, HF.out.2.2.2.2, HF.out.2.2.1, HF.out.1, HF.out.2.1⟩
      case measure => simp [intOf]; omega
    · obtain rfl : k = sz := by omega
      go_wp2_with fail
      go_ret
      exact ⟨b, cap, l, rfl, HL.out, HA.out, hown, HU.out, HG.out⟩
theorem wfL_set {l : List Sl} {k : Nat} {s : Sl} (h : wfL l) (hs : wfS s) : wfL (l.set k s) := fun t ht => by
  rcases List.mem_or_eq_of_mem_set ht with h1 | h1
  · exact h t h1
  · rw [h1]; exact hs
theorem wfL_take {l : List Sl} (k : Nat) (h : wfL l) : wfL (l.take k) := fun t ht => h t (List.mem_of_mem_take ht)
theorem lies_take {w : World} {lo hi : Nat} {A : Option Addr} {l : List Sl} (k : Nat) (h : Lies w lo hi A (scells l)) : Lies w lo hi A (scells (l.take k)) := fun j u hu => by
  refine h j u ?_
  have e : l = l.take k ++ l.drop k := (List.take_append_drop k l).symm
  rw [e, scells_append, List.getElem?_append_left (List.getElem?_eq_some_iff.1 hu).1]
  exact hu
end Go.Proofs.Ytdbhfadiinmgiaa.SDraw
namespace Go.Proofs.Ytdbhfadiinmgiaa.SDraw
set_option maxRecDepth 100000
open Go.ChangeShapes Go.WideShapes Go.ChangeAt Go.RowKit
open Go.Proofs.Ytdbhfadiinmgiaa.Base Go.Proofs.Ytdbhfadiinmgiaa.Mem Go.Proofs.Ytdbhfadiinmgiaa.Slots Go.Proofs.Ytdbhfadiinmgiaa.Draw
set_option linter.unusedVariables false
/-- A table in a world. -/
def Tab (w' : World) (lo sz : Nat) (ad : Addr) (m : Nat) (l : List Sl) : Prop := m ≤ sz ∧ l.length = m ∧ wfL l ∧ Lies w' lo w'.heap.size (some ad) (scells l)
theorem Tab.grown {w w' : World} {lo sz g m : Nat} {ad : Addr} {l : List Sl} (h : Tab w lo sz ad m l) (hg : w.grownBy w' (some g)) (hlo : g < lo) : Tab w' lo sz ad m l :=
  ⟨h.1, h.2.1, h.2.2.1, (h.2.2.2.kept (fun k h1 h2 => hg.block k h2 (by simp; omega))).wide (Nat.le_refl _) hg.size⟩
theorem Tab.below {w w' : World} {lo sz m : Nat} {ad : Addr} {l : List Sl} (h : Tab w lo sz ad m l) (hb : Below w.heap.size w w') : Tab w' lo sz ad m l :=
  ⟨h.1, h.2.1, h.2.2.1, (h.2.2.2.below hb (Nat.le_refl _)).wide (Nat.le_refl _) hb.size⟩
theorem Tab.set {w : World} {lo sz m b i : Nat} {ad : Addr} {l : List Sl} (h : Tab w lo sz ad m l) (hb : b < lo) (u : Value) : Tab (w.setCell ⟨b, i, none⟩ u) lo sz ad m l :=
  ⟨h.1, h.2.1, h.2.2.1, by
    have := h.2.2.2.kept (w' := w.setCell ⟨b, i, none⟩ u) (fun k h1 _ => Below.heap_setCell w ⟨b, i, none⟩ u k (by show k ≠ b; omega))
    simpa using this⟩
end Go.Proofs.Ytdbhfadiinmgiaa.SDraw
namespace Go.Proofs.Ytdbhfadiinmgiaa.Inss
set_option maxRecDepth 100000
open Go.ChangeShapes Go.WideShapes Go.ChangeAt Go.RowKit
open Go.Proofs.Ytdbhfadiinmgiaa.Base Go.Proofs.Ytdbhfadiinmgiaa.Mem Go.Proofs.Ytdbhfadiinmgiaa.Data Go.Proofs.Ytdbhfadiinmgiaa.Draw Go.Proofs.Ytdbhfadiinmgiaa.SDraw
set_option linter.unusedVariables false
set_option linter.unusedSimpArgs false
theorem wf_of {l : List Int} (h : l.all (fun x => (Lit.int .i64 x).wf) = true) {x : Int} (hx : x ∈ l) : (Lit.int .i64 x).wf = true := List.all_eq_true.1 h x hx
def IPost (w0 : World) (A : Option Addr) (n c : Nat) (w : World) (g : Nat) (e : Ending) (w' : World) : Prop :=
  ∃ x0 x1, e = .returned (.agg #[.int .i64 x0, .int .i64 x1]) ∧ wfJ (x0, x1) ∧ Cur w0 A n c w' g ∧ w.grownBy w' (some g)
theorem cur2 {w0 w1 : World} {A : Option Addr} {n c g b : Nat} (h : Cur w0 A n c w1 g) (hg : g < b) (h0 : w0.heap.size ≤ b) (u v : Value) : Cur w0 A n c ((w1.setCell ⟨b, 0, none⟩ u).setCell ⟨b, 1, none⟩ v) g :=
  var_cur (var_cur h hg h0 _ _) hg h0 _ _
theorem far2 {w W : World} {g b : Nat} (hG : w.grownBy W (some g)) (hb : w.heap.size ≤ b) (u v : Value) : w.grownBy ((W.setCell ⟨b, 0, none⟩ u).setCell ⟨b, 1, none⟩ v) (some g) :=
  grown_far (grown_far hG hb _ _) hb _ _
theorem wf_less {x m : Int} (h0 : 0 ≤ x) (h1 : x < m) (hm : m ≤ 1048576) : (Lit.int .i64 (x - 1)).wf = true := by
  simp [Lit.wf]
  have e1 : IntKind.i64.min = -9223372036854775808 := by decide
  have e2 : IntKind.i64.max = 9223372036854775807 := by decide
  omega
set_option maxRecDepth 100000 in
set_option maxHeartbeats 8000000 in
theorem ins_any (w0 : World) (A : Option Addr) (n c g : Nat) (w : World) (hn : n ≤ 1048576) (hcode : CodeAt w0 A n) (hcur : Cur w0 A n c w g) :
    Calls Try.prog 118 #[.pointer (some ⟨g, 0, none⟩)] w (IPost w0 A n c w g) := by
  have HC := Lib.hid hcode
  have hlt := hcur.lt
  have hs0 := hcur.1.size
  have t0 := Var.new w [.int .i64 0, .int .i64 0] 42
  change Var (w.alloc (.cells #[.int .i64 0, .int .i64 0] 42)) w.heap.size [.int .i64 0, .int .i64 0] at t0
  have HU := Lib.hid (hcur.alloc (.cells #[.int .i64 0, .int .i64 0] 42))
  have hG0 := grown_new w (.cells #[.int .i64 0, .int .i64 0] 42) (some g)
  have hz0 : w.heap.size < (w.alloc (.cells #[.int .i64 0, .int .i64 0] 42)).heap.size := by simp
  clear hcode hcur
  go_enter Try.func118, Try.ntmps118
  go_wp2_with fail
  rw [show w.heap.size + 1 = (w.alloc (.cells #[.int .i64 0, .int .i64 0] 42)).heap.size by simp]
  generalize w.alloc (.cells #[.int .i64 0, .int .i64 0] 42) = W0 at t0 HU hG0 hz0 ⊢
  refine (pick_any w0 A n c g _ W0.heap.size 11 [1, 2, 3, 3, 3, 4, 4, 4, 5, 6, 8] (by decide) (by decide) hn HC.out (HU.out.alloc _) (by have := HU.out.lt; omega) rfl (heap_alloc_new W0 _)).mono ?_
  rintro e W1 ⟨x, rfl, hx, hc1, hg1⟩
  have HX := Lib.hid (wf_of (by decide) hx)
  have hG1 := gtr (gtr hG0 (grown_new W0 _ _)) hg1
  have t1 := (Var.below t0 ((Below.refl _ _).alloc (Nat.le_refl _) _) hz0).grown hg1 (by omega)
  have hs1 := hg1.size
  simp at hs1
  have hn1 := Var.new W1 [.int .i64 x, .int .i64 0] 42
  change Var (W1.alloc (.cells #[.int .i64 x, .int .i64 0] 42)) W1.heap.size [.int .i64 x, .int .i64 0] at hn1
  have HU2 := Lib.hid (hc1.alloc (.cells #[.int .i64 x, .int .i64 0] 42))
  have hG2 := gtr hG1 (grown_new W1 (.cells #[.int .i64 x, .int .i64 0] 42) _)
  have t2 := Var.below t1 ((Below.refl _ _).alloc (Nat.le_refl _) (.cells #[.int .i64 x, .int .i64 0] 42)) (by omega)
  have hgW1 := hc1.lt
  clear hx hc1 hg1 HU t0 t1 hG0 hG1
  by_cases h3 : x = 3
  · subst h3
    go_wp2_with fail
    refine (below_any w0 A n c g _ _ (by omega) (by omega) hn HC.out HU2.out).mono ?_
    rintro e W3 ⟨y, rfl, hy0, hy1, hc3, hg3⟩
    have HY := Lib.hid (wf_small hy0 hy1 (by omega))
    have t3 := t2.grown hg3 (by omega)
    have v3 := hn1.grown hg3 (by omega)
    have hG3 := gtr hG2 hg3
    have HU3 := Lib.hid hc3
    have r0 := t3.cell 0 (v := .int .i64 0) rfl
    have r1 := t3.cell 1 (v := .int .i64 0) rfl
    have rf0 := t3.loose 0 (v := .int .i64 0) rfl
    have rf1 := t3.loose 1 (v := .int .i64 0) rfl
    have v0 := v3.cell 0 (v := .int .i64 3) rfl
    have v1 := v3.cell 1 (v := .int .i64 0) rfl
    have vf0 := v3.loose 0 (v := .int .i64 3) rfl
    have vf1 := v3.loose 1 (v := .int .i64 0) rfl
    have hne1 : W1.heap.size ≠ w.heap.size := by omega
    have hne2 : w.heap.size ≠ W1.heap.size := by omega
    clear hc3 hg3 t2 hn1 hG2 HU2 t3 v3
    go_wp2_with fail
    exact bodyPost_ret (v := .agg #[.int .i64 3, .int .i64 y]) (by simp [results, Try.results118, go_sem, r0, r1, v0, v1, hne1, hne2]) rfl
      ⟨3, y, rfl, ⟨HX.out, HY.out⟩, cur2 (var_cur HU3.out hgW1 (by omega) _ _) hlt hs0 _ _, far2 (grown_far hG3 (by omega) _ _) (Nat.le_refl _) _ _⟩
  · have h3' : (x == 3) = false := by simpa using h3
    by_cases h4 : x = 4
    · subst h4
      go_wp2_with fail
      refine (below_any w0 A n c g _ _ (by omega) (by omega) hn HC.out HU2.out).mono ?_
      rintro e W3 ⟨y, rfl, hy0, hy1, hc3, hg3⟩
      have HY := Lib.hid (wf_small hy0 hy1 (by omega))
      have t3 := t2.grown hg3 (by omega)
      have v3 := hn1.grown hg3 (by omega)
      have hG3 := gtr hG2 hg3
      have HU3 := Lib.hid hc3
      have r0 := t3.cell 0 (v := .int .i64 0) rfl
      have r1 := t3.cell 1 (v := .int .i64 0) rfl
      have rf0 := t3.loose 0 (v := .int .i64 0) rfl
      have rf1 := t3.loose 1 (v := .int .i64 0) rfl
      have v0 := v3.cell 0 (v := .int .i64 4) rfl
      have v1 := v3.cell 1 (v := .int .i64 0) rfl
      have vf0 := v3.loose 0 (v := .int .i64 4) rfl
      have vf1 := v3.loose 1 (v := .int .i64 0) rfl
      have hne1 : W1.heap.size ≠ w.heap.size := by omega
      have hne2 : w.heap.size ≠ W1.heap.size := by omega
      clear hc3 hg3 t2 hn1 hG2 HU2 t3 v3
      go_wp2_with fail
      exact bodyPost_ret (v := .agg #[.int .i64 4, .int .i64 y]) (by simp [results, Try.results118, go_sem, r0, r1, v0, v1, hne1, hne2]) rfl
        ⟨4, y, rfl, ⟨HX.out, HY.out⟩, cur2 (var_cur HU3.out hgW1 (by omega) _ _) hlt hs0 _ _, far2 (grown_far hG3 (by omega) _ _) (Nat.le_refl _) _ _⟩
    · have h4' : (x == 4) = false := by simpa using h4
      by_cases h8 : x = 8
      · subst h8
        go_wp2_with fail
        refine (below_any w0 A n c g _ _ (by omega) (by omega) hn HC.out HU2.out).mono ?_
        rintro e W3 ⟨y, rfl, hy0, hy1, hc3, hg3⟩
        have HY := Lib.hid (wf_small hy0 hy1 (by omega))
        have t3 := t2.grown hg3 (by omega)
        have v3 := hn1.grown hg3 (by omega)
        have hG3 := gtr hG2 hg3
        have HU3 := Lib.hid hc3
        have r0 := t3.cell 0 (v := .int .i64 0) rfl
        have r1 := t3.cell 1 (v := .int .i64 0) rfl
        have rf0 := t3.loose 0 (v := .int .i64 0) rfl
        have rf1 := t3.loose 1 (v := .int .i64 0) rfl
        have v0 := v3.cell 0 (v := .int .i64 8) rfl
        have v1 := v3.cell 1 (v := .int .i64 0) rfl
        have vf0 := v3.loose 0 (v := .int .i64 8) rfl
        have vf1 := v3.loose 1 (v := .int .i64 0) rfl
        have hne1 : W1.heap.size ≠ w.heap.size := by omega
        have hne2 : w.heap.size ≠ W1.heap.size := by omega
        clear hc3 hg3 t2 hn1 hG2 HU2 t3 v3
        go_wp2_with fail
        exact bodyPost_ret (v := .agg #[.int .i64 8, .int .i64 y]) (by simp [results, Try.results118, go_sem, r0, r1, v0, v1, hne1, hne2]) rfl
          ⟨8, y, rfl, ⟨HX.out, HY.out⟩, cur2 (var_cur HU3.out hgW1 (by omega) _ _) hlt hs0 _ _, far2 (grown_far hG3 (by omega) _ _) (Nat.le_refl _) _ _⟩
      · have h8' : (x == 8) = false := by simpa using h8
        go_wp2_with fail
        refine (below_any w0 A n c g _ _ (by omega) (by omega) hn HC.out HU2.out).mono ?_
        rintro e W3 ⟨y, rfl, hy0, hy1, hc3, hg3⟩
        have HY := Lib.hid (wf_small hy0 hy1 (by omega))
        have t3 := t2.grown hg3 (by omega)
        have v3 := hn1.grown hg3 (by omega)
        have hG3 := gtr hG2 hg3
        have HU3 := Lib.hid hc3
        have r0 := t3.cell 0 (v := .int .i64 0) rfl
        have r1 := t3.cell 1 (v := .int .i64 0) rfl
        have rf0 := t3.loose 0 (v := .int .i64 0) rfl
        have rf1 := t3.loose 1 (v := .int .i64 0) rfl
        have v0 := v3.cell 0 (v := .int .i64 x) rfl
        have v1 := v3.cell 1 (v := .int .i64 0) rfl
        have vf0 := v3.loose 0 (v := .int .i64 x) rfl
        have vf1 := v3.loose 1 (v := .int .i64 0) rfl
        have hne1 : W1.heap.size ≠ w.heap.size := by omega
        have hne2 : w.heap.size ≠ W1.heap.size := by omega
        clear hc3 hg3 t2 hn1 hG2 HU2 t3 v3
        go_wp2_with fail
        exact bodyPost_ret (v := .agg #[.int .i64 x, .int .i64 y]) (by simp [results, Try.results118, go_sem, r0, r1, v0, v1, hne1, hne2]) rfl
          ⟨x, y, rfl, ⟨HX.out, HY.out⟩, cur2 (var_cur HU3.out hgW1 (by omega) _ _) hlt hs0 _ _, far2 (grown_far hG3 (by omega) _ _) (Nat.le_refl _) _ _⟩
set_option maxRecDepth 100000 in
set_option maxHeartbeats 8000000 in
theorem anyIns_any (w0 : World) (A : Option Addr) (n c g : Nat) (w : World) (hn : n ≤ 1048576) (hcode : CodeAt w0 A n) (hcur : Cur w0 A n c w g) :
    Calls Try.prog 117 #[.pointer (some ⟨g, 0, none⟩)] w (IPost w0 A n c w g) := by
  have HC := Lib.hid hcode
  have hlt := hcur.lt
  have hs0 := hcur.1.size
  have t0 := Var.new w [.int .i64 0, .int .i64 0] 42
  change Var (w.alloc (.cells #[.int .i64 0, .int .i64 0] 42)) w.heap.size [.int .i64 0, .int .i64 0] at t0
  have HU := Lib.hid (hcur.alloc (.cells #[.int .i64 0, .int .i64 0] 42))
  have hG0 := grown_new w (.cells #[.int .i64 0, .int .i64 0] 42) (some g)
  have hz0 : w.heap.size < (w.alloc (.cells #[.int .i64 0, .int .i64 0] 42)).heap.size := by simp
  clear hcode hcur
  go_enter Try.func117, Try.ntmps117
  go_wp2_with fail
  generalize w.alloc (.cells #[.int .i64 0, .int .i64 0] 42) = W0 at t0 HU hG0 hz0 ⊢
  refine (ins_any w0 A n c g _ hn HC.out HU.out).mono ?_
  rintro e W1 ⟨x, y, rfl, hw, hc1, hg1⟩
  have HW := Lib.hid hw
  have hG1 := gtr hG0 hg1
  have t1 := t0.grown hg1 (by omega)
  have hs1 := hg1.size
  have hn1 := Var.new W1 [.int .i64 x, .int .i64 y] 42
  change Var (W1.alloc (.cells #[.int .i64 x, .int .i64 y] 42)) W1.heap.size [.int .i64 x, .int .i64 y] at hn1
  have HU2 := Lib.hid (hc1.alloc (.cells #[.int .i64 x, .int .i64 y] 42))
  have hG2 := gtr hG1 (grown_new W1 (.cells #[.int .i64 x, .int .i64 y] 42) _)
  have t2 := Var.below t1 ((Below.refl _ _).alloc (Nat.le_refl _) (.cells #[.int .i64 x, .int .i64 y] 42)) (by omega)
  have hgW1 := hc1.lt
  have hz2 : W1.heap.size < (W1.alloc (.cells #[.int .i64 x, .int .i64 y] 42)).heap.size := by simp
  clear hw hc1 hg1 HU t0 t1 hG0 hG1
  go_wp2_with fail
  generalize W1.alloc (.cells #[.int .i64 x, .int .i64 y] 42) = W2 at hn1 HU2 hG2 t2 hz2 ⊢
  refine (below_any w0 A n c g _ 10 (by omega) (by omega) hn HC.out HU2.out).mono ?_
  rintro e W3 ⟨k, rfl, _, _, hc3, hg3⟩
  have t3 := t2.grown hg3 (by omega)
  have v3 := hn1.grown hg3 (by omega)
  have hG3 := gtr hG2 hg3
  have HU3 := Lib.hid hc3
  have hs3 := hg3.size
  have hne1 : W1.heap.size ≠ w.heap.size := by omega
  have hne2 : w.heap.size ≠ W1.heap.size := by omega
  clear hc3 hg3 t2 hn1 hG2 HU2
  by_cases h0 : k = 0
  · subst h0
    go_wp2_with fail
    refine (below_any w0 A n c g _ 11 (by omega) (by omega) hn HC.out HU3.out).mono ?_
    rintro e W4 ⟨z, rfl, hz0, hz1, hc4, hg4⟩
    have HZ := Lib.hid (wf_less hz0 hz1 (by omega))
    have t4 := t3.grown hg4 (by omega)
    have v4 := v3.grown hg4 (by omega)
    have hG4 := gtr hG3 hg4
    have HU4 := Lib.hid hc4
    clear hc4 hg4 t3 v3 hG3 HU3
    have r0 := t4.cell 0 (v := .int .i64 0) rfl
    have r1 := t4.cell 1 (v := .int .i64 0) rfl
    have rf0 := t4.loose 0 (v := .int .i64 0) rfl
    have rf1 := t4.loose 1 (v := .int .i64 0) rfl
    have v0 := v4.cell 0 (v := .int .i64 x) rfl
    have v1 := v4.cell 1 (v := .int .i64 y) rfl
    have vf0 := v4.loose 0 (v := .int .i64 x) rfl
    have vf1 := v4.loose 1 (v := .int .i64 y) rfl
    clear t4 v4
    go_wp2_with fail
    exact bodyPost_ret (v := .agg #[.int .i64 (z - 1), .int .i64 y]) (by simp [results, Try.results117, go_sem, r0, r1, v0, v1, hne1, hne2]) rfl
      ⟨z - 1, y, rfl, ⟨HZ.out, HW.out.2⟩, cur2 (var_cur HU4.out hgW1 (by omega) _ _) hlt hs0 _ _, far2 (grown_far hG4 (by omega) _ _) (Nat.le_refl _) _ _⟩
  · by_cases h1 : k = 1
    · subst h1
      go_wp2_with fail
      refine (pick_any w0 A n c g _ W3.heap.size 8 [-1, 0, 12, 15, 16, 99, 100, 9223372036854775807] (by decide) (by decide) hn HC.out (HU3.out.alloc _) (by omega) rfl (heap_alloc_new W3 _)).mono ?_
      rintro e W4 ⟨z, rfl, hz, hc4, hg4⟩
      have HZ := Lib.hid (wf_of (by decide) hz)
      have t4 := (Var.below t3 ((Below.refl _ _).alloc (Nat.le_refl _) _) (by omega)).grown hg4 (by omega)
      have v4 := (Var.below v3 ((Below.refl _ _).alloc (Nat.le_refl _) _) (by omega)).grown hg4 (by omega)
      have hG4 := gtr (gtr hG3 (grown_new W3 _ _)) hg4
      have HU4 := Lib.hid hc4
      clear hz hc4 hg4 t3 v3 hG3 HU3
      have r0 := t4.cell 0 (v := .int .i64 0) rfl
      have r1 := t4.cell 1 (v := .int .i64 0) rfl
      have rf0 := t4.loose 0 (v := .int .i64 0) rfl
      have rf1 := t4.loose 1 (v := .int .i64 0) rfl
      have v0 := v4.cell 0 (v := .int .i64 x) rfl
      have v1 := v4.cell 1 (v := .int .i64 y) rfl
      have vf0 := v4.loose 0 (v := .int .i64 x) rfl
      have vf1 := v4.loose 1 (v := .int .i64 y) rfl
      clear t4 v4
      go_wp2_with fail
      exact bodyPost_ret (v := .agg #[.int .i64 x, .int .i64 z]) (by simp [results, Try.results117, go_sem, r0, r1, v0, v1, hne1, hne2]) rfl
        ⟨x, z, rfl, ⟨HW.out.1, HZ.out⟩, cur2 (var_cur HU4.out hgW1 (by omega) _ _) hlt hs0 _ _, far2 (grown_far hG4 (by omega) _ _) (Nat.le_refl _) _ _⟩
    · have h0' : (k == 0) = false := by simpa using h0
      have h1' : (k == 1) = false := by simpa using h1
      have t4 := t3
      have v4 := v3
      clear t3 v3
      have r0 := t4.cell 0 (v := .int .i64 0) rfl
      have r1 := t4.cell 1 (v := .int .i64 0) rfl
      have rf0 := t4.loose 0 (v := .int .i64 0) rfl
      have rf1 := t4.loose 1 (v := .int .i64 0) rfl
      have v0 := v4.cell 0 (v := .int .i64 x) rfl
      have v1 := v4.cell 1 (v := .int .i64 y) rfl
      have vf0 := v4.loose 0 (v := .int .i64 x) rfl
      have vf1 := v4.loose 1 (v := .int .i64 y) rfl
      clear t4 v4
      go_wp2_with fail
      exact bodyPost_ret (v := .agg #[.int .i64 x, .int .i64 y]) (by simp [results, Try.results117, go_sem, r0, r1, v0, v1, hne1, hne2]) rfl
        ⟨x, y, rfl, HW.out, cur2 HU3.out hlt hs0 _ _, far2 hG3 (Nat.le_refl _) _ _⟩
end Go.Proofs.Ytdbhfadiinmgiaa.Inss
namespace Go.Proofs.Ytdbhfadiinmgiaa.Inss
set_option maxRecDepth 100000
open Go.ChangeShapes Go.WideShapes Go.ChangeAt Go.RowKit
open Go.Proofs.Ytdbhfadiinmgiaa.Base Go.Proofs.Ytdbhfadiinmgiaa.Mem Go.Proofs.Ytdbhfadiinmgiaa.Data Go.Proofs.Ytdbhfadiinmgiaa.Draw Go.Proofs.Ytdbhfadiinmgiaa.SDraw
set_option linter.unusedVariables false
set_option linter.unusedSimpArgs false
theorem row_cap {w : World} {base n size g cap : Nat} {e : TypeId} {xs : List Value} (h : w.ownsRow base e size (.slice (some ⟨g, 0, none⟩) n cap) n xs) : n ≤ cap ∧ cap ≤ 9223372036854775807 := by
  rcases h.2 with ⟨h', _⟩ | ⟨g1, cap1, cur, h', _, _, hnc, hm, _⟩
  · simp at h'
  · injection h' with h1 h2 h3; simp only [maxLen] at hm; omega
theorem row_lies {w : World} {base n : Nat} {e : TypeId} {A : Option Addr} {cap : Nat} {cs : List Value} {s : Nat} (h : w.ownsRow base e s (.slice A n cap) n cs) : Lies w base w.heap.size A cs := (Owned.of_row h).1
theorem lies_take {w : World} {lo hi : Nat} {A : Option Addr} {l : List JT} (h : Lies w lo hi A (jcells l)) (j : Nat) (hj : j ≤ l.length) : Lies w lo hi A (jcells (l.take j)) := fun k u hu => by
  refine h k u ?_
  have hk := (List.getElem?_eq_some_iff.1 hu).1
  have e : jcells l = jcells (l.take j) ++ jcells (l.drop j) := by rw [← jcells_append, List.take_append_drop]
  rw [e, List.getElem?_append_left hk]; exact hu
theorem wfJL_nil : wfJL [] := fun _ h => by cases h
theorem wfJL_snoc {l : List JT} {s : JT} (h : wfJL l) (hs : wfJ s) : wfJL (l ++ [s]) := fun x hx => (List.mem_append.1 hx).elim (h x) (fun h1 => by rw [List.mem_singleton.1 h1]; exact hs)
theorem wfJL_set {l : List JT} {k : Nat} {s : JT} (h : wfJL l) (hs : wfJ s) : wfJL (l.set k s) := fun x hx => (List.mem_or_eq_of_mem_set hx).elim (h x) (fun h1 => h1 ▸ hs)
theorem wfJL_take {l : List JT} {k : Nat} (h : wfJL l) : wfJL (l.take k) := fun x hx => h x (List.mem_of_mem_take hx)
theorem wf_halt : wfJ (7, 0) := ⟨by decide, by decide⟩
theorem wf_jump : wfJ (8, 0) := ⟨by decide, by decide⟩
def POwn (w0 : World) (A : Option Addr) (n c : Nat) (w : World) (g : Nat) (e : Ending) (w' : World) : Prop :=
  ∃ b m cap l, e = .returned (.slice (some ⟨b, 0, none⟩) m cap) ∧ l.length = m ∧ 1 ≤ m ∧ m ≤ 20 ∧ wfJL l ∧ w'.ownsRow w.heap.size 42 2 (.slice (some ⟨b, 0, none⟩) m cap) m (jcells l) ∧ Cur w0 A n c w' g ∧ w.grownBy w' (some g)
set_option maxRecDepth 100000 in
set_option maxHeartbeats 8000000 in
theorem prog_any (w0 : World) (A : Option Addr) (n c g : Nat) (w : World) (hn : n ≤ 1048576) (hcode : CodeAt w0 A n) (hcur : Cur w0 A n c w g) :
    Calls Try.prog 112 #[.pointer (some ⟨g, 0, none⟩)] w (POwn w0 A n c w g) := by
  obtain ⟨i0, hi0, hz0, hz1, hz2⟩ := info_parts Try.infoIns
  have HC := Lib.hid hcode
  have hlt := hcur.lt
  have hs0 := hcur.1.size
  have HU := Lib.hid hcur
  clear hcode hcur
  go_enter Try.func112, Try.ntmps112
  go_wp2_with fail
  go_loopw [3, 4] (fun v i wr => ∃ (k b m cap : Nat) (l : List JT), k ≤ 9 ∧ m ≤ k ∧ i = .int .i64 k ∧ v = .slice (some ⟨b, 0, none⟩) m cap ∧ l.length = m ∧ wfJL l ∧ wr.ownsRow w.heap.size 42 2 (.slice (some ⟨b, 0, none⟩) m cap) m (jcells l) ∧ Cur w0 A n c wr g ∧ w.grownBy wr (some g)) (fun _ i _ => 10 - (intOf i).toNat)
  case atStart =>
    exact ⟨0, w.heap.size, 0, 0, [], Nat.zero_le _, Nat.le_refl _, rfl, rfl, rfl, wfJL_nil, World.ownsRow_made w #[] 0 (Nat.le_refl _) (Nat.zero_le _) rfl, HU.out.alloc _, grown_new w _ _⟩
  case round =>
    obtain ⟨k, b, m, cap, l, hk, hmk, rfl, rfl, hl, hwf, hown, hcur, hgr⟩ := hrel
    have HL := Lib.hid hl
    have HA := Lib.hid hwf
    have HU := Lib.hid hcur
    have HG := Lib.hid hgr
    have hbg : b ≠ g := by have := (hown.lt b rfl).1; omega
    clear hl hwf hcur hgr
    go_wp2_with fail
    refine (below_any w0 A n c g _ 7 (by omega) (by omega) hn HC.out HU.out).mono ?_
    rintro e w1 ⟨x, rfl, hx0, hx1, hc1, hg1⟩
    have hown1 := hown.kept hg1 (.inr (by simp [Value.ownBlock]; exact hbg))
    have HU1 := Lib.hid hc1
    have HG1 := Lib.hid (gtr HG.out hg1)
    clear hc1 hg1 HU HG hown
    by_cases hk2 : (k : Int) < 2 + x
    · go_wp2_with fail
      refine (ins_any w0 A n c g _ hn HC.out HU1.out).mono ?_
      rintro e w2 ⟨x0, x1, rfl, hwx, hc2, hg2⟩
      have hown2 := hown1.kept hg2 (.inr (by simp [Value.ownBlock]; exact hbg))
      have HX := Lib.hid (wfJL_snoc HA.out hwx)
      have HU2 := Lib.hid hc2
      have HG2 := Lib.hid (gtr HG1.out hg2)
      have hsz2 := HG2.out.size
      clear hwx hc2 hg2 HU1 HG1 hown1
      go_wp2_with (at_builtin; refine wpList_append_lies _ rfl _ _ 24 rfl w.heap.size 42 i0 _ 2 16 Try.underlying24 hi0 hz0 hz1 hz2 rfl (by omega) (.slice (some ⟨b, 0, none⟩) m cap) m _ rfl (hown2.alloc _) ⟨w2.heap.size, 0, none⟩ 1 1 [.int .i64 x0, .int .i64 x1] rfl rfl (World.news_of_block (heap_alloc_new w2 _)) (by simp [Value.oneCell']) (by omega) (by simp only [maxLen]; omega) (by omega) (by simp; omega) (w2.heap.size + 1) (by simp) ?_; intro b' cap' w3 hownX hgrow hat hgX)
      have hF := (And.intro ((HU2.out.alloc (.cells #[.int .i64 x0, .int .i64 x1] 42)).grown hgrow (by simp [Value.ownBlock]; omega) (fun j hj => by have := (hown2.lt j hj).1; omega))
        (And.intro (grown_own (gtr HG2.out (grown_new w2 (.cells #[.int .i64 x0, .int .i64 x1] 42) _)) hgrow (fun j hj => (hown2.lt j hj).1))
          (show w3.ownsRow w.heap.size 42 2 (.slice (some ⟨b', 0, none⟩) (m + 1) cap') (m + 1) (jcells (l ++ [(x0, x1)])) by rw [jcells_append]; exact hownX)))
      have HF := Lib.hid hF
      clear hF hown2 hownX hgrow hat hgX
      go_wp2_with fail
      go_roundw
      case rel => exact ⟨k + 1, b', m + 1, cap', l ++ [(x0, x1)], by omega, by omega, by go_num, rfl, by rw [List.length_append, HL.out]; rfl, HX.out, HF.out.2.2, HF.out.1, HF.out.2.1⟩
      case measure => simp [intOf]; omega
    · go_wp2_with fail
      refine (once_any w0 A n c g _ 3 (by omega) (by omega) hn HC.out HU1.out).mono ?_
      rintro e w2 ⟨o, rfl, hc2, hg2⟩
      have hown2 := hown1.kept hg2 (.inr (by simp [Value.ownBlock]; exact hbg))
      have HU2 := Lib.hid hc2
      have HG2 := Lib.hid (gtr HG1.out hg2)
      have hsz2 := HG2.out.size
      clear hc2 hg2 HU1 HG1 hown1
      cases o
      · go_wp2_with (at_builtin; refine wpList_append_lies _ rfl _ _ 24 rfl w.heap.size 42 i0 _ 2 16 Try.underlying24 hi0 hz0 hz1 hz2 rfl (by omega) (.slice (some ⟨b, 0, none⟩) m cap) m _ rfl (hown2.alloc _) ⟨w2.heap.size, 0, none⟩ 1 1 [.int .i64 8, .int .i64 0] rfl rfl (World.news_of_block (heap_alloc_new w2 _)) (by simp [Value.oneCell']) (by omega) (by simp only [maxLen]; omega) (by omega) (by simp; omega) (w2.heap.size + 1) (by simp) ?_; intro b' cap' w3 hownX hgrow hat hgX)
        have hF := (And.intro ((HU2.out.alloc (.cells #[.int .i64 8, .int .i64 0] 42)).grown hgrow (by simp [Value.ownBlock]; omega) (fun j hj => by have := (hown2.lt j hj).1; omega))
          (And.intro (grown_own (gtr HG2.out (grown_new w2 (.cells #[.int .i64 8, .int .i64 0] 42) _)) hgrow (fun j hj => (hown2.lt j hj).1))
            (show w3.ownsRow w.heap.size 42 2 (.slice (some ⟨b', 0, none⟩) (m + 1) cap') (m + 1) (jcells (l ++ [(8, 0)])) by rw [jcells_append]; exact hownX)))
        have HF := Lib.hid hF
        clear hF hown2 hownX hgrow hat hgX
        go_wp2_with fail
        go_ret
        exact ⟨b', m + 1, cap', l ++ [(8, 0)], rfl, by rw [List.length_append, HL.out]; rfl, by omega, by omega, wfJL_snoc HA.out wf_jump, HF.out.2.2, HF.out.1, HF.out.2.1⟩
      · go_wp2_with (at_builtin; refine wpList_append_lies _ rfl _ _ 24 rfl w.heap.size 42 i0 _ 2 16 Try.underlying24 hi0 hz0 hz1 hz2 rfl (by omega) (.slice (some ⟨b, 0, none⟩) m cap) m _ rfl (hown2.alloc _) ⟨w2.heap.size, 0, none⟩ 1 1 [.int .i64 7, .int .i64 0] rfl rfl (World.news_of_block (heap_alloc_new w2 _)) (by simp [Value.oneCell']) (by omega) (by simp only [maxLen]; omega) (by omega) (by simp; omega) (w2.heap.size + 1) (by simp) ?_; intro b' cap' w3 hownX hgrow hat hgX)
        have hF := (And.intro ((HU2.out.alloc (.cells #[.int .i64 7, .int .i64 0] 42)).grown hgrow (by simp [Value.ownBlock]; omega) (fun j hj => by have := (hown2.lt j hj).1; omega))
          (And.intro (grown_own (gtr HG2.out (grown_new w2 (.cells #[.int .i64 7, .int .i64 0] 42) _)) hgrow (fun j hj => (hown2.lt j hj).1))
            (show w3.ownsRow w.heap.size 42 2 (.slice (some ⟨b', 0, none⟩) (m + 1) cap') (m + 1) (jcells (l ++ [(7, 0)])) by rw [jcells_append]; exact hownX)))
        have HF := Lib.hid hF
        clear hF hown2 hownX hgrow hat hgX
        go_wp2_with fail
        go_ret
        exact ⟨b', m + 1, cap', l ++ [(7, 0)], rfl, by rw [List.length_append, HL.out]; rfl, by omega, by omega, wfJL_snoc HA.out wf_halt, HF.out.2.2, HF.out.1, HF.out.2.1⟩
def slen : Value → Nat
  | .slice _ n _ => n
  | _ => 0
end Go.Proofs.Ytdbhfadiinmgiaa.Inss
namespace Go.Proofs.Ytdbhfadiinmgiaa.SDraw
set_option maxRecDepth 100000
open Go.ChangeShapes Go.WideShapes Go.ChangeAt Go.RowKit
open Go.Proofs.Ytdbhfadiinmgiaa.Base Go.Proofs.Ytdbhfadiinmgiaa.Mem Go.Proofs.Ytdbhfadiinmgiaa.Slots Go.Proofs.Ytdbhfadiinmgiaa.Draw
set_option linter.unusedVariables false
set_option linter.unusedSimpArgs false
def TabCap (w0 : World) (A : Option Addr) (n c : Nat) (w : World) (g sz : Nat) (e : Ending) (w' : World) : Prop :=
  ∃ ad m cap l, e = .returned (.slice (some ad) m cap) ∧ m ≤ cap ∧ m ≤ sz ∧ l.length = m ∧ wfL l ∧ Lies w' w.heap.size w'.heap.size (some ad) (scells l) ∧ Cur w0 A n c w' g ∧ w.grownBy w' (some g)
set_option maxHeartbeats 4000000 in
theorem anyTable_cap (w0 : World) (A : Option Addr) (n c g sz : Nat) (w : World) (pages : Int) (hp0 : 0 < pages) (hp1 : pages ≤ 256) (hz : 0 < sz) (hsz : sz ≤ 256) (hn : n ≤ 1048576) (hcode : CodeAt w0 A n) (hcur : Cur w0 A n c w g) :
    Calls Try.prog 88 #[.pointer (some ⟨g, 0, none⟩), .int .i64 (sz : Int), .int .i64 pages] w (TabCap w0 A n c w g sz) := by
  have HC := Lib.hid hcode
  have hlt := hcur.lt
  have hs0 := hcur.1.size
  have HU := Lib.hid hcur
  clear hcode hcur
  go_enter Try.func88, Try.ntmps88
  go_wp2_with fail
  refine (table_any w0 A n c g sz _ pages hp0 hp1 hsz hn HC.out HU.out).mono ?_
  rintro e w1 ⟨b, cap, l, rfl, hl, hwf, hown, hc1, hg1⟩
  have HL := Lib.hid hl
  have HW := Lib.hid hwf
  have HU1 := Lib.hid hc1
  have HG1 := Lib.hid hg1
  have hb1 := (hown.lt b rfl).1
  have hbg : b ≠ g := by omega
  have hcap : sz ≤ cap := by
    rcases hown.2 with ⟨h', _⟩ | ⟨g1, cap1, cur, h', _, _, hnc, _⟩
    · simp at h'
    · injection h' with h1 h2 h3; omega
  have hcm : cap ≤ 9223372036854775807 := by
    rcases hown.2 with ⟨h', _⟩ | ⟨g1, cap1, cur, h', _, _, hnc, hm, _⟩
    · simp at h'
    · injection h' with h1 h2 h3; simp only [maxLen] at hm; omega
  clear hl hwf hc1 hg1 HU
  go_wp2_with fail
  refine (below_any w0 A n c g _ 8 (by omega) (by omega) hn HC.out HU1.out).mono ?_
  rintro e w2 ⟨z, rfl, hz0, hz1, hc2, hg2⟩
  have hown2 := hown.kept hg2 (.inr (by simp [Value.ownBlock]; exact hbg))
  have HU2 := Lib.hid hc2
  have HG2 := Lib.hid (gtr HG1.out hg2)
  clear hc2 hg2 HU1 HG1 hown
  by_cases hzz : z = 0
  · subst hzz
    go_wp2_with fail
    refine (below_any w0 A n c g _ (sz : Int) (by omega) (by omega) hn HC.out HU2.out).mono ?_
    rintro e w3 ⟨q, rfl, hq0, hq1, hc3, hg3⟩
    obtain ⟨k, rfl⟩ := Int.eq_ofNat_of_zero_le hq0
    have hk : k < sz := by omega
    have hown3 := hown2.kept hg3 (.inr (by simp [Value.ownBlock]; exact hbg))
    have HU3 := Lib.hid hc3
    have HG3 := Lib.hid (gtr HG2.out hg3)
    clear hc3 hg3 HU2 HG2 hown2
    go_wp2_with fail
    refine (any_any w0 A n c g _ pages hp0 hp1 hn HC.out HU3.out).mono ?_
    rintro e w4 ⟨x, y, rfl, hxy, hc4, hg4⟩
    have hown4 := hown3.kept hg4 (.inr (by simp [Value.ownBlock]; exact hbg))
    have HX := Lib.hid hxy
    have HU4 := Lib.hid hc4
    have HG4 := Lib.hid (gtr HG3.out hg4)
    clear hxy hc4 hg4 HU3 HG3 hown3
    obtain ⟨⟨u1, e1⟩, ⟨u2, e2⟩, f1, f2⟩ := row_two hown4 hk
    go_wp2_with fail
    go_ret
    have hrow := row_set2 hown4 k (.int .i64 x) (.int .i64 y)
    rw [← scells_set l k (by rw [HL.out]; exact hk) x y] at hrow
    exact ⟨_, _, _, _, rfl, hcap, Nat.le_refl _, by rw [List.length_set]; exact HL.out, wfL_set HW.out HX.out, (Owned.of_row hrow).1, var_cur (var_cur HU4.out (by omega) (by omega) _ _) (by omega) (by omega) _ _, grown_far (grown_far HG4.out hb1 _ _) hb1 _ _⟩
  · have hzz' : (z == 0) = false := by simpa using hzz
    by_cases hz1 : z = 1
    · subst hz1
      go_wp2_with fail
      refine (below_any w0 A n c g _ (sz : Int) (by omega) (by omega) hn HC.out HU2.out).mono ?_
      rintro e w3 ⟨q, rfl, hq0, hq1, hc3, hg3⟩
      obtain ⟨k, rfl⟩ := Int.eq_ofNat_of_zero_le hq0
      have hk : k < sz := by omega
      have hkc : (k : Int) ≤ (cap : Int) := by omega
      have hown3 := hown2.kept hg3 (.inr (by simp [Value.ownBlock]; exact hbg))
      have HU3 := Lib.hid hc3
      have HG3 := Lib.hid (gtr HG2.out hg3)
      clear hc3 hg3 HU2 HG2 hown2
      go_wp2_with fail
      go_ret
      exact ⟨⟨b, 0, none⟩, k, cap, l.take k, by simp, by omega, Nat.le_of_lt hk, by rw [List.length_take, HL.out]; omega, wfL_take k HW.out, lies_take k (Owned.of_row hown3).1, HU3.out, HG3.out⟩
    · have hz1' : (z == 1) = false := by simpa using hz1
      go_wp2_with fail
      go_ret
      exact ⟨_, _, _, _, rfl, hcap, Nat.le_refl _, HL.out, HW.out, (Owned.of_row hown2).1, HU2.out, HG2.out⟩
end Go.Proofs.Ytdbhfadiinmgiaa.SDraw
namespace Go.Proofs.Ytdbhfadiinmgiaa.Inss
open Go.ChangeShapes Go.WideShapes Go.ChangeAt Go.RowKit
open Go.Proofs.Ytdbhfadiinmgiaa.Base Go.Proofs.Ytdbhfadiinmgiaa.Mem Go.Proofs.Ytdbhfadiinmgiaa.Data Go.Proofs.Ytdbhfadiinmgiaa.Draw Go.Proofs.Ytdbhfadiinmgiaa.SDraw
set_option linter.unusedVariables false
set_option linter.unusedSimpArgs false
def PCap (w0 : World) (A : Option Addr) (n c : Nat) (w : World) (g : Nat) (e : Ending) (w' : World) : Prop :=
  ∃ b m cap l, e = .returned (.slice (some ⟨b, 0, none⟩) m cap) ∧ l.length = m ∧ (m ≤ 20 ∧ m ≤ cap) ∧ wfJL l ∧ Lies w' w.heap.size w'.heap.size (some ⟨b, 0, none⟩) (jcells l) ∧ Cur w0 A n c w' g ∧ w.grownBy w' (some g)
set_option maxRecDepth 100000 in
set_option maxHeartbeats 8000000 in
theorem anyProg_cap (w0 : World) (A : Option Addr) (n c g : Nat) (w : World) (hn : n ≤ 1048576) (hcode : CodeAt w0 A n) (hcur : Cur w0 A n c w g) :
    Calls Try.prog 86 #[.pointer (some ⟨g, 0, none⟩)] w (PCap w0 A n c w g) := by
  obtain ⟨i0, hi0, hz0, hz1, hz2⟩ := info_parts Try.infoIns
  have HC := Lib.hid hcode
  have hlt := hcur.lt
  have hs0 := hcur.1.size
  have HU := Lib.hid hcur
  clear hcode hcur
  go_enter Try.func86, Try.ntmps86
  go_wp2_with fail
  refine (prog_any w0 A n c g _ hn HC.out HU.out).mono ?_
  rintro e w1 ⟨b, m, cap, l, rfl, hl, hm1, hm2, hwf, hown1, hc1, hg1⟩
  have HL := Lib.hid hl
  have HA := Lib.hid hwf
  have HU1 := Lib.hid hc1
  have HG1 := Lib.hid hg1
  have hb0 := (hown1.lt b rfl).1
  have hbg : b ≠ g := by omega
  clear hl hwf hc1 hg1 HU
  go_wp2_with fail
  refine (below_any w0 A n c g _ 8 (by omega) (by omega) hn HC.out HU1.out).mono ?_
  rintro e w2 ⟨k, rfl, _, _, hc2, hg2⟩
  have hown2 := hown1.kept hg2 (.inr (by simp [Value.ownBlock]; exact hbg))
  have HU2 := Lib.hid hc2
  have HG2 := Lib.hid (gtr HG1.out hg2)
  clear hc2 hg2 HU1 HG1 hown1
  by_cases h0 : k = 0
  · subst h0
    go_wp2_with fail
    refine (anyIns_any w0 A n c g _ hn HC.out HU2.out).mono ?_
    rintro e w3 ⟨x0, x1, rfl, hwx, hc3, hg3⟩
    have hown3 := hown2.kept hg3 (.inr (by simp [Value.ownBlock]; exact hbg))
    have HX := Lib.hid (wfJL_set (k := 0) HA.out hwx)
    have HU3 := Lib.hid hc3
    have HG3 := Lib.hid (gtr HG2.out hg3)
    obtain ⟨⟨u0, q0⟩, ⟨u1, q1⟩, f0, f1⟩ := jrow_some hown3 (k := 0) (by omega)
    have hs := jrow_set hown3 0 (.int .i64 x0) (.int .i64 x1)
    rw [jset (by have := HL.out; omega)] at hs
    simp only [Nat.zero_mul, Nat.zero_add] at q0 q1 f0 f1 hs
    have HS := Lib.hid hs
    have hm0 : (0 : Int) < (m : Int) := by omega
    clear hwx hc3 hg3 HU2 HG2 hown2 hown3 hs
    go_wp2_with fail
    go_ret
    exact ⟨b, m, cap, l.set 0 (x0, x1), rfl, by rw [List.length_set]; exact HL.out, ⟨hm2, (row_cap HS.out).1⟩, HX.out, row_lies HS.out, cur2 HU3.out (by omega) (by omega) _ _, far2 HG3.out hb0 _ _⟩
  · have h0' : (k == 0) = false := by simpa using h0
    by_cases h1 : k = 1
    · subst h1
      go_wp2_with fail
      clear hb0 hbg hm1
      go_loopw [3] (fun v wr => ∃ (b m cap : Nat) (l : List JT), m ≤ 20 ∧ v = .slice (some ⟨b, 0, none⟩) m cap ∧ l.length = m ∧ wfJL l ∧ wr.ownsRow w.heap.size 42 2 (.slice (some ⟨b, 0, none⟩) m cap) m (jcells l) ∧ Cur w0 A n c wr g ∧ w.grownBy wr (some g)) (fun v _ => 20 - slen v)
      case atStart => exact ⟨b, m, cap, l, hm2, rfl, HL.out, HA.out, hown2, HU2.out, HG2.out⟩
      case round =>
        clear hown2 HU2 HG2 HL HA hm2
        obtain ⟨b, m, cap, l, hm, rfl, hl, hwf, hown, hcur, hgr⟩ := hrel
        have HL := Lib.hid hl
        have HA := Lib.hid hwf
        have HU := Lib.hid hcur
        have HG := Lib.hid hgr
        have hbg : b ≠ g := by have := (hown.lt b rfl).1; omega
        clear hl hwf hcur hgr
        go_wp2_with fail
        refine (below_any w0 A n c g _ 2 (by omega) (by omega) hn HC.out HU.out).mono ?_
        rintro e w3 ⟨x, rfl, hx0, hx1, hc3, hg3⟩
        have hown3 := hown.kept hg3 (.inr (by simp [Value.ownBlock]; exact hbg))
        have HU3 := Lib.hid hc3
        have HG3 := Lib.hid (gtr HG.out hg3)
        clear hc3 hg3 HU HG hown
        by_cases hk2 : (m : Int) < 12 + x
        · go_wp2_with fail
          refine (ins_any w0 A n c g _ hn HC.out HU3.out).mono ?_
          rintro e w4 ⟨x0, x1, rfl, hwx, hc4, hg4⟩
          have hown4 := hown3.kept hg4 (.inr (by simp [Value.ownBlock]; exact hbg))
          have HX := Lib.hid (wfJL_snoc HA.out hwx)
          have HU4 := Lib.hid hc4
          have HG4 := Lib.hid (gtr HG3.out hg4)
          have hsz4 := HG4.out.size
          clear hwx hc4 hg4 HU3 HG3 hown3
          go_wp2_with (at_builtin; refine wpList_append_lies _ rfl _ _ 24 rfl w.heap.size 42 i0 _ 2 16 Try.underlying24 hi0 hz0 hz1 hz2 rfl (by omega) (.slice (some ⟨b, 0, none⟩) m cap) m _ rfl (hown4.alloc _) ⟨w4.heap.size, 0, none⟩ 1 1 [.int .i64 x0, .int .i64 x1] rfl rfl (World.news_of_block (heap_alloc_new w4 _)) (by simp [Value.oneCell']) (by omega) (by simp only [maxLen]; omega) (by omega) (by simp; omega) (w4.heap.size + 1) (by simp) ?_; intro b' cap' w5 hownX hgrow hat hgX)
          have hF := (And.intro ((HU4.out.alloc (.cells #[.int .i64 x0, .int .i64 x1] 42)).grown hgrow (by simp [Value.ownBlock]; omega) (fun j hj => by have := (hown4.lt j hj).1; omega))
            (And.intro (grown_own (gtr HG4.out (grown_new w4 (.cells #[.int .i64 x0, .int .i64 x1] 42) _)) hgrow (fun j hj => (hown4.lt j hj).1))
              (show w5.ownsRow w.heap.size 42 2 (.slice (some ⟨b', 0, none⟩) (m + 1) cap') (m + 1) (jcells (l ++ [(x0, x1)])) by rw [jcells_append]; exact hownX)))
          have HF := Lib.hid hF
          clear hF hown4 hownX hgrow hat hgX
          go_wp2_with fail
          go_roundw
          case rel => exact ⟨b', m + 1, cap', l ++ [(x0, x1)], by omega, rfl, by rw [List.length_append, HL.out]; rfl, HX.out, HF.out.2.2, HF.out.1, HF.out.2.1⟩
          case measure => simp only [slen]; omega
        · go_wp2_with fail
          go_ret
          exact ⟨b, m, cap, l, rfl, HL.out, ⟨hm, (row_cap hown3).1⟩, HA.out, row_lies hown3, HU3.out, HG3.out⟩
    · have h1' : (k == 1) = false := by simpa using h1
      by_cases h2 : k = 2
      · subst h2
        go_wp2_with fail
        refine (below_any w0 A n c g _ 2 (by omega) (by omega) hn HC.out HU2.out).mono ?_
        rintro e w3 ⟨x, rfl, hx0, hx1, hc3, hg3⟩
        have hown3 := hown2.kept hg3 (.inr (by simp [Value.ownBlock]; exact hbg))
        have HU3 := Lib.hid hc3
        have HG3 := Lib.hid (gtr HG2.out hg3)
        have hcap := row_cap hown3
        have HR := Lib.hid (row_lies hown3)
        obtain ⟨j, rfl⟩ := Int.eq_ofNat_of_zero_le hx0
        have hj1 : (j : Int) ≤ (cap : Int) := by omega
        have hj2 : j ≤ cap := by omega
        have hj3 : j ≤ m := by omega
        clear hc3 hg3 HU2 HG2 hown2 hown3
        go_wp2_with fail
        go_ret
        exact ⟨b, j, cap, l.take j, rfl, by rw [List.length_take, HL.out]; omega, ⟨by omega, hj2⟩, wfJL_take HA.out, lies_take HR.out j (by rw [HL.out]; exact hj3), HU3.out, HG3.out⟩
      · have h2' : (k == 2) = false := by simpa using h2
        go_wp2_with fail
        go_ret
        exact ⟨b, m, cap, l, rfl, HL.out, ⟨hm2, (row_cap hown2).1⟩, HA.out, row_lies hown2, HU2.out, HG2.out⟩
end Go.Proofs.Ytdbhfadiinmgiaa.Inss
namespace Go.Proofs.Ytdbhfadiinmgiaa.Irqs
set_option maxRecDepth 100000
open Go.ChangeShapes Go.WideShapes Go.ChangeAt Go.RowKit
open Go.Proofs.Ytdbhfadiinmgiaa.Base Go.Proofs.Ytdbhfadiinmgiaa.Mem Go.Proofs.Ytdbhfadiinmgiaa.Draw Go.Proofs.Ytdbhfadiinmgiaa.SDraw
set_option linter.unusedVariables false
set_option linter.unusedSimpArgs false
theorem wf_of {l : List Int} (h : l.all (fun x => (Lit.int .i64 x).wf) = true) {x : Int} (hx : x ∈ l) : (Lit.int .i64 x).wf = true := List.all_eq_true.1 h x hx
def NPost (w0 : World) (A : Option Addr) (n c : Nat) (w : World) (g : Nat) (e : Ending) (w' : World) : Prop :=
  ∃ x, e = .returned (.int .i64 x) ∧ (Lit.int .i64 x).wf = true ∧ Cur w0 A n c w' g ∧ w.grownBy w' (some g)
set_option maxHeartbeats 4000000 in
theorem pend_any (w0 : World) (A : Option Addr) (n c g : Nat) (w : World) (hn : n ≤ 1048576) (hcode : CodeAt w0 A n) (hcur : Cur w0 A n c w g) :
    Calls Try.prog 90 #[.pointer (some ⟨g, 0, none⟩)] w (NPost w0 A n c w g) := by
  have HC := Lib.hid hcode
  have HU := Lib.hid hcur
  clear hcode hcur
  go_enter Try.func90, Try.ntmps90
  go_wp2_with fail
  refine (below_any w0 A n c g _ 256 (by omega) (by omega) hn HC.out HU.out).mono ?_
  rintro e w1 ⟨x, rfl, hx0, hx1, hc1, hg1⟩
  have Hx := Lib.hid (wf_small hx0 hx1 (by omega))
  have HU1 := Lib.hid (And.intro hc1 hg1)
  clear hx0 hx1 hc1 hg1 HU
  go_wp2_with fail
  refine (below_any w0 A n c g _ 256 (by omega) (by omega) hn HC.out HU1.out.1).mono ?_
  rintro e w2 ⟨y, rfl, hy0, hy1, hc2, hg2⟩
  have Hy := Lib.hid (wf_small hy0 hy1 (by omega))
  have HU2 := Lib.hid (And.intro hc2 (gtr HU1.out.2 hg2))
  have hlt := hc2.lt
  clear hy0 hy1 hc2 hg2 HU1
  go_wp2_with fail
  refine (pick_any w0 A n c g _ w2.heap.size 9 [0, 1, 128, 255, x, y, -1, 256, 9223372036854775807] (by decide) (by decide) hn HC.out (HU2.out.1.alloc _) (by omega) rfl (heap_alloc_new w2 _)).mono ?_
  rintro e w3 ⟨z, rfl, hz, hc3, hg3⟩
  have HF := Lib.hid (And.intro (wf_of (by simp only [List.all_cons, List.all_nil, Hx.out, Hy.out]; decide) hz) (And.intro hc3 (gtr (gtr HU2.out.2 (grown_new w2 _ _)) hg3)))
  clear hz hc3 hg3 HU2
  go_wp2_with fail
  go_ret
  exact ⟨z, rfl, HF.out.1, HF.out.2.1, HF.out.2.2⟩
end Go.Proofs.Ytdbhfadiinmgiaa.Irqs
namespace Go.Proofs.Ytdbhfadiinmgiaa.Ctls
set_option maxRecDepth 100000
open Go.ChangeShapes Go.WideShapes Go.ChangeAt Go.RowKit
open Go.Proofs.Ytdbhfadiinmgiaa.Base Go.Proofs.Ytdbhfadiinmgiaa.Mem Go.Proofs.Ytdbhfadiinmgiaa.Data Go.Proofs.Ytdbhfadiinmgiaa.Draw Go.Proofs.Ytdbhfadiinmgiaa.SDraw
set_option linter.unusedVariables false
set_option linter.unusedSimpArgs false
theorem wf_of {l : List Int} (h : l.all (fun x => (Lit.int .i64 x).wf) = true) {x : Int} (hx : x ∈ l) : (Lit.int .i64 x).wf = true := List.all_eq_true.1 h x hx
theorem wf_less {x m : Int} (h0 : 0 ≤ x) (h1 : x < m) (hm : m ≤ 1048576) : (Lit.int .i64 (x - 1)).wf = true := by
  simp [Lit.wf]
  have e1 : IntKind.i64.min = -9223372036854775808 := by decide
  have e2 : IntKind.i64.max = 9223372036854775807 := by decide
  omega
def CPost (w0 : World) (A : Option Addr) (n c : Nat) (w : World) (g : Nat) (e : Ending) (w' : World) : Prop :=
  ∃ a b o, e = .returned (.agg #[.int .i64 a, .int .i64 b, .bool o]) ∧ wfC (a, b, o) ∧ Cur w0 A n c w' g ∧ w.grownBy w' (some g)
theorem cur3 {w0 w1 : World} {A : Option Addr} {n c g b : Nat} (h : Cur w0 A n c w1 g) (hg : g < b) (h0 : w0.heap.size ≤ b) (u v x : Value) : Cur w0 A n c (((w1.setCell ⟨b, 0, none⟩ u).setCell ⟨b, 1, none⟩ v).setCell ⟨b, 2, none⟩ x) g :=
  var_cur (var_cur (var_cur h hg h0 _ _) hg h0 _ _) hg h0 _ _
theorem far3 {w W : World} {g b : Nat} (hG : w.grownBy W (some g)) (hb : w.heap.size ≤ b) (u v x : Value) : w.grownBy (((W.setCell ⟨b, 0, none⟩ u).setCell ⟨b, 1, none⟩ v).setCell ⟨b, 2, none⟩ x) (some g) :=
  grown_far (grown_far (grown_far hG hb _ _) hb _ _) hb _ _
set_option maxRecDepth 100000 in
set_option maxHeartbeats 8000000 in
theorem cctl_any (w0 : World) (A : Option Addr) (n c g : Nat) (w : World) (hn : n ≤ 1048576) (hcode : CodeAt w0 A n) (hcur : Cur w0 A n c w g) :
    Calls Try.prog 114 #[.pointer (some ⟨g, 0, none⟩)] w (CPost w0 A n c w g) := by
  have HC := Lib.hid hcode
  have hlt := hcur.lt
  have hs0 := hcur.1.size
  have t0 := Var.new w [.int .i64 0, .int .i64 0, .bool false] 27
  change Var (w.alloc (.cells #[.int .i64 0, .int .i64 0, .bool false] 27)) w.heap.size [.int .i64 0, .int .i64 0, .bool false] at t0
  have HU := Lib.hid (hcur.alloc (.cells #[.int .i64 0, .int .i64 0, .bool false] 27))
  have hG0 := grown_new w (.cells #[.int .i64 0, .int .i64 0, .bool false] 27) (some g)
  have hz0 : w.heap.size < (w.alloc (.cells #[.int .i64 0, .int .i64 0, .bool false] 27)).heap.size := by simp
  clear hcode hcur
  go_enter Try.func114, Try.ntmps114
  go_wp2_with fail
  generalize w.alloc (.cells #[.int .i64 0, .int .i64 0, .bool false] 27) = W0 at t0 HU hG0 hz0 ⊢
  refine (below_any w0 A n c g _ 4 (by omega) (by omega) hn HC.out HU.out).mono ?_
  rintro e W1 ⟨x, rfl, hx0, hx1, hc1, hg1⟩
  have HX := Lib.hid (wf_small hx0 hx1 (by omega))
  have HU1 := Lib.hid hc1
  have hG1 := gtr hG0 hg1
  have t1 := t0.grown hg1 (by omega)
  have hs1 := hg1.size
  clear hc1 hg1 HU t0 hG0
  go_wp2_with fail
  refine (once_any w0 A n c g _ 4 (by omega) (by omega) hn HC.out HU1.out).mono ?_
  rintro e W2 ⟨q, rfl, hc2, hg2⟩
  have hG2 := gtr hG1 hg2
  have t2 := t1.grown hg2 (by omega)
  have hs2 := hg2.size
  have hgW2 := hc2.lt
  have n3 := Var.new W2 [.int .i64 x, .int .i64 0, .bool (!q)] 27
  change Var (W2.alloc (.cells #[.int .i64 x, .int .i64 0, .bool (!q)] 27)) W2.heap.size [.int .i64 x, .int .i64 0, .bool (!q)] at n3
  have HU3 := Lib.hid (hc2.alloc (.cells #[.int .i64 x, .int .i64 0, .bool (!q)] 27))
  have hG3 := gtr hG2 (grown_new W2 (.cells #[.int .i64 x, .int .i64 0, .bool (!q)] 27) _)
  have t3 := Var.below t2 ((Below.refl _ _).alloc (Nat.le_refl _) (.cells #[.int .i64 x, .int .i64 0, .bool (!q)] 27)) (by omega)
  have hz3 : W2.heap.size < (W2.alloc (.cells #[.int .i64 x, .int .i64 0, .bool (!q)] 27)).heap.size := by simp
  clear hc2 hg2 HU1 t1 hG1 hG2 t2
  have hne1 : W2.heap.size ≠ w.heap.size := by omega
  have hne2 : w.heap.size ≠ W2.heap.size := by omega
  cases q
  · by_cases h2 : x = 2
    · subst h2
      simp only [Bool.not_true, Bool.not_false] at n3 HU3 hG3 t3 hz3
      have r := n3
      clear r
      have r0 := t3.cell 0 (v := .int .i64 0) rfl
      have rf0 := t3.loose 0 (v := .int .i64 0) rfl
      have r1 := t3.cell 1 (v := .int .i64 0) rfl
      have rf1 := t3.loose 1 (v := .int .i64 0) rfl
      have r2 := t3.cell 2 (v := .bool false) rfl
      have rf2 := t3.loose 2 (v := .bool false) rfl
      have v0 := n3.cell 0 (v := .int .i64 2) rfl
      have vf0 := n3.loose 0 (v := .int .i64 2) rfl
      have v1 := n3.cell 1 (v := .int .i64 0) rfl
      have vf1 := n3.loose 1 (v := .int .i64 0) rfl
      have v2 := n3.cell 2 (v := .bool true) rfl
      have vf2 := n3.loose 2 (v := .bool true) rfl
      clear t3 n3
      go_wp2_with fail
      exact bodyPost_ret (v := .agg #[.int .i64 2, .int .i64 0, .bool true]) (by simp [results, Try.results114, go_sem, r0, r1, r2, v0, v1, v2, hne1, hne2]) rfl
        ⟨2, 0, true, rfl, ⟨HX.out, (by decide : (Lit.int .i64 0).wf = true), trivial⟩, cur3 HU3.out hlt hs0 _ _ _, far3 hG3 (Nat.le_refl _) _ _ _⟩
    · have h2' : (x == 2) = false := by simpa using h2
      have h2'' : (x != 2) = true := by simpa using h2
      simp only [Bool.not_true, Bool.not_false] at n3 HU3 hG3 t3 hz3
      go_wp2_with fail
      generalize W2.alloc (.cells #[.int .i64 x, .int .i64 0, .bool true] 27) = W3 at n3 HU3 hG3 t3 hz3 ⊢
      refine (once_any w0 A n c g _ 2 (by omega) (by omega) hn HC.out HU3.out).mono ?_
      rintro e W4 ⟨p, rfl, hc4, hg4⟩
      have t4 := t3.grown hg4 (by omega)
      have n4 := n3.grown hg4 (by omega)
      have HU4 := Lib.hid hc4
      have hG4 := gtr hG3 hg4
      clear hc4 hg4 t3 n3 hG3 HU3
      cases p
      · have r0 := t4.cell 0 (v := .int .i64 0) rfl
        have rf0 := t4.loose 0 (v := .int .i64 0) rfl
        have r1 := t4.cell 1 (v := .int .i64 0) rfl
        have rf1 := t4.loose 1 (v := .int .i64 0) rfl
        have r2 := t4.cell 2 (v := .bool false) rfl
        have rf2 := t4.loose 2 (v := .bool false) rfl
        have v0 := n4.cell 0 (v := .int .i64 x) rfl
        have vf0 := n4.loose 0 (v := .int .i64 x) rfl
        have v1 := n4.cell 1 (v := .int .i64 0) rfl
        have vf1 := n4.loose 1 (v := .int .i64 0) rfl
        have v2 := n4.cell 2 (v := .bool true) rfl
        have vf2 := n4.loose 2 (v := .bool true) rfl
        clear t4 n4
        go_wp2_with fail
        exact bodyPost_ret (v := .agg #[.int .i64 x, .int .i64 0, .bool true]) (by simp [results, Try.results114, go_sem, r0, r1, r2, v0, v1, v2, hne1, hne2]) rfl
          ⟨x, 0, true, rfl, ⟨HX.out, (by decide : (Lit.int .i64 0).wf = true), trivial⟩, cur3 HU4.out hlt hs0 _ _ _, far3 hG4 (Nat.le_refl _) _ _ _⟩
      · go_wp2_with fail
        refine (below_any w0 A n c g _ 256 (by omega) (by omega) hn HC.out HU4.out).mono ?_
        rintro e W5 ⟨y, rfl, hy0, hy1, hc5, hg5⟩
        have HY := Lib.hid (wf_small hy0 hy1 (by omega))
        have t5 := t4.grown hg5 (by omega)
        have n5 := n4.grown hg5 (by omega)
        have HU5 := Lib.hid hc5
        have hG5 := gtr hG4 hg5
        clear hc5 hg5 t4 n4 hG4 HU4
        have r0 := t5.cell 0 (v := .int .i64 0) rfl
        have rf0 := t5.loose 0 (v := .int .i64 0) rfl
        have r1 := t5.cell 1 (v := .int .i64 0) rfl
        have rf1 := t5.loose 1 (v := .int .i64 0) rfl
        have r2 := t5.cell 2 (v := .bool false) rfl
        have rf2 := t5.loose 2 (v := .bool false) rfl
        have v0 := n5.cell 0 (v := .int .i64 x) rfl
        have vf0 := n5.loose 0 (v := .int .i64 x) rfl
        have v1 := n5.cell 1 (v := .int .i64 0) rfl
        have vf1 := n5.loose 1 (v := .int .i64 0) rfl
        have v2 := n5.cell 2 (v := .bool true) rfl
        have vf2 := n5.loose 2 (v := .bool true) rfl
        clear t5 n5
        go_wp2_with fail
        exact bodyPost_ret (v := .agg #[.int .i64 x, .int .i64 y, .bool true]) (by simp [results, Try.results114, go_sem, r0, r1, r2, v0, v1, v2, hne1, hne2]) rfl
          ⟨x, y, true, rfl, ⟨HX.out, HY.out, trivial⟩, cur3 (var_cur HU5.out hgW2 (by omega) _ _) hlt hs0 _ _ _, far3 (grown_far hG5 (by omega) _ _) (Nat.le_refl _) _ _ _⟩
  · simp only [Bool.not_true, Bool.not_false] at n3 HU3 hG3 t3 hz3
    have r := n3
    clear r
    have r0 := t3.cell 0 (v := .int .i64 0) rfl
    have rf0 := t3.loose 0 (v := .int .i64 0) rfl
    have r1 := t3.cell 1 (v := .int .i64 0) rfl
    have rf1 := t3.loose 1 (v := .int .i64 0) rfl
    have r2 := t3.cell 2 (v := .bool false) rfl
    have rf2 := t3.loose 2 (v := .bool false) rfl
    have v0 := n3.cell 0 (v := .int .i64 x) rfl
    have vf0 := n3.loose 0 (v := .int .i64 x) rfl
    have v1 := n3.cell 1 (v := .int .i64 0) rfl
    have vf1 := n3.loose 1 (v := .int .i64 0) rfl
    have v2 := n3.cell 2 (v := .bool false) rfl
    have vf2 := n3.loose 2 (v := .bool false) rfl
    clear t3 n3
    go_wp2_with fail
    exact bodyPost_ret (v := .agg #[.int .i64 x, .int .i64 0, .bool false]) (by simp [results, Try.results114, go_sem, r0, r1, r2, v0, v1, v2, hne1, hne2]) rfl
      ⟨x, 0, false, rfl, ⟨HX.out, (by decide : (Lit.int .i64 0).wf = true), trivial⟩, cur3 HU3.out hlt hs0 _ _ _, far3 hG3 (Nat.le_refl _) _ _ _⟩
set_option maxRecDepth 100000 in
set_option maxHeartbeats 8000000 in
theorem cany_any (w0 : World) (A : Option Addr) (n c g : Nat) (w : World) (hn : n ≤ 1048576) (hcode : CodeAt w0 A n) (hcur : Cur w0 A n c w g) :
    Calls Try.prog 89 #[.pointer (some ⟨g, 0, none⟩)] w (CPost w0 A n c w g) := by
  have HC := Lib.hid hcode
  have hlt := hcur.lt
  have hs0 := hcur.1.size
  have t0 := Var.new w [.int .i64 0, .int .i64 0, .bool false] 27
  change Var (w.alloc (.cells #[.int .i64 0, .int .i64 0, .bool false] 27)) w.heap.size [.int .i64 0, .int .i64 0, .bool false] at t0
  have HU := Lib.hid (hcur.alloc (.cells #[.int .i64 0, .int .i64 0, .bool false] 27))
  have hG0 := grown_new w (.cells #[.int .i64 0, .int .i64 0, .bool false] 27) (some g)
  have hz0 : w.heap.size < (w.alloc (.cells #[.int .i64 0, .int .i64 0, .bool false] 27)).heap.size := by simp
  clear hcode hcur
  go_enter Try.func89, Try.ntmps89
  go_wp2_with fail
  generalize w.alloc (.cells #[.int .i64 0, .int .i64 0, .bool false] 27) = W0 at t0 HU hG0 hz0 ⊢
  refine (cctl_any w0 A n c g _ hn HC.out HU.out).mono ?_
  rintro e W2 ⟨x, y, q, rfl, hw, hc2, hg2⟩
  have HW := Lib.hid hw
  have hG2 := gtr hG0 hg2
  have t2 := t0.grown hg2 (by omega)
  have hs2 := hg2.size
  have hgW2 := hc2.lt
  have n3 := Var.new W2 [.int .i64 x, .int .i64 y, .bool q] 27
  change Var (W2.alloc (.cells #[.int .i64 x, .int .i64 y, .bool q] 27)) W2.heap.size [.int .i64 x, .int .i64 y, .bool q] at n3
  have HU3 := Lib.hid (hc2.alloc (.cells #[.int .i64 x, .int .i64 y, .bool q] 27))
  have hG3 := gtr hG2 (grown_new W2 (.cells #[.int .i64 x, .int .i64 y, .bool q] 27) _)
  have t3 := Var.below t2 ((Below.refl _ _).alloc (Nat.le_refl _) (.cells #[.int .i64 x, .int .i64 y, .bool q] 27)) (by omega)
  have hz3 : W2.heap.size < (W2.alloc (.cells #[.int .i64 x, .int .i64 y, .bool q] 27)).heap.size := by simp
  clear hw hc2 hg2 HU t0 hG0 hG2 t2
  have hne1 : W2.heap.size ≠ w.heap.size := by omega
  have hne2 : w.heap.size ≠ W2.heap.size := by omega
  go_wp2_with fail
  generalize W2.alloc (.cells #[.int .i64 x, .int .i64 y, .bool q] 27) = W3 at n3 HU3 hG3 t3 hz3 ⊢
  refine (below_any w0 A n c g _ 8 (by omega) (by omega) hn HC.out HU3.out).mono ?_
  rintro e W4 ⟨k, rfl, _, _, hc4, hg4⟩
  have t4 := t3.grown hg4 (by omega)
  have n4 := n3.grown hg4 (by omega)
  have HU4 := Lib.hid hc4
  have hG4 := gtr hG3 hg4
  have hs4 := hg4.size
  clear hc4 hg4 t3 n3 hG3 HU3
  by_cases h0 : k = 0
  · subst h0
    go_wp2_with fail
    refine (pick_any w0 A n c g _ W4.heap.size 4 [-1, 2, 3, 4] (by decide) (by decide) hn HC.out (HU4.out.alloc _) (by omega) rfl (heap_alloc_new W4 _)).mono ?_
    rintro e W5 ⟨z, rfl, hz, hc5, hg5⟩
    have HZ := Lib.hid (wf_of (by decide) hz)
    have t5 := (Var.below t4 ((Below.refl _ _).alloc (Nat.le_refl _) _) (by omega)).grown hg5 (by omega)
    have n5 := (Var.below n4 ((Below.refl _ _).alloc (Nat.le_refl _) _) (by omega)).grown hg5 (by omega)
    have hG5 := gtr (gtr hG4 (grown_new W4 _ _)) hg5
    have HU5 := Lib.hid hc5
    clear hz hc5 hg5 t4 n4 hG4 HU4
    have r0 := t5.cell 0 (v := .int .i64 0) rfl
    have rf0 := t5.loose 0 (v := .int .i64 0) rfl
    have r1 := t5.cell 1 (v := .int .i64 0) rfl
    have rf1 := t5.loose 1 (v := .int .i64 0) rfl
    have r2 := t5.cell 2 (v := .bool false) rfl
    have rf2 := t5.loose 2 (v := .bool false) rfl
    have v0 := n5.cell 0 (v := .int .i64 x) rfl
    have vf0 := n5.loose 0 (v := .int .i64 x) rfl
    have v1 := n5.cell 1 (v := .int .i64 y) rfl
    have vf1 := n5.loose 1 (v := .int .i64 y) rfl
    have v2 := n5.cell 2 (v := .bool q) rfl
    have vf2 := n5.loose 2 (v := .bool q) rfl
    clear t5 n5
    go_wp2_with fail
    exact bodyPost_ret (v := .agg #[.int .i64 z, .int .i64 y, .bool q]) (by simp [results, Try.results89, go_sem, r0, r1, r2, v0, v1, v2, hne1, hne2]) rfl
      ⟨z, y, q, rfl, ⟨HZ.out, HW.out.2⟩, cur3 (var_cur HU5.out hgW2 (by omega) _ _) hlt hs0 _ _ _, far3 (grown_far hG5 (by omega) _ _) (Nat.le_refl _) _ _ _⟩
  · have h0' : (k == 0) = false := by simpa using h0
    by_cases h1 : k = 1
    · subst h1
      go_wp2_with fail
      refine (pick_any w0 A n c g _ W4.heap.size 4 [-1, 255, 256, 9223372036854775807] (by decide) (by decide) hn HC.out (HU4.out.alloc _) (by omega) rfl (heap_alloc_new W4 _)).mono ?_
      rintro e W5 ⟨z, rfl, hz, hc5, hg5⟩
      have HZ := Lib.hid (wf_of (by decide) hz)
      have t5 := (Var.below t4 ((Below.refl _ _).alloc (Nat.le_refl _) _) (by omega)).grown hg5 (by omega)
      have n5 := (Var.below n4 ((Below.refl _ _).alloc (Nat.le_refl _) _) (by omega)).grown hg5 (by omega)
      have hG5 := gtr (gtr hG4 (grown_new W4 _ _)) hg5
      have HU5 := Lib.hid hc5
      clear hz hc5 hg5 t4 n4 hG4 HU4
      have r0 := t5.cell 0 (v := .int .i64 0) rfl
      have rf0 := t5.loose 0 (v := .int .i64 0) rfl
      have r1 := t5.cell 1 (v := .int .i64 0) rfl
      have rf1 := t5.loose 1 (v := .int .i64 0) rfl
      have r2 := t5.cell 2 (v := .bool false) rfl
      have rf2 := t5.loose 2 (v := .bool false) rfl
      have v0 := n5.cell 0 (v := .int .i64 x) rfl
      have vf0 := n5.loose 0 (v := .int .i64 x) rfl
      have v1 := n5.cell 1 (v := .int .i64 y) rfl
      have vf1 := n5.loose 1 (v := .int .i64 y) rfl
      have v2 := n5.cell 2 (v := .bool q) rfl
      have vf2 := n5.loose 2 (v := .bool q) rfl
      clear t5 n5
      go_wp2_with fail
      exact bodyPost_ret (v := .agg #[.int .i64 x, .int .i64 z, .bool q]) (by simp [results, Try.results89, go_sem, r0, r1, r2, v0, v1, v2, hne1, hne2]) rfl
        ⟨x, z, q, rfl, ⟨HW.out.1, HZ.out, trivial⟩, cur3 (var_cur HU5.out hgW2 (by omega) _ _) hlt hs0 _ _ _, far3 (grown_far hG5 (by omega) _ _) (Nat.le_refl _) _ _ _⟩
    · have h1' : (k == 1) = false := by simpa using h1
      by_cases h2 : k = 2
      · subst h2
        have r0 := t4.cell 0 (v := .int .i64 0) rfl
        have rf0 := t4.loose 0 (v := .int .i64 0) rfl
        have r1 := t4.cell 1 (v := .int .i64 0) rfl
        have rf1 := t4.loose 1 (v := .int .i64 0) rfl
        have r2 := t4.cell 2 (v := .bool false) rfl
        have rf2 := t4.loose 2 (v := .bool false) rfl
        have v0 := n4.cell 0 (v := .int .i64 x) rfl
        have vf0 := n4.loose 0 (v := .int .i64 x) rfl
        have v1 := n4.cell 1 (v := .int .i64 y) rfl
        have vf1 := n4.loose 1 (v := .int .i64 y) rfl
        have v2 := n4.cell 2 (v := .bool q) rfl
        have vf2 := n4.loose 2 (v := .bool q) rfl
        clear t4 n4
        go_wp2_with fail
        exact bodyPost_ret (v := .agg #[.int .i64 x, .int .i64 y, .bool (!q)]) (by simp [results, Try.results89, go_sem, r0, r1, r2, v0, v1, v2, hne1, hne2]) rfl
          ⟨x, y, !q, rfl, HW.out, cur3 (var_cur HU4.out hgW2 (by omega) _ _) hlt hs0 _ _ _, far3 (grown_far hG4 (by omega) _ _) (Nat.le_refl _) _ _ _⟩
      · have h2' : (k == 2) = false := by simpa using h2
        have r0 := t4.cell 0 (v := .int .i64 0) rfl
        have rf0 := t4.loose 0 (v := .int .i64 0) rfl
        have r1 := t4.cell 1 (v := .int .i64 0) rfl
        have rf1 := t4.loose 1 (v := .int .i64 0) rfl
        have r2 := t4.cell 2 (v := .bool false) rfl
        have rf2 := t4.loose 2 (v := .bool false) rfl
        have v0 := n4.cell 0 (v := .int .i64 x) rfl
        have vf0 := n4.loose 0 (v := .int .i64 x) rfl
        have v1 := n4.cell 1 (v := .int .i64 y) rfl
        have vf1 := n4.loose 1 (v := .int .i64 y) rfl
        have v2 := n4.cell 2 (v := .bool q) rfl
        have vf2 := n4.loose 2 (v := .bool q) rfl
        clear t4 n4
        go_wp2_with fail
        exact bodyPost_ret (v := .agg #[.int .i64 x, .int .i64 y, .bool q]) (by simp [results, Try.results89, go_sem, r0, r1, r2, v0, v1, v2, hne1, hne2]) rfl
          ⟨x, y, q, rfl, HW.out, cur3 HU4.out hlt hs0 _ _ _, far3 hG4 (Nat.le_refl _) _ _ _⟩
end Go.Proofs.Ytdbhfadiinmgiaa.Ctls
namespace Go.Proofs.Ytdbhfadiinmgiaa.Exits
set_option maxRecDepth 100000
open Go.ChangeShapes Go.WideShapes Go.ChangeAt Go.RowKit
open Go.Proofs.Ytdbhfadiinmgiaa.Base Go.Proofs.Ytdbhfadiinmgiaa.Mem Go.Proofs.Ytdbhfadiinmgiaa.Data Go.Proofs.Ytdbhfadiinmgiaa.Draw Go.Proofs.Ytdbhfadiinmgiaa.SDraw
set_option linter.unusedVariables false
set_option linter.unusedSimpArgs false
theorem wf_in {l : List Int} (h : l.all (fun x => (Lit.int .i64 x).wf) = true) {x : Int} (hx : x ∈ l) : (Lit.int .i64 x).wf = true := List.all_eq_true.1 h x hx
theorem wf_one {x m : Int} (h0 : 0 ≤ x) (h1 : x < m) (hm : m ≤ 1048576) : (Lit.int .i64 (x - 1)).wf = true := by
  simp [Lit.wf]
  have e1 : IntKind.i64.min = -9223372036854775808 := by decide
  have e2 : IntKind.i64.max = 9223372036854775807 := by decide
  omega
theorem wf_0 : (Lit.int .i64 0).wf = true := by decide
def XPost (w0 : World) (A : Option Addr) (n c : Nat) (w : World) (g : Nat) (e : Ending) (w' : World) : Prop :=
  ∃ k p q m, e = .returned (.agg #[.int .i64 k, .int .i64 p, .bool q, .int .i64 m]) ∧ wfQ (k, p, q, m) ∧ Cur w0 A n c w' g ∧ w.grownBy w' (some g)
theorem curX {w0 w1 : World} {A : Option Addr} {n c g b : Nat} (h : Cur w0 A n c w1 g) (hg : g < b) (h0 : w0.heap.size ≤ b) (u v x y : Value) : Cur w0 A n c ((((w1.setCell ⟨b, 0, none⟩ u).setCell ⟨b, 1, none⟩ v).setCell ⟨b, 2, none⟩ x).setCell ⟨b, 3, none⟩ y) g :=
  var_cur (var_cur (var_cur (var_cur h hg h0 _ _) hg h0 _ _) hg h0 _ _) hg h0 _ _
theorem farX {w W : World} {g b : Nat} (hG : w.grownBy W (some g)) (hb : w.heap.size ≤ b) (u v x y : Value) : w.grownBy ((((W.setCell ⟨b, 0, none⟩ u).setCell ⟨b, 1, none⟩ v).setCell ⟨b, 2, none⟩ x).setCell ⟨b, 3, none⟩ y) (some g) :=
  grown_far (grown_far (grown_far (grown_far hG hb _ _) hb _ _) hb _ _) hb _ _
theorem curB {w0 w w' : World} {A : Option Addr} {n c g : Nat} (h : Cur w0 A n c w g) (hb : Below w.heap.size w w') : Cur w0 A n c w' g :=
  h.grown (of_below hb none) (by simp) (fun k hk => by cases hk)
set_option maxRecDepth 100000 in
set_option maxHeartbeats 8000000 in
theorem exit_any (w0 : World) (A : Option Addr) (n c g : Nat) (w : World) (hn : n ≤ 1048576) (hcode : CodeAt w0 A n) (hcur : Cur w0 A n c w g) :
    Calls Try.prog 116 #[.pointer (some ⟨g, 0, none⟩)] w (XPost w0 A n c w g) := by
  have HC := Lib.hid hcode
  have hlt := hcur.lt
  have hs0 := hcur.1.size
  have t0 : Var (w.alloc (.cells #[.int .i64 0, .int .i64 0, .bool false, .int .i64 0] 29)) w.heap.size [.int .i64 0, .int .i64 0, .bool false, .int .i64 0] := Var.new w [.int .i64 0, .int .i64 0, .bool false, .int .i64 0] 29
  have HU := Lib.hid (hcur.alloc (.cells #[.int .i64 0, .int .i64 0, .bool false, .int .i64 0] 29))
  have hG0 := grown_new w (.cells #[.int .i64 0, .int .i64 0, .bool false, .int .i64 0] 29) (some g)
  have hz0 : w.heap.size < (w.alloc (.cells #[.int .i64 0, .int .i64 0, .bool false, .int .i64 0] 29)).heap.size := by simp
  clear hcode hcur
  go_enter Try.func116, Try.ntmps116
  go_wp2_with fail
  generalize w.alloc (.cells #[.int .i64 0, .int .i64 0, .bool false, .int .i64 0] 29) = W0 at t0 HU hG0 hz0 ⊢
  refine (below_any w0 A n c g _ 5 (by omega) (by omega) hn HC.out HU.out).mono ?_
  rintro e W1 ⟨k, rfl, _, _, hc1, hg1⟩
  have t1 := t0.grown hg1 (by omega)
  have HU1 := Lib.hid hc1
  have hG1 := gtr hG0 hg1
  clear hc1 hg1 HU t0 hG0
  by_cases h0 : k = 0
  · subst h0
    go_wp2_with fail
    refine (below_any w0 A n c g _ 4 (by omega) (by omega) hn HC.out HU1.out).mono ?_
    rintro e W2 ⟨p, rfl, p0, p1, hc2, hg2⟩
    have Hp := Lib.hid (wf_small p0 p1 (by omega))
    have t2 := t1.grown hg2 (by omega)
    have HU2 := Lib.hid hc2
    have hG2 := gtr hG1 hg2
    clear hc2 hg2 HU1 t1 hG1
    go_wp2_with fail
    refine (once_any w0 A n c g _ 2 (by omega) (by omega) hn HC.out HU2.out).mono ?_
    rintro e W3 ⟨q, rfl, hc3, hg3⟩
    have t3 := t2.grown hg3 (by omega)
    have HU3 := Lib.hid hc3
    have hG3 := gtr hG2 hg3
    clear hc3 hg3 HU2 t2 hG2
    go_wp2_with fail
    refine (spec_fault p q _).mono ?_
    rintro e W4 ⟨rfl, hb⟩
    have t4 := t3.below hb (by have := t3.2; omega)
    have HU4 := Lib.hid (curB HU3.out hb)
    have hG4 := gtr hG3 (of_below hb (some g))
    clear hb HU3 t3 hG3
    dsimp only
    have r0 := t4.cell 0 (v := .int .i64 0) rfl
    have rf0 := t4.loose 0 (v := .int .i64 0) rfl
    have r1 := t4.cell 1 (v := .int .i64 0) rfl
    have rf1 := t4.loose 1 (v := .int .i64 0) rfl
    have r2 := t4.cell 2 (v := .bool false) rfl
    have rf2 := t4.loose 2 (v := .bool false) rfl
    have r3 := t4.cell 3 (v := .int .i64 0) rfl
    have rf3 := t4.loose 3 (v := .int .i64 0) rfl
    clear t4
    go_wp2_with fail
    exact bodyPost_ret (v := .agg #[.int .i64 1, .int .i64 p, .bool q, .int .i64 0]) (by simp [results, Try.results116, go_sem, r0, r1, r2, r3]) rfl
      ⟨1, p, q, 0, rfl, ⟨(by decide : (Lit.int .i64 1).wf = true), Hp.out, trivial, wf_0⟩, curX HU4.out hlt hs0 _ _ _ _, farX hG4 (Nat.le_refl _) _ _ _ _⟩
  · have h0' : (k == 0) = false := by simpa using h0
    by_cases h1 : k = 1
    · subst h1
      go_wp2_with fail
      refine (below_any w0 A n c g _ 100 (by omega) (by omega) hn HC.out HU1.out).mono ?_
      rintro e W2 ⟨m, rfl, m0, m1, hc2, hg2⟩
      have Hm := Lib.hid (wf_small m0 m1 (by omega))
      have t2 := t1.grown hg2 (by omega)
      have HU2 := Lib.hid hc2
      have hG2 := gtr hG1 hg2
      clear hc2 hg2 HU1 t1 hG1
      go_wp2_with fail
      refine (spec_call m _).mono ?_
      rintro e W3 ⟨rfl, hb⟩
      have t3 := t2.below hb (by have := t2.2; omega)
      have HU3 := Lib.hid (curB HU2.out hb)
      have hG3 := gtr hG2 (of_below hb (some g))
      clear hb HU2 t2 hG2
      dsimp only
      have r0 := t3.cell 0 (v := .int .i64 0) rfl
      have rf0 := t3.loose 0 (v := .int .i64 0) rfl
      have r1 := t3.cell 1 (v := .int .i64 0) rfl
      have rf1 := t3.loose 1 (v := .int .i64 0) rfl
      have r2 := t3.cell 2 (v := .bool false) rfl
      have rf2 := t3.loose 2 (v := .bool false) rfl
      have r3 := t3.cell 3 (v := .int .i64 0) rfl
      have rf3 := t3.loose 3 (v := .int .i64 0) rfl
      clear t3
      go_wp2_with fail
      exact bodyPost_ret (v := .agg #[.int .i64 2, .int .i64 0, .bool false, .int .i64 m]) (by simp [results, Try.results116, go_sem, r0, r1, r2, r3]) rfl
        ⟨2, 0, false, m, rfl, ⟨(by decide : (Lit.int .i64 2).wf = true), wf_0, trivial, Hm.out⟩, curX HU3.out hlt hs0 _ _ _ _, farX hG3 (Nat.le_refl _) _ _ _ _⟩
    · have h1' : (k == 1) = false := by simpa using h1
      by_cases h2 : k = 2
      · subst h2
        go_wp2_with fail
        refine (below_any w0 A n c g _ 100 (by omega) (by omega) hn HC.out HU1.out).mono ?_
        rintro e W2 ⟨m, rfl, m0, m1, hc2, hg2⟩
        have Hm := Lib.hid (wf_small m0 m1 (by omega))
        have t2 := t1.grown hg2 (by omega)
        have HU2 := Lib.hid hc2
        have hG2 := gtr hG1 hg2
        clear hc2 hg2 HU1 t1 hG1
        go_wp2_with fail
        refine (spec_out m _).mono ?_
        rintro e W3 ⟨rfl, hb⟩
        have t3 := t2.below hb (by have := t2.2; omega)
        have HU3 := Lib.hid (curB HU2.out hb)
        have hG3 := gtr hG2 (of_below hb (some g))
        clear hb HU2 t2 hG2
        dsimp only
        have r0 := t3.cell 0 (v := .int .i64 0) rfl
        have rf0 := t3.loose 0 (v := .int .i64 0) rfl
        have r1 := t3.cell 1 (v := .int .i64 0) rfl
        have rf1 := t3.loose 1 (v := .int .i64 0) rfl
        have r2 := t3.cell 2 (v := .bool false) rfl
        have rf2 := t3.loose 2 (v := .bool false) rfl
        have r3 := t3.cell 3 (v := .int .i64 0) rfl
        have rf3 := t3.loose 3 (v := .int .i64 0) rfl
        clear t3
        go_wp2_with fail
        exact bodyPost_ret (v := .agg #[.int .i64 3, .int .i64 0, .bool false, .int .i64 m]) (by simp [results, Try.results116, go_sem, r0, r1, r2, r3]) rfl
          ⟨3, 0, false, m, rfl, ⟨(by decide : (Lit.int .i64 3).wf = true), wf_0, trivial, Hm.out⟩, curX HU3.out hlt hs0 _ _ _ _, farX hG3 (Nat.le_refl _) _ _ _ _⟩
      · have h2' : (k == 2) = false := by simpa using h2
        by_cases h3 : k = 3
        · subst h3
          have r0 := t1.cell 0 (v := .int .i64 0) rfl
          have rf0 := t1.loose 0 (v := .int .i64 0) rfl
          have r1 := t1.cell 1 (v := .int .i64 0) rfl
          have rf1 := t1.loose 1 (v := .int .i64 0) rfl
          have r2 := t1.cell 2 (v := .bool false) rfl
          have rf2 := t1.loose 2 (v := .bool false) rfl
          have r3 := t1.cell 3 (v := .int .i64 0) rfl
          have rf3 := t1.loose 3 (v := .int .i64 0) rfl
          clear t1
          go_wp2_with fail
          exact bodyPost_ret (v := .agg #[.int .i64 4, .int .i64 0, .bool false, .int .i64 0]) (by simp [results, Try.results116, go_sem, r0, r1, r2, r3]) rfl
            ⟨4, 0, false, 0, rfl, ⟨(by decide : (Lit.int .i64 4).wf = true), wf_0, trivial, wf_0⟩, curX HU1.out hlt hs0 _ _ _ _, farX hG1 (Nat.le_refl _) _ _ _ _⟩
        · have h3' : (k == 3) = false := by simpa using h3
          have r0 := t1.cell 0 (v := .int .i64 0) rfl
          have rf0 := t1.loose 0 (v := .int .i64 0) rfl
          have r1 := t1.cell 1 (v := .int .i64 0) rfl
          have rf1 := t1.loose 1 (v := .int .i64 0) rfl
          have r2 := t1.cell 2 (v := .bool false) rfl
          have rf2 := t1.loose 2 (v := .bool false) rfl
          have r3 := t1.cell 3 (v := .int .i64 0) rfl
          have rf3 := t1.loose 3 (v := .int .i64 0) rfl
          clear t1
          go_wp2_with fail
          exact bodyPost_ret (v := .agg #[.int .i64 0, .int .i64 0, .bool false, .int .i64 0]) (by simp [results, Try.results116, go_sem, r0, r1, r2, r3]) rfl
            ⟨0, 0, false, 0, rfl, ⟨wf_0, wf_0, trivial, wf_0⟩, curX HU1.out hlt hs0 _ _ _ _, farX hG1 (Nat.le_refl _) _ _ _ _⟩
set_option maxRecDepth 100000 in
set_option maxHeartbeats 8000000 in
theorem anyExit_any (w0 : World) (A : Option Addr) (n c g : Nat) (w : World) (hn : n ≤ 1048576) (hcode : CodeAt w0 A n) (hcur : Cur w0 A n c w g) :
    Calls Try.prog 91 #[.pointer (some ⟨g, 0, none⟩)] w (XPost w0 A n c w g) := by
  have HC := Lib.hid hcode
  have hlt := hcur.lt
  have hs0 := hcur.1.size
  have t0 : Var (w.alloc (.cells #[.int .i64 0, .int .i64 0, .bool false, .int .i64 0] 29)) w.heap.size [.int .i64 0, .int .i64 0, .bool false, .int .i64 0] := Var.new w [.int .i64 0, .int .i64 0, .bool false, .int .i64 0] 29
  have HU := Lib.hid (hcur.alloc (.cells #[.int .i64 0, .int .i64 0, .bool false, .int .i64 0] 29))
  have hG0 := grown_new w (.cells #[.int .i64 0, .int .i64 0, .bool false, .int .i64 0] 29) (some g)
  have hz0 : w.heap.size < (w.alloc (.cells #[.int .i64 0, .int .i64 0, .bool false, .int .i64 0] 29)).heap.size := by simp
  clear hcode hcur
  go_enter Try.func91, Try.ntmps91
  go_wp2_with fail
  generalize w.alloc (.cells #[.int .i64 0, .int .i64 0, .bool false, .int .i64 0] 29) = W0 at t0 HU hG0 hz0 ⊢
  refine (exit_any w0 A n c g _ hn HC.out HU.out).mono ?_
  rintro e W1 ⟨k, p, q, m, rfl, hw, hc1, hg1⟩
  have HW := Lib.hid hw
  have hG1 := gtr hG0 hg1
  have t1 := t0.grown hg1 (by omega)
  have hs1 := hg1.size
  have hgW1 := hc1.lt
  have n2 : Var (W1.alloc (.cells #[.int .i64 k, .int .i64 p, .bool q, .int .i64 m] 29)) W1.heap.size [.int .i64 k, .int .i64 p, .bool q, .int .i64 m] := Var.new W1 [.int .i64 k, .int .i64 p, .bool q, .int .i64 m] 29
  have HU2 := Lib.hid (hc1.alloc (.cells #[.int .i64 k, .int .i64 p, .bool q, .int .i64 m] 29))
  have hG2 := gtr hG1 (grown_new W1 (.cells #[.int .i64 k, .int .i64 p, .bool q, .int .i64 m] 29) _)
  have t2 := Var.below t1 ((Below.refl _ _).alloc (Nat.le_refl _) (.cells #[.int .i64 k, .int .i64 p, .bool q, .int .i64 m] 29)) (by omega)
  have hz2 : W1.heap.size < (W1.alloc (.cells #[.int .i64 k, .int .i64 p, .bool q, .int .i64 m] 29)).heap.size := by simp
  clear hw hc1 hg1 HU t0 hG0 t1 hG1
  have hne1 : W1.heap.size ≠ w.heap.size := by omega
  have hne2 : w.heap.size ≠ W1.heap.size := by omega
  go_wp2_with fail
  generalize W1.alloc (.cells #[.int .i64 k, .int .i64 p, .bool q, .int .i64 m] 29) = W2 at n2 HU2 hG2 t2 hz2 ⊢
  refine (below_any w0 A n c g _ 8 (by omega) (by omega) hn HC.out HU2.out).mono ?_
  rintro e W3 ⟨j, rfl, _, _, hc3, hg3⟩
  have t3 := t2.grown hg3 (by omega)
  have n3 := n2.grown hg3 (by omega)
  have HU3 := Lib.hid hc3
  have hG3 := gtr hG2 hg3
  have hs3 := hg3.size
  clear hc3 hg3 t2 n2 hG2 HU2
  by_cases h0 : j = 0
  · subst h0
    go_wp2_with fail
    refine (below_any w0 A n c g _ 7 (by omega) (by omega) hn HC.out HU3.out).mono ?_
    rintro e W4 ⟨z, rfl, z0, z1, hc4, hg4⟩
    have HZ := Lib.hid (wf_one z0 z1 (by omega))
    have t4 := t3.grown hg4 (by omega)
    have n4 := n3.grown hg4 (by omega)
    have HU4 := Lib.hid hc4
    have hG4 := gtr hG3 hg4
    clear hc4 hg4 t3 n3 hG3 HU3
    have r0 := t4.cell 0 (v := .int .i64 0) rfl
    have rf0 := t4.loose 0 (v := .int .i64 0) rfl
    have r1 := t4.cell 1 (v := .int .i64 0) rfl
    have rf1 := t4.loose 1 (v := .int .i64 0) rfl
    have r2 := t4.cell 2 (v := .bool false) rfl
    have rf2 := t4.loose 2 (v := .bool false) rfl
    have r3 := t4.cell 3 (v := .int .i64 0) rfl
    have rf3 := t4.loose 3 (v := .int .i64 0) rfl
    have v0 := n4.cell 0 (v := .int .i64 k) rfl
    have vf0 := n4.loose 0 (v := .int .i64 k) rfl
    have v1 := n4.cell 1 (v := .int .i64 p) rfl
    have vf1 := n4.loose 1 (v := .int .i64 p) rfl
    have v2 := n4.cell 2 (v := .bool q) rfl
    have vf2 := n4.loose 2 (v := .bool q) rfl
    have v3 := n4.cell 3 (v := .int .i64 m) rfl
    have vf3 := n4.loose 3 (v := .int .i64 m) rfl
    clear t4 n4
    go_wp2_with fail
    exact bodyPost_ret (v := .agg #[.int .i64 (z - 1), .int .i64 p, .bool q, .int .i64 m]) (by simp [results, Try.results91, go_sem, r0, r1, r2, r3, v0, v1, v2, v3, hne1, hne2]) rfl
      ⟨(z - 1), p, q, m, rfl, ⟨HZ.out, HW.out.2⟩, curX (var_cur HU4.out hgW1 (by omega) _ _) hlt hs0 _ _ _ _, farX (grown_far hG4 (by omega) _ _) (Nat.le_refl _) _ _ _ _⟩
  · have h0' : (j == 0) = false := by simpa using h0
    by_cases h1 : j = 1
    · subst h1
      go_wp2_with fail
      refine (pick_any w0 A n c g _ W3.heap.size 3 [-1, 3, 4] (by decide) (by decide) hn HC.out (HU3.out.alloc _) (by omega) rfl (heap_alloc_new W3 _)).mono ?_
      rintro e W4 ⟨z, rfl, hz, hc4, hg4⟩
      have HZ := Lib.hid (wf_in (by decide) hz)
      have t4 := (Var.below t3 ((Below.refl _ _).alloc (Nat.le_refl _) _) (by omega)).grown hg4 (by omega)
      have n4 := (Var.below n3 ((Below.refl _ _).alloc (Nat.le_refl _) _) (by omega)).grown hg4 (by omega)
      have hG4 := gtr (gtr hG3 (grown_new W3 _ _)) hg4
      have HU4 := Lib.hid hc4
      clear hz hc4 hg4 t3 n3 hG3 HU3
      have r0 := t4.cell 0 (v := .int .i64 0) rfl
      have rf0 := t4.loose 0 (v := .int .i64 0) rfl
      have r1 := t4.cell 1 (v := .int .i64 0) rfl
      have rf1 := t4.loose 1 (v := .int .i64 0) rfl
      have r2 := t4.cell 2 (v := .bool false) rfl
      have rf2 := t4.loose 2 (v := .bool false) rfl
      have r3 := t4.cell 3 (v := .int .i64 0) rfl
      have rf3 := t4.loose 3 (v := .int .i64 0) rfl
      have v0 := n4.cell 0 (v := .int .i64 k) rfl
      have vf0 := n4.loose 0 (v := .int .i64 k) rfl
      have v1 := n4.cell 1 (v := .int .i64 p) rfl
      have vf1 := n4.loose 1 (v := .int .i64 p) rfl
      have v2 := n4.cell 2 (v := .bool q) rfl
      have vf2 := n4.loose 2 (v := .bool q) rfl
      have v3 := n4.cell 3 (v := .int .i64 m) rfl
      have vf3 := n4.loose 3 (v := .int .i64 m) rfl
      clear t4 n4
      go_wp2_with fail
      exact bodyPost_ret (v := .agg #[.int .i64 k, .int .i64 z, .bool q, .int .i64 m]) (by simp [results, Try.results91, go_sem, r0, r1, r2, r3, v0, v1, v2, v3, hne1, hne2]) rfl
        ⟨k, z, q, m, rfl, ⟨HW.out.1, HZ.out, trivial, HW.out.2.2.2⟩, curX (var_cur HU4.out hgW1 (by omega) _ _) hlt hs0 _ _ _ _, farX (grown_far hG4 (by omega) _ _) (Nat.le_refl _) _ _ _ _⟩
    · have h1' : (j == 1) = false := by simpa using h1
      by_cases h2 : j = 2
      · subst h2
        go_wp2_with fail
        refine (pick_any w0 A n c g _ W3.heap.size 3 [-1, 99, 100] (by decide) (by decide) hn HC.out (HU3.out.alloc _) (by omega) rfl (heap_alloc_new W3 _)).mono ?_
        rintro e W4 ⟨z, rfl, hz, hc4, hg4⟩
        have HZ := Lib.hid (wf_in (by decide) hz)
        have t4 := (Var.below t3 ((Below.refl _ _).alloc (Nat.le_refl _) _) (by omega)).grown hg4 (by omega)
        have n4 := (Var.below n3 ((Below.refl _ _).alloc (Nat.le_refl _) _) (by omega)).grown hg4 (by omega)
        have hG4 := gtr (gtr hG3 (grown_new W3 _ _)) hg4
        have HU4 := Lib.hid hc4
        clear hz hc4 hg4 t3 n3 hG3 HU3
        have r0 := t4.cell 0 (v := .int .i64 0) rfl
        have rf0 := t4.loose 0 (v := .int .i64 0) rfl
        have r1 := t4.cell 1 (v := .int .i64 0) rfl
        have rf1 := t4.loose 1 (v := .int .i64 0) rfl
        have r2 := t4.cell 2 (v := .bool false) rfl
        have rf2 := t4.loose 2 (v := .bool false) rfl
        have r3 := t4.cell 3 (v := .int .i64 0) rfl
        have rf3 := t4.loose 3 (v := .int .i64 0) rfl
        have v0 := n4.cell 0 (v := .int .i64 k) rfl
        have vf0 := n4.loose 0 (v := .int .i64 k) rfl
        have v1 := n4.cell 1 (v := .int .i64 p) rfl
        have vf1 := n4.loose 1 (v := .int .i64 p) rfl
        have v2 := n4.cell 2 (v := .bool q) rfl
        have vf2 := n4.loose 2 (v := .bool q) rfl
        have v3 := n4.cell 3 (v := .int .i64 m) rfl
        have vf3 := n4.loose 3 (v := .int .i64 m) rfl
        clear t4 n4
        go_wp2_with fail
        exact bodyPost_ret (v := .agg #[.int .i64 k, .int .i64 p, .bool q, .int .i64 z]) (by simp [results, Try.results91, go_sem, r0, r1, r2, r3, v0, v1, v2, v3, hne1, hne2]) rfl
          ⟨k, p, q, z, rfl, ⟨HW.out.1, HW.out.2.1, trivial, HZ.out⟩, curX (var_cur HU4.out hgW1 (by omega) _ _) hlt hs0 _ _ _ _, farX (grown_far hG4 (by omega) _ _) (Nat.le_refl _) _ _ _ _⟩
      · have h2' : (j == 2) = false := by simpa using h2
        have r0 := t3.cell 0 (v := .int .i64 0) rfl
        have rf0 := t3.loose 0 (v := .int .i64 0) rfl
        have r1 := t3.cell 1 (v := .int .i64 0) rfl
        have rf1 := t3.loose 1 (v := .int .i64 0) rfl
        have r2 := t3.cell 2 (v := .bool false) rfl
        have rf2 := t3.loose 2 (v := .bool false) rfl
        have r3 := t3.cell 3 (v := .int .i64 0) rfl
        have rf3 := t3.loose 3 (v := .int .i64 0) rfl
        have v0 := n3.cell 0 (v := .int .i64 k) rfl
        have vf0 := n3.loose 0 (v := .int .i64 k) rfl
        have v1 := n3.cell 1 (v := .int .i64 p) rfl
        have vf1 := n3.loose 1 (v := .int .i64 p) rfl
        have v2 := n3.cell 2 (v := .bool q) rfl
        have vf2 := n3.loose 2 (v := .bool q) rfl
        have v3 := n3.cell 3 (v := .int .i64 m) rfl
        have vf3 := n3.loose 3 (v := .int .i64 m) rfl
        clear t3 n3
        go_wp2_with fail
        exact bodyPost_ret (v := .agg #[.int .i64 k, .int .i64 p, .bool q, .int .i64 m]) (by simp [results, Try.results91, go_sem, r0, r1, r2, r3, v0, v1, v2, v3, hne1, hne2]) rfl
          ⟨k, p, q, m, rfl, HW.out, curX HU3.out hlt hs0 _ _ _ _, farX hG3 (Nat.le_refl _) _ _ _ _⟩
end Go.Proofs.Ytdbhfadiinmgiaa.Exits
