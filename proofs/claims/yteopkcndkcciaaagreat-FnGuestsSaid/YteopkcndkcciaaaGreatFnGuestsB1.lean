/-
  The texts that FnGuests wants, part 1: Sx GuestX Addrs Ins SlotOneS TabOk InsSame Same Page MemMake BroughtSpec MemSet MemPut MemPutS SxEq. No condition.
-/
import Derived.Test.YteopkcndkcciaaaGreatFnGuestsB0
import Derived.BigQuiet
import Derived.Laws.CopyOwn
import Derived.Maps.AppendAt
import Derived.Laws.StructEq
namespace Go.Proofs.YteopkcndkcciaaaGreat.Sx
set_option maxRecDepth 100000
open Go.ChangeShapes Go.WideShapes Go.ChangeAt Go.RowKit Go.Deep
open Go.Proofs.YteopkcndkcciaaaGreat.Base Go.Proofs.YteopkcndkcciaaaGreat.Mem Go.Proofs.YteopkcndkcciaaaGreat.Data Go.Proofs.YteopkcndkcciaaaGreat.Stt
set_option linter.unusedVariables false
set_option linter.unusedSimpArgs false
abbrev Tl := List (Nat × Value)
/-- The value of a slot: the last that was put. -/
def look : Tl → Nat → Option Value
  | [], _ => none
  | (k, v) :: r, s => bif Nat.beq k s then some v else look r s
def ev (T : Tl) : Operand → Value
  | .tmp t => (look T t).getD undef
  | .const v => v
  | .global g => .pointer (some ⟨g, 0, none⟩)
  | .func f => .func (.func f) #[] #[]
def known (T : Tl) : Operand → Bool
  | .tmp t => (look T t).isSome
  | _ => true
def up (d : Option Tmp) (v : Value) (T : Tl) : Tl := match d with | some d => (d, v) :: T | none => T
def okDst (n : Nat) : Option Tmp → Bool
  | some d => Nat.blt d n
  | none => true
structure Ag (n : Nat) (T : Tl) (a : Act) : Prop where
  size : a.tmps.size = n
  defers : a.defers = []
  at_ : ∀ s v, look T s = some v → a.tmps[s]? = some v
section
variable {n : Nat} {T : Tl} {a : Act}
theorem Ag.put (h : Ag n T a) {d : Option Tmp} (hd : okDst n d = true) (v : Value) : Ag n (up d v T) (a.put d v) := by
  cases d with
  | none => exact h
  | some d =>
    have hd' : d < n := Nat.le_of_ble_eq_true hd
    refine ⟨by simp [Act.put, h.size], by simp [Act.put, h.defers], fun s u hs => ?_⟩
    simp only [up, look] at hs
    simp only [Act.put]
    by_cases e : d = s
    · subst e
      rw [Nat.beq_refl, cond_true] at hs
      cases hs
      rw [Array.getElem?_setIfInBounds_self_of_lt (by rw [h.size]; exact hd')]
    · have hb : Nat.beq d s = false := by rw [← Bool.not_eq_true, Nat.beq_eq]; exact e
      rw [hb, cond_false] at hs
      rw [Array.getElem?_setIfInBounds_ne e]
      exact h.at_ s u hs
theorem Ag.value (h : Ag n T a) {x : Operand} (hx : known T x = true) : a.eval x = ev T x := by
  cases x with
  | tmp t =>
    cases hl : look T t with
    | none => rw [known, hl] at hx; cases hx
    | some v =>
      show a.tmps.getD t undef = (look T t).getD undef
      rw [hl, Array.getD_eq_getD_getElem?, h.at_ t v hl]
  | _ => rfl
end
/-- Neither select. -/
def plainOp (o : Oper) : Bool := match o.op with | .select _ _ => false | _ => true
def opsKnown (T : Tl) (o : Oper) : Bool := o.op.operands.toList.all (known T)
theorem Ag.exec {n : Nat} {T : Tl} {a : Act} (h : Ag n T a) {o : Oper} (hp : plainOp o = true) (hk : opsKnown T o = true) : execOp a.eval o = execOp (ev T) o :=
  execOp_congr o (fun cs b e => by simp [plainOp, e] at hp) fun x hx => h.value (List.all_eq_true.1 hk x (by simpa using hx))
/-- Is the guard's slot known as a boolean; is the operation wanted? -/
def gval (T : Tl) (ops : Array Oper) (j : Nat) : Option Bool :=
  match (ops[j]?).bind (·.dst) with
  | some d => (match look T d with | some (.bool b) => some b | _ => none)
  | none => none
def gk (T : Tl) (ops : Array Oper) (o : Oper) : Bool := match o.guard with | none => true | some (j, _) => (match (ops[j]?).bind (·.dst) with | some d => (look T d).isSome | none => false)
def wt (T : Tl) (ops : Array Oper) (o : Oper) : Bool := match o.guard with | none => true | some (j, b) => gval T ops j == some b
theorem Ag.want {n : Nat} {T : Tl} {a : Act} (h : Ag n T a) {ops : Array Oper} {o : Oper} (hk : gk T ops o = true) : Region.wanted o (yielded ops a.tmps) = wt T ops o := by
  unfold Region.wanted wt
  unfold gk at hk
  cases hg : o.guard with
  | none => rfl
  | some p =>
    obtain ⟨j, b⟩ := p
    rw [hg] at hk
    simp only at hk ⊢
    have key : yielded ops a.tmps j = gval T ops j := by
      unfold gval
      unfold yielded
      cases hd : (ops[j]?).bind (·.dst) with
      | none => rw [hd] at hk; cases hk
      | some d =>
        rw [hd] at hk
        simp only at hk ⊢
        cases hl : look T d with
        | none => rw [hl] at hk; cases hk
        | some v =>
          rw [hl] at hk
          simp only [Option.bind_some, h.at_ d v hl]
          cases v <;> simp_all
    rw [key]
/-- What an operation wants. -/
def chk (n : Nat) (T : Tl) (ops : Array Oper) (o : Oper) : Bool := gk T ops o && wt T ops o && plainOp o && opsKnown T o && okDst n o.dst
def chkNo (n : Nat) (T : Tl) (ops : Array Oper) (o : Oper) : Bool := gk T ops o && !wt T ops o && okDst n o.dst
structure Chk (n : Nat) (T : Tl) (ops : Array Oper) (o : Oper) (a : Act) : Prop where
  want : Region.wanted o (yielded ops a.tmps) = true
  exec : execOp a.eval o = execOp (ev T) o
  ok : okDst n o.dst = true
theorem Ag.takes {n : Nat} {T : Tl} {a : Act} (h : Ag n T a) {ops : Array Oper} {o : Oper} (hc : chk n T ops o = true) : Chk n T ops o a := by
  unfold chk at hc
  simp only [Bool.and_eq_true] at hc
  exact ⟨(h.want hc.1.1.1.1).trans hc.1.1.1.2, h.exec hc.1.1.2 hc.1.2, hc.2⟩
/-- Is the type's value a row of cells, or one cell? -/
def isRow (P : Program) (t : TypeId) : Bool := match P.underlying t with | some d => d.isRow | none => false
def isCell (P : Program) (t : TypeId) : Bool := match P.underlying t with | some d => !d.isRow | none => false
theorem isRow_spec {P : Program} {t : TypeId} (h : isRow P t = true) : ∃ d, P.underlying t = some d ∧ d.isRow = true := by
  unfold isRow at h
  cases hu : P.underlying t with
  | none => rw [hu] at h; cases h
  | some d => rw [hu] at h; exact ⟨d, rfl, h⟩
theorem isCell_spec {P : Program} {t : TypeId} (h : isCell P t = true) : ∃ d, P.underlying t = some d ∧ d.isRow = false := by
  unfold isCell at h
  cases hu : P.underlying t with
  | none => rw [hu] at h; cases h
  | some d => rw [hu] at h; exact ⟨d, rfl, by simpa using h⟩
def G (P : Program) (n : Nat) (ops : Array Oper) (Q : Exit → Act → World → Prop) (w0 : World) (T : Tl) (L : List Res) (rest : List Oper) : Prop := ∀ a w, Ag n T a → St w0 w L → wpList P ops Q rest a w
def C (P : Program) (n : Nat) (Q : Exit → Act → World → Prop) (w0 : World) (T : Tl) (L : List Res) (c : Code) : Prop := ∀ a w, Ag n T a → St w0 w L → c.wp P Q a w
def E (n : Nat) (Q : Exit → Act → World → Prop) (w0 : World) (T : Tl) (L : List Res) (e : Exit) : Prop := ∀ a w, Ag n T a → St w0 w L → Q e a w
section
variable {P : Program} {n : Nat} {ops : Array Oper} {Q : Exit → Act → World → Prop} {w0 : World} {T : Tl} {L : List Res} {rest : List Oper} {o : Oper}
theorem G.nil (k : E n Q w0 T L .normal) : G P n ops Q w0 T L [] := fun a w hA S => wpList_nil (k a w hA S)
theorem wpList_takes {a : Act} {w : World} (hw : Region.wanted o (yielded ops a.tmps) = true) (h : o.wp P a w (wpList P ops Q rest) Q) : wpList P ops Q (o :: rest) a w := by
  unfold wpList
  rw [if_pos hw]
  exact .inl h
/-- A value is computed. -/
theorem G.pure (v : Value) (hc : chk n T ops o = true) (hv : ∀ w, (execOp (ev T) o).run P w = .ok (.value v) w) (k : G P n ops Q w0 (up o.dst v T) L rest) : G P n ops Q w0 T L (o :: rest) := fun a w hA S => by
  have c := hA.takes hc
  refine wpList_takes c.want ?_
  unfold Oper.wp
  rw [c.exec, hv w]
  exact k _ _ (hA.put c.ok v) S
theorem G.pureq (v0 v : Value) (hc : chk n T ops o = true) (hv : ∀ w, (execOp (ev T) o).run P w = .ok (.value v0) w) (he : v0 = v) (k : G P n ops Q w0 (up o.dst v T) L rest) : G P n ops Q w0 T L (o :: rest) := G.pure v hc (fun w => he ▸ hv w) k
/-- .. in the worlds that hold the claims. -/
theorem G.reads (v : Value) (hc : chk n T ops o = true) (hv : ∀ w, St w0 w L → (execOp (ev T) o).run P w = .ok (.value v) w) (k : G P n ops Q w0 (up o.dst v T) L rest) : G P n ops Q w0 T L (o :: rest) := fun a w hA S => by
  have c := hA.takes hc
  refine wpList_takes c.want ?_
  unfold Oper.wp
  rw [c.exec, hv w S]
  exact k _ _ (hA.put c.ok v) S
/-- .. whatever the world becomes. -/
theorem G.turns (hc : chk n T ops o = true) (hv : ∀ w, St w0 w L → ∃ v w' L', (execOp (ev T) o).run P w = .ok (.value v) w' ∧ St w0 w' L' ∧ G P n ops Q w0 (up o.dst v T) L' rest) : G P n ops Q w0 T L (o :: rest) := fun a w hA S => by
  have c := hA.takes hc
  obtain ⟨v, w', L', h1, h2, h3⟩ := hv w S
  refine wpList_takes c.want ?_
  unfold Oper.wp
  rw [c.exec, h1]
  exact h3 _ _ (hA.put c.ok v) h2
theorem G.acts (hc : chk n T ops o = true) (hv : ∀ w, St w0 w L → ∃ w' L', (execOp (ev T) o).run P w = .ok .skip w' ∧ St w0 w' L' ∧ G P n ops Q w0 (up o.dst undef T) L' rest) : G P n ops Q w0 T L (o :: rest) := fun a w hA S => by
  have c := hA.takes hc
  obtain ⟨w', L', h1, h2, h3⟩ := hv w S
  refine wpList_takes c.want ?_
  unfold Oper.wp
  rw [c.exec, h1]
  exact h3 _ _ (hA.put c.ok undef) h2
theorem G.skip (hc : chkNo n T ops o = true) (k : G P n ops Q w0 (up o.dst undef T) L rest) : G P n ops Q w0 T L (o :: rest) := fun a w hA S => by
  unfold chkNo at hc
  simp only [Bool.and_eq_true, Bool.not_eq_true'] at hc
  unfold wpList
  rw [if_neg (by rw [hA.want hc.1.1, hc.1.2]; decide)]
  exact k _ _ (hA.put hc.2 undef) S
/-- A call. -/
theorem G.call (f : FuncId) (args : Array Value) (hc : chk n T ops o = true) (hf : ∀ w, (execOp (ev T) o).run P w = .ok (.enter f args) w)
    (h : ∀ w, St w0 w L → Calls P f args w fun e w' => ∃ v L', e = .returned v ∧ St w0 w' L' ∧ G P n ops Q w0 (up o.dst v T) L' rest) : G P n ops Q w0 T L (o :: rest) := fun a w hA S => by
  have c := hA.takes hc
  refine wpList_takes c.want ?_
  unfold Oper.wp
  rw [c.exec, hf w]
  refine (h w S).mono ?_
  rintro e w' ⟨v, L', rfl, h1, h2⟩
  exact h2 _ _ (hA.put c.ok v) h1
/-- .. that hands back plain values and leaves the old as it was. -/
theorem G.plain (f : FuncId) (args : Array Value) (v : Value) (hc : chk n T ops o = true) (hf : ∀ w, (execOp (ev T) o).run P w = .ok (.enter f args) w)
    (h : ∀ w, St w0 w L → Calls P f args w fun e w' => e = .returned v ∧ Below w.heap.size w w') (k : G P n ops Q w0 (up o.dst v T) L rest) : G P n ops Q w0 T L (o :: rest) :=
  G.call f args hc hf fun w S => (h w S).mono fun e w' ⟨he, hb⟩ => ⟨v, L, he, S.call hb, k⟩
/-- A variable. -/
theorem G.box (t : TypeId) (x : Operand) (vs : List Value) (hop : o.op = .box t x) (hc : chk n T ops o = true) (hx : (ev T x).cells = vs.toArray)
    (k : ∀ b, G P n ops Q w0 (up o.dst (.pointer (some ⟨b, 0, none⟩)) T) (vr b vs :: L) rest) : G P n ops Q w0 T L (o :: rest) :=
  G.turns hc fun w S => ⟨_, _, _, by
    unfold execOp
    simp only [hop, Sem.run_bind, Instr.box, newVar, newRow, run_newObj_alloc, Sem.run_pure, Result.andThen_ok, hx], S.alloc vs t, k _⟩
/-- A struct, or a part of one, is loaded. -/
theorem G.ld (t : TypeId) (x : Operand) (b off i : Nat) (vs cs : List Value) (hop : o.op = .load t x) (hc : chk n T ops o = true) (hx : ev T x = .pointer (some ⟨b, off, none⟩)) (hL : L[i]? = some (vr b vs)) (hcs : (vs.drop off).take cs.length = cs)
    (hr : isRow P t = true) (hi : (P.info? t).map (·.size) = some cs.length) (k : G P n ops Q w0 (up o.dst (.agg cs.toArray) T) L rest) : G P n ops Q w0 T L (o :: rest) :=
  G.reads _ hc (fun w S => by
    obtain ⟨d, hu, hd⟩ := isRow_spec hr
    unfold execOp
    have h := run_loadAt_mid (P := P) w b off t cs d (fun j v hv => S.cell i hL (off + j) (by
      rw [← hcs] at hv
      have hj : j < cs.length := by have := (List.getElem?_eq_some_iff.1 hv).1; rw [List.length_take] at this; omega
      rwa [List.getElem?_take, if_pos hj, List.getElem?_drop] at hv)) hu hd hi
    simp only [hop, hx, Sem.run_bind, h, Sem.run_pure, Result.andThen_ok]) k
/-- One cell. -/
theorem G.ld1 (t : TypeId) (x : Operand) (b off i : Nat) (vs : List Value) (v : Value) (hop : o.op = .load t x) (hc : chk n T ops o = true) (hx : ev T x = .pointer (some ⟨b, off, none⟩)) (hL : L[i]? = some (vr b vs)) (hv : vs[off]? = some v)
    (hr : isCell P t = true) (k : G P n ops Q w0 (up o.dst v T) L rest) : G P n ops Q w0 T L (o :: rest) :=
  G.reads v hc (fun w S => by
    obtain ⟨d, hu, hd⟩ := isCell_spec hr
    unfold execOp
    have h : (Instr.loadAt t (.pointer (some ⟨b, off, none⟩))).run P w = .ok v w := by
      have hcell := S.cell i hL off hv
      have hagg : (isAgg t).run P w = .ok false w := by
        unfold isAgg
        rw [Sem.run_bind, run_underlying hu w]
        cases d <;> simp_all
      simp only [Instr.loadAt, Instr.sureAddr, loadVar, Sem.run_bind, Sem.run_pure, Result.andThen_ok, hagg, Bool.false_eq_true, if_false, run_load, hcell]
    simp only [hop, hx, Sem.run_bind, h, Sem.run_pure, Result.andThen_ok]) k
theorem G.alloc (t : TypeId) (z : Value) (vs : List Value) (hop : o.op = .alloc t) (hc : chk n T ops o = true) (hz : ∀ w, (zeroValue t).run P w = .ok z w) (hx : z.cells = vs.toArray)
    (k : ∀ b, G P n ops Q w0 (up o.dst (.pointer (some ⟨b, 0, none⟩)) T) (vr b vs :: L) rest) : G P n ops Q w0 T L (o :: rest) :=
  G.turns hc fun w S => ⟨_, _, _, by
    unfold execOp
    simp only [hop, Sem.run_bind, Instr.alloc, newVar, newRow, hz, run_newObj_alloc, Sem.run_pure, Result.andThen_ok, hx], S.alloc vs t, k _⟩
/-- A value is stored into a variable, or into a part of it. -/
theorem G.sto (t : TypeId) (x y : Operand) (b off i : Nat) (vs us vs' : List Value) (L' : List Res) (hop : o.op = .store t x y) (hc : chk n T ops o = true) (hx : ev T x = .pointer (some ⟨b, off, none⟩)) (hy : (ev T y).cells = us.toArray) (hL : L[i]? = some (vr b vs))
    (hvs : (us.foldl (fun (p : List Value × Nat) u => (p.1.set p.2 u, p.2 + 1)) (vs, off)).1 = vs') (hL' : L.set i (vr b vs') = L') (hl : Nat.ble (off + us.length) vs.length = true) (hi : (P.info? t).map (·.size) = some us.length) (h1 : us.all (·.oneCell') = true)
    (k : G P n ops Q w0 (up o.dst undef T) L' rest) : G P n ops Q w0 T L (o :: rest) :=
  G.acts hc fun w S => by
    have hl' : off + us.length ≤ vs.length := Nat.le_of_ble_eq_true hl
    have ht : w.there b off us.toArray.size := fun j hj => by
      have hj' : off + j < vs.length := by simp at hj; omega
      exact ⟨by rw [S.cell i hL (off + j) (List.getElem?_eq_getElem hj')]; rfl, S.loose i hL (off + j) (List.getElem?_eq_getElem hj')⟩
    refine ⟨w.setCells b off us, L', ?_, ?_, k⟩
    · unfold execOp
      have hcells : (storeVar t ⟨b, off, none⟩ (ev T y)).run P w = (storeVar t ⟨b, off, none⟩ (.agg us.toArray)).run P w := by
        unfold storeVar
        rw [hy]
        rfl
      have hs := run_storeVar_mid (P := P) w b off t us.toArray ht (by simpa using hi) (by simpa using h1)
      simp only [hop, Sem.run_bind, Instr.storeAt, Instr.sureAddr, hx, Sem.run_pure, Result.andThen_ok, hcells, hs]
    · subst hvs hL'
      exact S.turn i hL (vr b _) (Only.setCells (show (vr b vs).foot b from rfl) us off w) (Var.setCells us vs off w (S.at_ i hL)) (fun k hk => .inl hk) (show w0.heap.size ≤ b from S.lo i (vr b vs) hL) (by rw [setCells_size]; have := S.hi i (vr b vs) hL; simpa [vr] using this)
def elemB (P : Program) (t e : TypeId) (size bytes : Nat) : Bool :=
  match P.underlying t, P.info? e with
  | some (.slice e'), some i => Nat.beq e' e && Nat.beq i.size size && Nat.beq i.bytes bytes && Nat.blt 0 size && (match i.zero with | some z => Nat.beq z.cells.size size | none => false)
  | _, _ => false
theorem elemB_spec {t e : TypeId} {size bytes : Nat} (h : elemB P t e size bytes = true) : P.underlying t = some (.slice e) ∧ 0 < size ∧ ∃ i z, P.info? e = some i ∧ i.zero = some z ∧ i.size = size ∧ i.bytes = bytes ∧ z.cells.size = size := by
  unfold elemB at h
  cases hu : P.underlying t with
  | none => rw [hu] at h; cases h
  | some d =>
    rw [hu] at h
    cases d with
    | slice e' =>
      cases hi : P.info? e with
      | none => rw [hi] at h; cases h
      | some i =>
        rw [hi] at h
        simp only [Bool.and_eq_true, Nat.beq_eq] at h
        obtain ⟨⟨⟨⟨h1, h2⟩, h3⟩, h4⟩, h5⟩ := h
        subst h1
        cases hz : i.zero with
        | none => rw [hz] at h5; cases h5
        | some z => rw [hz] at h5; exact ⟨rfl, Nat.le_of_ble_eq_true h4, i, z, rfl, hz, h2, h3, by simpa using h5⟩
    | _ => cases h
/-- A slice made of nothing. -/
theorem G.fresh {α : Type} (e : TypeId) (r : Rp α) (hc : chk n T ops o = true) (hr : ∀ w : World, (execOp (ev T) o).run P w = .ok (.value (.slice (some ⟨w.heap.size, 0, none⟩) 0 0)) (w.alloc (.cells #[] e)))
    (k : ∀ b hi, G P n ops Q w0 (up o.dst (.slice (some ⟨b, 0, none⟩) 0 0) T) (ow (rLst e r) b hi [] [.slice (some ⟨b, 0, none⟩) 0 0] [b] :: L) rest) : G P n ops Q w0 T L (o :: rest) :=
  G.turns hc fun w S => ⟨_, _, _, hr w, S.fresh e r, k _ _⟩
/-- .. and of something: a variable of its own. -/
theorem G.made (e : TypeId) (vs : List Value) (m : Nat) (hc : chk n T ops o = true) (hr : ∀ w : World, (execOp (ev T) o).run P w = .ok (.value (.slice (some ⟨w.heap.size, 0, none⟩) m m)) (w.alloc (.cells vs.toArray e)))
    (k : ∀ b, G P n ops Q w0 (up o.dst (.slice (some ⟨b, 0, none⟩) m m) T) (vr b vs :: L) rest) : G P n ops Q w0 T L (o :: rest) :=
  G.turns hc fun w S => ⟨_, _, _, hr w, S.alloc vs e, k _⟩
/-- What 'append' does (XStOp's law, as a run). -/
theorem apps_run {α : Type} {r : Rp α} {e : TypeId} {o : Oper} {ρ : Operand → Value} {w : World} (S : St w0 w L) (k : Nat) {lo hi : Nat} {xs : List α} {v : Value} {F : List Nat} (hk : L[k]? = some (ow (rLst e r) lo hi xs [v] F))
    {ys zs : List α} {vx : Value} (hxs : rdLst r w 0 w.heap.size ys [vx]) (hzz : xs ++ ys = zs) (m : Nat) (hm : zs.length = m) (hf : Flat r)
    (s x : Operand) (t : TypeId) (ho : o.op = .call { callee := .builtin .append, args := #[s, x], argTypes := #[t, t] })
    (i : TypeInfo) (z : Value) (size bytes : Nat) (ht : P.underlying t = some (.slice e)) (hi' : P.info? e = some i) (hz : i.zero = some z) (hsize : i.size = size) (hby : i.bytes = bytes) (hzs : z.cells.size = size) (hsz : 0 < size) (hr : r.sz = size)
    (hs : ρ s = v) (hx : ρ x = vx) (h63 : xs.length + ys.length ≤ maxLen) (hbytes : (xs.length + ys.length) * bytes ≤ 140737488355328) :
    ∃ A c F' w', m ≤ c ∧ (execOp ρ o).run P w = .ok (.value (.slice A m c)) w' ∧ St w0 w' (L.set k (ow (rLst e r) w0.heap.size w'.heap.size zs [.slice A m c] F')) := by
  subst hm
  obtain ⟨⟨v', ds0, F1, e1, hF, hall, hrow, hhi⟩, hnd⟩ := S.at_ k hk
  cases e1
  have hlo' : w0.heap.size ≤ lo := S.lo k _ hk
  have hhi' : hi ≤ w.heap.size := S.hi k _ hk
  obtain ⟨A, c, ds, e2, hc, hrd, hl⟩ := hxs
  cases e2
  have hlen := rdAll_len hrd
  subst hr hzz
  obtain ⟨v', w', hrun, hown, hgr, hat⟩ := run_app (P := P) w w0.heap.size t o.type e i z r.sz bytes ht hi' hz hsize hby hzs hsz v xs.length ds0 (ownsRow_low hrow hlo') A ys.length c ds hlen (fun j u hu => by
    obtain ⟨b, off, e, _, _, hcell⟩ := hl j u hu
    exact ⟨_, e, by rw [Addr.add_lit]; exact hcell⟩) (flat_ones hf hrd) h63 hbytes S.below.size
  have hx1 : (execOp ρ o).run P w = .ok (.value v') w' := by
    unfold execOp
    simp only [ho, resolve, invoke, builtin, Sem.run_bind, Sem.run_pure, Result.andThen_ok, List.map_toArray, List.map_cons, List.map_nil, hs, hx, hrun]
  have hcl := app_claim (b0 := w0.heap.size) hnd hlo' hhi' hF hall hrow (flat_all hf w w0.heap.size w.heap.size hrd) (by simp) (fun q _ => by simp) (Nat.le_refl _) (Nat.le_refl _) hown hgr hat
  obtain ⟨A', c', rfl, hc'⟩ := row_form hown
  rw [← List.length_append] at hcl hc'
  have hfoot : ∀ q, v.ownBlock = some q → (ow (rLst e r) lo hi xs [v] F).foot q := fun q hq => ⟨by rw [hF]; simp [hq], (hrow.lt q hq).1, hhi q hq⟩
  refine ⟨A', c', _, w', hc', by rw [← List.length_append] at hx1; exact hx1, S.turn k hk _ (Only.of_grown hgr hfoot) hcl (fun q hq => ?_) (Nat.le_refl _) (Nat.le_refl _)⟩
  obtain ⟨hq, _, hq2⟩ := hq
  rw [List.append_nil] at hq
  rcases List.mem_append.1 hq with hq | hq
  · have hq' : (Value.slice A' (xs.length + ys.length) c').ownBlock = some q := by rw [← List.length_append]; simpa using hq
    rcases hat with h5 | h5
    · exact .inl (hfoot q (h5.symm.trans hq'))
    · rw [h5] at hq'; cases hq'; right; exact Nat.le_refl _
  · have := ownAll_inF hall q hq
    exact .inl ⟨by rw [hF]; simp [hq], this⟩
/-- 'append(x, ys...)' onto a row of the call's own. -/
theorem G.apps {α : Type} {r : Rp α} {e : TypeId} (j : Nat) {lo hi : Nat} {xs : List α} {v : Value} {F : List Nat} (hk : L[j]? = some (ow (rLst e r) lo hi xs [v] F)) {ys : List α} (zs : List α) {vx : Value} (hxs : ∀ w, St w0 w L → rdLst r w 0 w.heap.size ys [vx]) (hzz : xs ++ ys = zs) (m : Nat) (hm : zs.length = m) (hf : Flat r)
    (s x : Operand) (t : TypeId) (size bytes : Nat) (hg : o.guard = none) (hop : o.op = .call { callee := .builtin .append, args := #[s, x], argTypes := #[t, t] }) (hc : chk n T ops o = true) (he : elemB P t e size bytes = true) (hr : r.sz = size)
    (hs : ev T s = v) (hx : ev T x = vx) (h63 : xs.length + ys.length ≤ maxLen) (hbytes : (xs.length + ys.length) * bytes ≤ 140737488355328)
    (k : ∀ A c F' hi', m ≤ c → G P n ops Q w0 (up o.dst (.slice A m c) T) (L.set j (ow (rLst e r) w0.heap.size hi' zs [.slice A m c] F')) rest) : G P n ops Q w0 T L (o :: rest) := fun a w hA S => by
  obtain ⟨ht, hsz, i, z, hi', hz, hsize, hby, hzs⟩ := elemB_spec he
  have hkn : opsKnown T o = true := by unfold chk at hc; simp only [Bool.and_eq_true] at hc; exact hc.1.2
  have hkk : ∀ y ∈ o.op.operands, a.eval y = ev T y := fun y hy => hA.value (List.all_eq_true.1 hkn y (by simpa using hy))
  have hops : o.op.operands = #[s, x] := by rw [hop]; simp [Op.operands, Call.operands]
  refine wpList_apps S j hk (hxs w S) hzz m hm hf hg s x t hop i z size bytes ht hi' hz hsize hby hzs hsz hr ?_ ?_ h63 hbytes fun A c F' w' hmc S' => k A c F' _ hmc _ _ (hA.put (hA.takes hc).ok _) S'
  · rw [hkk s (by rw [hops]; simp), hs]
  · rw [hkk x (by rw [hops]; simp), hx]
theorem run_cell {t : TypeId} {b off : Nat} {v : Value} {w : World} (hr : isCell P t = true) (hcell : w.cell? ⟨b, off, none⟩ = some v) : (Instr.loadAt t (.pointer (some ⟨b, off, none⟩))).run P w = .ok v w := by
  obtain ⟨d, hu, hd⟩ := isCell_spec hr
  have hagg : (isAgg t).run P w = .ok false w := by
    unfold isAgg
    rw [Sem.run_bind, run_underlying hu w]
    cases d <;> simp_all
  simp only [Instr.loadAt, Instr.sureAddr, loadVar, Sem.run_bind, Sem.run_pure, Result.andThen_ok, hagg, Bool.false_eq_true, if_false, run_load, hcell]
theorem wrap_up (k : Nat) (h : k ≤ 9223372036854775806) : IntKind.i64.wrap ((k : Int) + 1) = ((k + 1 : Nat) : Int) := by rw [IntKind.wrap_i64]; omega
theorem C.seq {x y : Code} (h : C P n (Exit.then (fun a w => y.wp P Q a w) Q) w0 T L x) : C P n Q w0 T L (.seq x y) := fun a w hA S => wp_seq (h a w hA S)
theorem C.region {id : Nat} {l : List Oper} (h : G P n l.toArray Q w0 T L l) : C P n Q w0 T L (.region id l.toArray false) := fun a w hA S => wp_region_lit (h a w hA S)
theorem C.block {id : Nat} {c : Code} (h : C P n (Exit.inBlock id Q) w0 T L c) : C P n Q w0 T L (.block id c) := fun a w hA S => wp_block (h a w hA S)
theorem C.exit {id : Nat} (h : E n Q w0 T L (.exit id)) : C P n Q w0 T L (.exit id) := fun a w hA S => wp_exit (h a w hA S)
theorem C.ret (h : E n Q w0 T L .ret) : C P n Q w0 T L .ret := fun a w hA S => wp_ret (h a w hA S)
theorem C.skip (h : E n Q w0 T L .normal) : C P n Q w0 T L .skip := fun a w hA S => wp_skip (h a w hA S)
theorem C.yes {c : Operand} {x y : Code} (hk : known T c = true) (hc : ev T c = .bool true) (h : C P n Q w0 T L x) : C P n Q w0 T L (.cond c x y) := fun a w hA S => wp_cond_true ((hA.value hk).trans hc) (h a w hA S)
theorem C.no {c : Operand} {x y : Code} (hk : known T c = true) (hc : ev T c = .bool false) (h : C P n Q w0 T L y) : C P n Q w0 T L (.cond c x y) := fun a w hA S => wp_cond_false ((hA.value hk).trans hc) (h a w hA S)
theorem E.out {e : Exit} {a : Act} {w : World} (h : E n Q w0 T L e) (hA : Ag n T a) (S : St w0 w L) : Q e a w := h a w hA S
theorem E.next {c : Code} {P' : Program} {Q' : Exit → Act → World → Prop} (h : C P' n Q' w0 T L c) : E n (Exit.then (fun a w => c.wp P' Q' a w) Q) w0 T L .normal := h
theorem E.then_ret {N : Act → World → Prop} (h : E n Q w0 T L .ret) : E n (Exit.then N Q) w0 T L .ret := h
theorem E.then_exit {N : Act → World → Prop} {id : Nat} (h : E n Q w0 T L (.exit id)) : E n (Exit.then N Q) w0 T L (.exit id) := h
theorem E.block_normal {id : Nat} (h : E n Q w0 T L .normal) : E n (Exit.inBlock id Q) w0 T L .normal := h
theorem E.block_hit {id : Nat} (h : E n Q w0 T L .normal) : E n (Exit.inBlock id Q) w0 T L (.exit id) := fun a w hA S => by
  show if id = id then Q .normal a w else Q (.exit id) a w
  rw [if_pos rfl]
  exact h a w hA S
noncomputable def leastOf (S : Nat → Prop) : Nat := Classical.epsilon fun m => S m ∧ ∀ k, S k → m ≤ k
theorem leastOf_spec {S : Nat → Prop} (h : ∃ m, S m) : S (leastOf S) ∧ ∀ k, S k → leastOf S ≤ k := by
  refine Classical.epsilon_spec (p := fun m => S m ∧ ∀ k, S k → m ≤ k) ?_
  obtain ⟨m, hm⟩ := h
  induction m using Nat.strongRecOn with
  | _ m ih =>
    by_cases h : ∃ k, k < m ∧ S k
    · obtain ⟨k, hk, hs⟩ := h
      exact ih k hk hs
    · exact ⟨m, hm, fun k hs => Nat.le_of_not_lt fun hk => h ⟨k, hk, hs⟩⟩
/-- What a round leaves behind. -/
def Again {α : Type} (n : Nat) (w0 : World) (p : α → Prop) (T : α → Tl) (L : α → List Res) (μ : α → Nat) (m : Nat) (a : Act) (w : World) : Prop := ∃ y, p y ∧ μ y < m ∧ Ag n (T y) a ∧ St w0 w (L y)
theorem C.loop {α : Type} {body : Code} (p : α → Prop) (T' : α → Tl) (L' : α → List Res) (μ : α → Nat) (x0 : α) (hp : p x0) (hT : ∀ a, Ag n T a → Ag n (T' x0) a) (hL : ∀ w, St w0 w L → St w0 w (L' x0))
    (round : ∀ x, p x → C P n (Exit.then (Again n w0 p T' L' μ (μ x)) Q) w0 (T' x) (L' x) body) : C P n Q w0 T L (.loop body) := fun a w hA S => by
  let I : Act → World → α → Prop := fun a w x => p x ∧ Ag n (T' x) a ∧ St w0 w (L' x)
  let M : Act → World → Nat := fun a w => leastOf fun m => ∃ x, I a w x ∧ μ x = m
  refine wp_loop (fun a w => ∃ x, I a w x) M ⟨x0, hp, hT a hA, hL w S⟩ fun a w ⟨x1, h1⟩ => ?_
  obtain ⟨⟨x, ⟨h2, h3, h4⟩, h5⟩, _⟩ := leastOf_spec (S := fun m => ∃ x, I a w x ∧ μ x = m) ⟨μ x1, x1, h1, rfl⟩
  refine wp_mono (round x h2 a w h3 h4) fun e a' w' hq => ?_
  cases e with
  | normal =>
    obtain ⟨y, hy1, hy2, hy3, hy4⟩ := hq
    refine ⟨⟨y, hy1, hy3, hy4⟩, ?_⟩
    have := (leastOf_spec (S := fun m => ∃ x, I a' w' x ∧ μ x = m) ⟨μ y, y, ⟨hy1, hy3, hy4⟩, rfl⟩).2 (μ y) ⟨y, ⟨hy1, hy3, hy4⟩, rfl⟩
    have hM : M a w = μ x := h5.symm
    show M a' w' < M a w
    rw [hM]
    exact Nat.lt_of_le_of_lt this hy2
  | _ => exact hq
theorem E.again {α : Type} {p : α → Prop} {T' : α → Tl} {L' : α → List Res} {μ : α → Nat} {m : Nat} (y : α) (hp : p y) (hμ : μ y < m) (hT : ∀ a, Ag n T a → Ag n (T' y) a) (hL : ∀ w, St w0 w L → St w0 w (L' y)) : E n (Exit.then (Again n w0 p T' L' μ m) Q) w0 T L .normal :=
  fun a w hA S => ⟨y, hp, hμ, hT a hA, hL w S⟩
/-- The function is left: its results. -/
theorem E.ret1 {fn : Func} {R : Ending → World → Prop} {t : Tmp} (v : Value) (hr : fn.results = #[.tmp t]) (ht : look T t = some v) (h : ∀ w, St w0 w L → R (.returned v) w) : E n (bodyPost P fn R) w0 T L .ret := fun a w hA S =>
  bodyPost_ret (v := v) (by rw [results_tmp hr, Array.getD_eq_getD_getElem?, hA.at_ t v ht]; rfl) hA.defers (h w S)
end
theorem St.tail {w0 w : World} {r : Res} {L : List Res} (S : St w0 w (r :: L)) : St w0 w L :=
  ⟨S.below, fun i s h => S.says (i + 1) s h, fun i s h => S.lo (i + 1) s h, fun i s h => S.hi (i + 1) s h, fun i j s t h1 h2 hne => S.apart (i + 1) (j + 1) s t h1 h2 (by omega)⟩
def GT (P : Program) (n : Nat) (ops : Array Oper) (Q : Exit → Act → World → Prop) (Z : World → Prop) (w0 : World) (T : Tl) (L : List Res) (t : Ord.Ot) : Prop := ∀ a w, Ag n T a → St w0 w L → Ord.wpOt P ops Q Z t a w
section
variable {P : Program} {n : Nat} {l : List Oper} {ops : Array Oper} {Q : Exit → Act → World → Prop} {w0 : World} {T : Tl} {L : List Res} {o : Oper} {Z : World → Prop} {t r : Ord.Ot}
theorem C.draw {id : Nat} {l : List Oper} (t : Ord.Ot) (Lz : List Res) (hZ : ∀ w, St w0 w L → St w0 w Lz) (hm : P.follows .mixedOrders = true) (hs : Region.noSelect l.toArray = true) (hB : Ord.ordT l.toArray l.toArray.size t (Array.replicate l.toArray.size false) = true)
    (h : GT P n l.toArray (NoPanic Q) (fun w => St w0 w Lz) w0 T L t) : C P n Q w0 T L (.region id l.toArray true) := fun a w hA S =>
  Ord.wp_region_tree (fun w => St w0 w Lz) t hm hs hB (hZ _ S.drew) (h a _ hA S.drew)
theorem GT.nil (k : E n Q w0 T L .normal) : GT P n ops (NoPanic Q) Z w0 T L .nil := fun a w hA S => Ord.ot_nil (k a w hA S)
theorem at_list {i : Nat} (h : l[i]? = some o) : l.toArray[i]? = some o := by simpa using h
theorem GT.pure (v : Value) (i : Nat) (ho : l[i]? = some o) (hc : chk n T l.toArray o = true) (hv : ∀ w, (execOp (ev T) o).run P w = .ok (.value v) w) (k : GT P n l.toArray Q Z w0 (up o.dst v T) L r) : GT P n l.toArray Q Z w0 T L (.take i r) := fun a w hA S => by
  have c := hA.takes hc
  exact Ord.ot_take (at_list ho) c.want (fun w' _ => by rw [c.exec]; exact hv w') (k _ _ (hA.put c.ok v) S)
theorem GT.pureq (v0 v : Value) (i : Nat) (ho : l[i]? = some o) (hc : chk n T l.toArray o = true) (hv : ∀ w, (execOp (ev T) o).run P w = .ok (.value v0) w) (he : v0 = v) (k : GT P n l.toArray Q Z w0 (up o.dst v T) L r) : GT P n l.toArray Q Z w0 T L (.take i r) := GT.pure v i ho hc (fun w => he ▸ hv w) k
theorem GT.reads (v : Value) (i : Nat) (ho : l[i]? = some o) (hc : chk n T l.toArray o = true) (hv : ∀ w, Z w → (execOp (ev T) o).run P w = .ok (.value v) w) (k : GT P n l.toArray Q Z w0 (up o.dst v T) L r) : GT P n l.toArray Q Z w0 T L (.take i r) := fun a w hA S => by
  have c := hA.takes hc
  exact Ord.ot_take (at_list ho) c.want (fun w' hZ => by rw [c.exec]; exact hv w' hZ) (k _ _ (hA.put c.ok v) S)
theorem GT.skip (i : Nat) (ho : l[i]? = some o) (hc : chkNo n T l.toArray o = true) (k : GT P n l.toArray Q Z w0 (up o.dst undef T) L r) : GT P n l.toArray Q Z w0 T L (.take i r) := fun a w hA S => by
  unfold chkNo at hc
  simp only [Bool.and_eq_true, Bool.not_eq_true'] at hc
  exact Ord.ot_skip (at_list ho) ((hA.want hc.1.1).trans hc.1.2) (k _ _ (hA.put hc.2 undef) S)
/-- A struct, or a part of one, of the claims that the region began with. -/
theorem GT.ld {L0 : List Res} (t : TypeId) (x : Operand) (b off j : Nat) (vs cs : List Value) (i : Nat) (ho : l[i]? = some o) (hop : o.op = .load t x) (hc : chk n T l.toArray o = true) (hx : ev T x = .pointer (some ⟨b, off, none⟩)) (hL : L0[j]? = some (vr b vs)) (hcs : (vs.drop off).take cs.length = cs)
    (hr : isRow P t = true) (hi : (P.info? t).map (·.size) = some cs.length) (k : GT P n l.toArray Q (fun w => St w0 w L0) w0 (up o.dst (.agg cs.toArray) T) L r) : GT P n l.toArray Q (fun w => St w0 w L0) w0 T L (.take i r) :=
  GT.reads _ i ho hc (fun w S => by
    obtain ⟨d, hu, hd⟩ := isRow_spec hr
    unfold execOp
    have h := run_loadAt_mid (P := P) w b off t cs d (fun j' v hv => S.cell j hL (off + j') (by
      rw [← hcs] at hv
      have hj : j' < cs.length := by have := (List.getElem?_eq_some_iff.1 hv).1; rw [List.length_take] at this; omega
      rwa [List.getElem?_take, if_pos hj, List.getElem?_drop] at hv)) hu hd hi
    simp only [hop, hx, Sem.run_bind, h, Sem.run_pure, Result.andThen_ok]) k
theorem GT.ld1 {L0 : List Res} (t : TypeId) (x : Operand) (b off j : Nat) (vs : List Value) (v : Value) (i : Nat) (ho : l[i]? = some o) (hop : o.op = .load t x) (hc : chk n T l.toArray o = true) (hx : ev T x = .pointer (some ⟨b, off, none⟩)) (hL : L0[j]? = some (vr b vs)) (hv : vs[off]? = some v)
    (hr : isCell P t = true) (k : GT P n l.toArray Q (fun w => St w0 w L0) w0 (up o.dst v T) L r) : GT P n l.toArray Q (fun w => St w0 w L0) w0 T L (.take i r) :=
  GT.reads v i ho hc (fun w S => by
    obtain ⟨d, hu, hd⟩ := isCell_spec hr
    unfold execOp
    have h : (Instr.loadAt t (.pointer (some ⟨b, off, none⟩))).run P w = .ok v w := by
      have hcell := S.cell j hL off hv
      have hagg : (isAgg t).run P w = .ok false w := by
        unfold isAgg
        rw [Sem.run_bind, run_underlying hu w]
        cases d <;> simp_all
      simp only [Instr.loadAt, Instr.sureAddr, loadVar, Sem.run_bind, Sem.run_pure, Result.andThen_ok, hagg, Bool.false_eq_true, if_false, run_load, hcell]
    simp only [hop, hx, Sem.run_bind, h, Sem.run_pure, Result.andThen_ok]) k
/-- What stands alone. -/
theorem ot_one {i : Nat} {a : Act} {w : World} {n : Nat} (ho : ops[i]? = some o) (hA : Ag n T a) (hc : chk n T ops o = true) (h : ∀ K' : Act → World → Prop, Shut (∀ a w, Z w → Ord.wpOt P ops Q Z r a w → K' a w) → o.upon P a K' Q ((execOp (ev T) o).run P w)) :
    ∀ K' : Act → World → Prop, Shut (∀ a w, Z w → Ord.wpOt P ops Q Z r a w → K' a w) → if Region.wanted o (yielded ops a.tmps) = true then Oper.wp P o a w K' Q else K' (a.put o.dst undef) w := fun K' hK => by
  have c := hA.takes hc
  rw [if_pos c.want]
  unfold Oper.wp
  rw [c.exec]
  exact h K' hK
def Alone (P : Program) (n : Nat) (ops : Array Oper) (Q : Exit → Act → World → Prop) (Z : World → Prop) (w0 : World) (T : Tl) (L : List Res) (i : Nat) (r : Ord.Ot) : Prop := ∀ a w, Ag n T a → St w0 w L → ∃ o, ops[i]? = some o ∧ ∀ K' : Act → World → Prop, Shut (∀ a w, Z w → Ord.wpOt P ops Q Z r a w → K' a w) → if Region.wanted o (yielded ops a.tmps) = true then Oper.wp P o a w K' Q else K' (a.put o.dst undef) w
theorem GT.alone {i : Nat} (h : Alone P n ops Q Z w0 T L i r) : GT P n ops Q Z w0 T L (.alone i r) := fun a w hA S => by
  obtain ⟨o, ho, h⟩ := h a w hA S
  exact Ord.ot_alone ho h
theorem GT.two {i j : Nat} {s : Ord.Ot} (h : Alone P n ops Q Z w0 T L i r) (h' : Alone P n ops Q Z w0 T L j s) : GT P n ops Q Z w0 T L (.two i r j s) := fun a w hA S => by
  obtain ⟨o, ho, h⟩ := h a w hA S
  obtain ⟨o', ho', h'⟩ := h' a w hA S
  exact Ord.ot_two ho ho' h h'
theorem Alone.call {i : Nat} (f : FuncId) (args : Array Value) (ho : l[i]? = some o) (hc : chk n T l.toArray o = true) (hf : ∀ w, (execOp (ev T) o).run P w = .ok (.enter f args) w)
    (h : ∀ w, St w0 w L → Calls P f args w fun e w' => ∃ v L', e = .returned v ∧ St w0 w' L' ∧ (∀ w, St w0 w L' → Z w) ∧ GT P n l.toArray Q Z w0 (up o.dst v T) L' r) : Alone P n l.toArray Q Z w0 T L i r := fun a w hA S =>
  ⟨o, at_list ho, ot_one (at_list ho) hA hc fun K' hK => by
    rw [hf w]
    refine (h w S).mono ?_
    rintro e w' ⟨v, L', rfl, h1, h2, h3⟩
    exact hK.out _ _ (h2 _ h1) (h3 _ _ (hA.put (hA.takes hc).ok v) h1)⟩
theorem Alone.plain {i : Nat} (f : FuncId) (args : Array Value) (v : Value) (ho : l[i]? = some o) (hc : chk n T l.toArray o = true) (hf : ∀ w, (execOp (ev T) o).run P w = .ok (.enter f args) w)
    (h : ∀ w, St w0 w L → Calls P f args w fun e w' => e = .returned v ∧ Below w.heap.size w w') (hz : ∀ w, St w0 w L → Z w) (k : GT P n l.toArray Q Z w0 (up o.dst v T) L r) : Alone P n l.toArray Q Z w0 T L i r :=
  Alone.call f args ho hc hf fun w S => (h w S).mono fun e w' ⟨he, hb⟩ => ⟨v, L, he, S.call hb, hz, k⟩
theorem Alone.skip {i : Nat} (ho : l[i]? = some o) (hc : chkNo n T l.toArray o = true) (hz : ∀ w, St w0 w L → Z w) (k : GT P n l.toArray Q Z w0 (up o.dst undef T) L r) : Alone P n l.toArray Q Z w0 T L i r := fun a w hA S => by
  unfold chkNo at hc
  simp only [Bool.and_eq_true, Bool.not_eq_true'] at hc
  exact ⟨o, at_list ho, fun K' hK => by
    rw [if_neg (by rw [hA.want hc.1.1, hc.1.2]; decide)]
    exact hK.out _ _ (hz w S) (k _ _ (hA.put hc.2 undef) S)⟩
theorem Alone.turns {i : Nat} (ho : l[i]? = some o) (hc : chk n T l.toArray o = true) (hv : ∀ w, St w0 w L → ∃ v w' L', (execOp (ev T) o).run P w = .ok (.value v) w' ∧ St w0 w' L' ∧ (∀ w, St w0 w L' → Z w) ∧ GT P n l.toArray Q Z w0 (up o.dst v T) L' r) : Alone P n l.toArray Q Z w0 T L i r := fun a w hA S =>
  ⟨o, at_list ho, ot_one (at_list ho) hA hc fun K' hK => by
    obtain ⟨v, w', L', h1, h2, h3, h4⟩ := hv w S
    rw [h1]
    exact hK.out _ _ (h3 _ h2) (h4 _ _ (hA.put (hA.takes hc).ok v) h2)⟩
theorem Alone.acts {i : Nat} (ho : l[i]? = some o) (hc : chk n T l.toArray o = true) (hv : ∀ w, St w0 w L → ∃ w' L', (execOp (ev T) o).run P w = .ok .skip w' ∧ St w0 w' L' ∧ (∀ w, St w0 w L' → Z w) ∧ GT P n l.toArray Q Z w0 (up o.dst undef T) L' r) : Alone P n l.toArray Q Z w0 T L i r := fun a w hA S =>
  ⟨o, at_list ho, ot_one (at_list ho) hA hc fun K' hK => by
    obtain ⟨w', L', h1, h2, h3, h4⟩ := hv w S
    rw [h1]
    exact hK.out _ _ (h3 _ h2) (h4 _ _ (hA.put (hA.takes hc).ok undef) h2)⟩
theorem Alone.reads {i : Nat} (v : Value) (ho : l[i]? = some o) (hc : chk n T l.toArray o = true) (hv : ∀ w, St w0 w L → (execOp (ev T) o).run P w = .ok (.value v) w) (hz : ∀ w, St w0 w L → Z w) (k : GT P n l.toArray Q Z w0 (up o.dst v T) L r) : Alone P n l.toArray Q Z w0 T L i r :=
  Alone.turns ho hc fun w S => ⟨v, w, L, hv w S, S, hz, k⟩
theorem Alone.ld {i : Nat} (t : TypeId) (x : Operand) (b off j : Nat) (vs cs : List Value) (ho : l[i]? = some o) (hop : o.op = .load t x) (hc : chk n T l.toArray o = true) (hx : ev T x = .pointer (some ⟨b, off, none⟩)) (hL : L[j]? = some (vr b vs)) (hcs : (vs.drop off).take cs.length = cs)
    (hr : isRow P t = true) (hi : (P.info? t).map (·.size) = some cs.length) (hz : ∀ w, St w0 w L → Z w) (k : GT P n l.toArray Q Z w0 (up o.dst (.agg cs.toArray) T) L r) : Alone P n l.toArray Q Z w0 T L i r :=
  Alone.reads _ ho hc (fun w S => by
    obtain ⟨d, hu, hd⟩ := isRow_spec hr
    unfold execOp
    have h := run_loadAt_mid (P := P) w b off t cs d (fun j' v hv => S.cell j hL (off + j') (by
      rw [← hcs] at hv
      have hj : j' < cs.length := by have := (List.getElem?_eq_some_iff.1 hv).1; rw [List.length_take] at this; omega
      rwa [List.getElem?_take, if_pos hj, List.getElem?_drop] at hv)) hu hd hi
    simp only [hop, hx, Sem.run_bind, h, Sem.run_pure, Result.andThen_ok]) hz k
theorem Alone.ld1 {i : Nat} (t : TypeId) (x : Operand) (b off j : Nat) (vs : List Value) (v : Value) (ho : l[i]? = some o) (hop : o.op = .load t x) (hc : chk n T l.toArray o = true) (hx : ev T x = .pointer (some ⟨b, off, none⟩)) (hL : L[j]? = some (vr b vs)) (hv : vs[off]? = some v)
    (hr : isCell P t = true) (hz : ∀ w, St w0 w L → Z w) (k : GT P n l.toArray Q Z w0 (up o.dst v T) L r) : Alone P n l.toArray Q Z w0 T L i r :=
  Alone.reads v ho hc (fun w S => by
    unfold execOp
    simp only [hop, hx, Sem.run_bind, run_cell hr (S.cell j hL off hv), Sem.run_pure, Result.andThen_ok]) hz k
theorem Alone.alloc {i : Nat} (t : TypeId) (z : Value) (vs : List Value) (ho : l[i]? = some o) (hop : o.op = .alloc t) (hc : chk n T l.toArray o = true) (hz : ∀ w, (zeroValue t).run P w = .ok z w) (hx : z.cells = vs.toArray) (hZ : ∀ w, St w0 w L → Z w)
    (k : ∀ b, GT P n l.toArray Q Z w0 (up o.dst (.pointer (some ⟨b, 0, none⟩)) T) (vr b vs :: L) r) : Alone P n l.toArray Q Z w0 T L i r :=
  Alone.turns ho hc fun w S => ⟨_, _, _, by
    unfold execOp
    simp only [hop, Sem.run_bind, Instr.alloc, newVar, newRow, hz, run_newObj_alloc, Sem.run_pure, Result.andThen_ok, hx], S.alloc vs t, fun w S => hZ w (St.tail S), k _⟩
theorem Alone.sto {i : Nat} (t : TypeId) (x y : Operand) (b off j : Nat) (vs us vs' : List Value) (L' : List Res) (ho : l[i]? = some o) (hop : o.op = .store t x y) (hc : chk n T l.toArray o = true) (hx : ev T x = .pointer (some ⟨b, off, none⟩)) (hy : (ev T y).cells = us.toArray) (hL : L[j]? = some (vr b vs))
    (hvs : (us.foldl (fun (p : List Value × Nat) u => (p.1.set p.2 u, p.2 + 1)) (vs, off)).1 = vs') (hL' : L.set j (vr b vs') = L') (hl : Nat.ble (off + us.length) vs.length = true) (hi : (P.info? t).map (·.size) = some us.length) (h1 : us.all (·.oneCell') = true)
    (hZ : ∀ w, St w0 w L' → Z w) (k : GT P n l.toArray Q Z w0 (up o.dst undef T) L' r) : Alone P n l.toArray Q Z w0 T L i r :=
  Alone.acts ho hc fun w S => by
    have hl' : off + us.length ≤ vs.length := Nat.le_of_ble_eq_true hl
    have ht : w.there b off us.toArray.size := fun j' hj => by
      have hj' : off + j' < vs.length := by simp at hj; omega
      exact ⟨by rw [S.cell j hL (off + j') (List.getElem?_eq_getElem hj')]; rfl, S.loose j hL (off + j') (List.getElem?_eq_getElem hj')⟩
    refine ⟨w.setCells b off us, L', ?_, ?_, hZ, k⟩
    · unfold execOp
      have hcells : (storeVar t ⟨b, off, none⟩ (ev T y)).run P w = (storeVar t ⟨b, off, none⟩ (.agg us.toArray)).run P w := by
        unfold storeVar
        rw [hy]
        rfl
      have hs := run_storeVar_mid (P := P) w b off t us.toArray ht (by simpa using hi) (by simpa using h1)
      simp only [hop, Sem.run_bind, Instr.storeAt, Instr.sureAddr, hx, Sem.run_pure, Result.andThen_ok, hcells, hs]
    · subst hvs hL'
      exact S.turn j hL (vr b _) (Only.setCells (show (vr b vs).foot b from rfl) us off w) (Var.setCells us vs off w (S.at_ j hL)) (fun k hk => .inl hk) (show w0.heap.size ≤ b from S.lo j (vr b vs) hL) (by rw [setCells_size]; have := S.hi j (vr b vs) hL; simpa [vr] using this)
theorem Alone.made {i : Nat} (e : TypeId) (vs : List Value) (m : Nat) (ho : l[i]? = some o) (hc : chk n T l.toArray o = true) (hr : ∀ w : World, (execOp (ev T) o).run P w = .ok (.value (.slice (some ⟨w.heap.size, 0, none⟩) m m)) (w.alloc (.cells vs.toArray e))) (hZ : ∀ w, St w0 w L → Z w)
    (k : ∀ b, GT P n l.toArray Q Z w0 (up o.dst (.slice (some ⟨b, 0, none⟩) m m) T) (vr b vs :: L) r) : Alone P n l.toArray Q Z w0 T L i r :=
  Alone.turns ho hc fun w S => ⟨_, _, _, hr w, S.alloc vs e, fun w S => hZ w (St.tail S), k _⟩
theorem Alone.apps {i : Nat} {α : Type} {q : Rp α} {e : TypeId} (j : Nat) {lo hi : Nat} {xs : List α} {v : Value} {F : List Nat} (hk : L[j]? = some (ow (rLst e q) lo hi xs [v] F)) {ys : List α} (zs : List α) {vx : Value} (hxs : ∀ w, St w0 w L → rdLst q w 0 w.heap.size ys [vx]) (hzz : xs ++ ys = zs) (m : Nat) (hm : zs.length = m) (hf : Flat q)
    (s x : Operand) (t : TypeId) (size bytes : Nat) (ho : l[i]? = some o) (hop : o.op = .call { callee := .builtin .append, args := #[s, x], argTypes := #[t, t] }) (hc : chk n T l.toArray o = true) (he : elemB P t e size bytes = true) (hr : q.sz = size)
    (hs : ev T s = v) (hx : ev T x = vx) (h63 : xs.length + ys.length ≤ maxLen) (hbytes : (xs.length + ys.length) * bytes ≤ 140737488355328)
    (hZ : ∀ A c F' hi', ∀ w, St w0 w (L.set j (ow (rLst e q) w0.heap.size hi' zs [.slice A m c] F')) → Z w)
    (k : ∀ A c F' hi', m ≤ c → GT P n l.toArray Q Z w0 (up o.dst (.slice A m c) T) (L.set j (ow (rLst e q) w0.heap.size hi' zs [.slice A m c] F')) r) : Alone P n l.toArray Q Z w0 T L i r :=
  Alone.turns ho hc fun w S => by
    obtain ⟨ht, hsz, y, z, hi', hz, hsize, hby, hzs⟩ := elemB_spec he
    obtain ⟨A, c, F', w', hmc, h1, h2⟩ := apps_run S j hk (hxs w S) hzz m hm hf s x t hop y z size bytes ht hi' hz hsize hby hzs hsz hr hs hx h63 hbytes
    exact ⟨_, w', _, h1, h2, hZ A c F' _, k A c F' _ hmc⟩
/-- A region's end under a name of one's own: whatever way it took, this stands. -/
theorem C.cut {c : Code} (R : Exit → Act → World → Prop) (h : C P n R w0 T L c) (k : ∀ e a w, R e a w → Q e a w) : C P n Q w0 T L c := fun a w hA S => wp_mono (h a w hA S) k
theorem Ag.none {n : Nat} {T : Tl} {a : Act} (h : Ag n T a) : Ag n [] a := ⟨h.size, h.defers, fun s v hs => by cases hs⟩
theorem Ag.and {n : Nat} {T T' : Tl} {a : Act} (h : Ag n T a) (h' : Ag n T' a) (s : Nat) (v : Value) (hv : look T s = some v) : Ag n ((s, v) :: T') a :=
  ⟨h.size, h.defers, fun q u hq => by
    simp only [look] at hq
    by_cases e : s = q
    · subst e
      rw [Nat.beq_refl, cond_true] at hq
      cases hq
      exact h.at_ s v hv
    · have hb : Nat.beq s q = false := by rw [← Bool.not_eq_true, Nat.beq_eq]; exact e
      rw [hb, cond_false] at hq
      exact h'.at_ q u hq⟩
theorem E.retc {fn : Func} {R : Ending → World → Prop} {t : Tmp} {ty : TypeId} (b i : Nat) (vs : List Value) (hr : fn.results = #[.cell t ty]) (ht : look T t = some (.pointer (some ⟨b, 0, none⟩))) (hL : L[i]? = some (vr b vs)) (hrow : isRow P ty = true) (hi : (P.info? ty).map (·.size) = some vs.length)
    (h : ∀ w, St w0 w L → R (.returned (.agg vs.toArray)) w) : E n (bodyPost P fn R) w0 T L .ret := fun a w hA S => by
  obtain ⟨d, hu, hd⟩ := isRow_spec hrow
  have hl := run_loadVar_mid (P := P) w b 0 ty vs d (S.range i hL) hu hd hi
  have hg : a.tmps[t]?.getD undef = .pointer (some ⟨b, 0, none⟩) := by rw [hA.at_ t _ ht]; rfl
  exact bodyPost_ret (v := .agg vs.toArray) (by simp [results, hr, hg, asAddr, hl]) hA.defers (h w S)
theorem E.end_ {fn : Func} {R : Ending → World → Prop} (h : E n (bodyPost P fn R) w0 T L .ret) : E n (bodyPost P fn R) w0 T L .normal := h
end
/-- The arguments lie in the first slots. -/
def slots : Nat → List Value → Tl
  | _, [] => []
  | k, v :: r => (k, v) :: slots (k + 1) r
theorem look_slots : ∀ (l : List Value) (k s : Nat) (v : Value), look (slots k l) s = some v → k ≤ s ∧ l[s - k]? = some v
  | [], k, s, v, h => by cases h
  | u :: l, k, s, v, h => by
    simp only [slots, look] at h
    by_cases e : k = s
    · subst e
      rw [Nat.beq_refl, cond_true] at h
      cases h
      exact ⟨Nat.le_refl _, by simp⟩
    · have hb : Nat.beq k s = false := by rw [← Bool.not_eq_true, Nat.beq_eq]; exact e
      rw [hb, cond_false] at h
      obtain ⟨h1, h2⟩ := look_slots l (k + 1) s v h
      refine ⟨by omega, ?_⟩
      rw [show s - k = (s - (k + 1)) + 1 by omega, List.getElem?_cons_succ]
      exact h2
theorem enter {P : Program} {f : FuncId} {fn : Func} {c : Code} {args : List Value} {w : World} {R : Ending → World → Prop} {n : Nat} (hf : P.funcs[f]? = some fn) (hb : fn.body = some c) (hn : fn.ntmps = n) (hl : Nat.ble args.length n = true)
    (h : C P n (bodyPost P fn R) w (slots 0 args) [] c) : Calls P f args.toArray w R :=
  calls_of_wp hf hb (h _ w ⟨by
    have := Nat.le_of_ble_eq_true hl
    simp [hn]; omega, rfl, fun s v hs => by
    obtain ⟨_, h2⟩ := look_slots args 0 s v hs
    have hlt : s < args.length := by have := (List.getElem?_eq_some_iff.1 h2).1; simpa using this
    rw [Array.getElem?_append_left (by simpa using hlt)]
    simpa using h2⟩ (St.start w))
/-- A call that hands back claims of its own: its contract says 'e = .returned v ∧ St w w' M'. -/
theorem St.join {w0 w w' : World} {L M : List Res} (S : St w0 w L) (U : St w w' M) : St w0 w' (M ++ L) := by
  have T := S.call U.below
  have key : ∀ (i : Nat) (s : Res), (M ++ L)[i]? = some s → (i < M.length ∧ M[i]? = some s) ∨ (M.length ≤ i ∧ L[i - M.length]? = some s) := fun i s h => by
    by_cases hi : i < M.length
    · rw [List.getElem?_append_left hi] at h; exact .inl ⟨hi, h⟩
    · rw [List.getElem?_append_right (by omega)] at h; exact .inr ⟨by omega, h⟩
  refine ⟨T.below, fun i s h => ?_, fun i s h => ?_, fun i s h => ?_, fun i j s t h1 h2 hne k hk hk' => ?_⟩
  · rcases key i s h with ⟨_, h⟩ | ⟨_, h⟩
    · exact U.says i s h
    · exact T.says _ s h
  · rcases key i s h with ⟨_, h⟩ | ⟨_, h⟩
    · exact Nat.le_trans S.below.size (U.lo i s h)
    · exact T.lo _ s h
  · rcases key i s h with ⟨_, h⟩ | ⟨_, h⟩
    · exact U.hi i s h
    · exact T.hi _ s h
  · rcases key i s h1 with ⟨a1, h1⟩ | ⟨a1, h1⟩
    · rcases key j t h2 with ⟨a2, h2⟩ | ⟨a2, h2⟩
      · exact U.apart i j s t h1 h2 hne k hk hk'
      · have e1 := (U.footlt h1 hk).1; have e2 := (S.footlt h2 hk').2; omega
    · rcases key j t h2 with ⟨a2, h2⟩ | ⟨a2, h2⟩
      · have e1 := (U.footlt h2 hk').1; have e2 := (S.footlt h1 hk).2; omega
      · exact T.apart _ _ s t h1 h2 (by omega) k hk hk'
end Go.Proofs.YteopkcndkcciaaaGreat.Sx
namespace Go.Proofs.YteopkcndkcciaaaGreat.Guests
set_option maxRecDepth 100000
open Go.ChangeShapes Go.WideShapes Go.ChangeAt Go.RowKit
open Go.Proofs.YteopkcndkcciaaaGreat.Base Go.Proofs.YteopkcndkcciaaaGreat.Mem Go.Proofs.YteopkcndkcciaaaGreat.Data Go.Proofs.YteopkcndkcciaaaGreat.Slots Go.Proofs.YteopkcndkcciaaaGreat.Ints Go.Proofs.YteopkcndkcciaaaGreat.Ctls Go.Proofs.YteopkcndkcciaaaGreat.Exits Go.Proofs.YteopkcndkcciaaaGreat.Stt Go.Proofs.YteopkcndkcciaaaGreat.Irqs
set_option linter.unusedVariables false
set_option linter.unusedSimpArgs false
theorem pcells_s : ∀ l : List (Int × Int), pcells l = Slots.scells l
  | [] => rfl
  | s :: l => by rw [Slots.scells, ← pcells_s l]; rfl
theorem pcells_j : ∀ l : List (Int × Int), pcells l = Inss.jcells l
  | [] => rfl
  | s :: l => by rw [Inss.jcells, ← pcells_j l]; rfl
theorem below_same {w w' : World} (h : w = w') : Below w.heap.size w w' := h ▸ Below.refl _ _
theorem takeI_lt (p : Int) : -1 ≤ (takeI p).2.1 ∧ (takeI p).2.1 ≤ 7 := by
  have := topI_range p
  unfold takeI
  split
  · exact ⟨Int.le_refl _, show (-1 : Int) ≤ 7 by decide⟩
  · exact this
set_option maxRecDepth 100000 in
set_option maxHeartbeats 4000000 in
theorem specx_copy (g : gT) (cs : List Value) (w : World) (hc : rG.cap g) (h : rG.rd w 0 w.heap.size g cs) : Calls Tryz.prog 39 #[.agg cs.toArray] w (Gives rG w g) := by
  obtain ⟨q0, q1, q2, q3⟩ := rG_len hc
  have hr := h
  obtain ⟨P0, P1, P2, P3, rfl, h0, h1, h2, h3⟩ := rG_rd h
  obtain ⟨PA0, Pc0, e0, hP0⟩ := lst_val h0
  subst e0
  obtain ⟨PA1, Pc1, e1, hP1⟩ := lst_val h1
  subst e1
  obtain ⟨PA2, Pc2, e2, hP2⟩ := lst_val h2
  subst e2
  obtain ⟨PA3, Pc3, e3, hP3⟩ := lst_val h3
  subst e3
  refine Sx.enter (args := [.agg #[.slice PA0 g.prog.length Pc0, .int .i64 g.a, .int .i64 g.pc, .slice PA1 g.wr.length Pc1, .slice PA2 g.lv.length Pc2, .int .i64 g.t.1, .int .i64 g.t.2.1, .bool g.t.2.2, .int .i64 g.pd, .int .i64 g.x.1, .int .i64 g.x.2.1, .bool g.x.2.2.1, .int .i64 g.x.2.2.2, .bool g.hl, .slice PA3 g.seen.length Pc3]]) Tryz.func39 rfl Tryz.ntmps39 rfl ?_
  refine Sx.C.seq ?_
  refine Sx.C.region ?_
  refine Sx.G.box 33 (.tmp 0) [.slice PA0 g.prog.length Pc0, .int .i64 g.a, .int .i64 g.pc, .slice PA1 g.wr.length Pc1, .slice PA2 g.lv.length Pc2, .int .i64 g.t.1, .int .i64 g.t.2.1, .bool g.t.2.2, .int .i64 g.pd, .int .i64 g.x.1, .int .i64 g.x.2.1, .bool g.x.2.2.1, .int .i64 g.x.2.2.2, .bool g.hl, .slice PA3 g.seen.length Pc3] rfl (by kernel_rfl) (by kernel_rfl) (fun b1 => ?_)
  refine Sx.G.alloc 33 (.agg #[.slice none 0 0, .int .i64 0, .int .i64 0, .slice none 0 0, .slice none 0 0, .int .i64 0, .int .i64 0, .bool false, .int .i64 0, .int .i64 0, .int .i64 0, .bool false, .int .i64 0, .bool false, .slice none 0 0]) [.slice none 0 0, .int .i64 0, .int .i64 0, .slice none 0 0, .slice none 0 0, .int .i64 0, .int .i64 0, .bool false, .int .i64 0, .int .i64 0, .int .i64 0, .bool false, .int .i64 0, .bool false, .slice none 0 0] rfl (by kernel_rfl) (fun w => by kernel_rfl) (by kernel_rfl) (fun b2 => ?_)
  refine Sx.G.nil ?_
  refine Sx.E.next ?_
  refine Sx.C.seq ?_
  refine Sx.C.region ?_
  refine Sx.G.fresh 54 (rPair rInt rInt) (by kernel_rfl) (fun w => by kernel_rfl) (fun b3 hi3 => ?_)
  refine Sx.G.pure (.pointer (some ⟨b1, 0, none⟩)) (by kernel_rfl) (fun w => by kernel_rfl) ?_
  refine Sx.G.ld1 24 (.tmp 4) b1 0 2 [.slice PA0 g.prog.length Pc0, .int .i64 g.a, .int .i64 g.pc, .slice PA1 g.wr.length Pc1, .slice PA2 g.lv.length Pc2, .int .i64 g.t.1, .int .i64 g.t.2.1, .bool g.t.2.2, .int .i64 g.pd, .int .i64 g.x.1, .int .i64 g.x.2.1, .bool g.x.2.2.1, .int .i64 g.x.2.2.2, .bool g.hl, .slice PA3 g.seen.length Pc3] (.slice PA0 g.prog.length Pc0) rfl (by kernel_rfl) (by kernel_rfl) rfl (by kernel_rfl) (by kernel_rfl) ?_
  refine Sx.G.apps 0 rfl g.prog (fun w S => St.old S h0) (List.nil_append _) g.prog.length (by simp) flat_P2 (.tmp 3) (.tmp 5) 24 2 16 rfl rfl (by kernel_rfl) (by kernel_rfl) rfl (by kernel_rfl) (by kernel_rfl) (by simp only [maxLen, List.length_nil, List.length_cons]; omega) (by simp only [List.length_nil, List.length_cons]; omega) (fun A4 c4 F4 hi4 hm4 => ?_)
  refine Sx.G.pure (.pointer (some ⟨b1, 0, none⟩)) (by kernel_rfl) (fun w => by kernel_rfl) ?_
  refine Sx.G.sto 24 (.tmp 7) (.tmp 6) b1 0 2 [.slice PA0 g.prog.length Pc0, .int .i64 g.a, .int .i64 g.pc, .slice PA1 g.wr.length Pc1, .slice PA2 g.lv.length Pc2, .int .i64 g.t.1, .int .i64 g.t.2.1, .bool g.t.2.2, .int .i64 g.pd, .int .i64 g.x.1, .int .i64 g.x.2.1, .bool g.x.2.2.1, .int .i64 g.x.2.2.2, .bool g.hl, .slice PA3 g.seen.length Pc3] [.slice A4 g.prog.length c4] [.slice A4 g.prog.length c4, .int .i64 g.a, .int .i64 g.pc, .slice PA1 g.wr.length Pc1, .slice PA2 g.lv.length Pc2, .int .i64 g.t.1, .int .i64 g.t.2.1, .bool g.t.2.2, .int .i64 g.pd, .int .i64 g.x.1, .int .i64 g.x.2.1, .bool g.x.2.2.1, .int .i64 g.x.2.2.2, .bool g.hl, .slice PA3 g.seen.length Pc3] [ow (rLst 54 (rPair rInt rInt)) w.heap.size hi4 g.prog [.slice A4 g.prog.length c4] F4, vr b2 [.slice none 0 0, .int .i64 0, .int .i64 0, .slice none 0 0, .slice none 0 0, .int .i64 0, .int .i64 0, .bool false, .int .i64 0, .int .i64 0, .int .i64 0, .bool false, .int .i64 0, .bool false, .slice none 0 0], vr b1 [.slice A4 g.prog.length c4, .int .i64 g.a, .int .i64 g.pc, .slice PA1 g.wr.length Pc1, .slice PA2 g.lv.length Pc2, .int .i64 g.t.1, .int .i64 g.t.2.1, .bool g.t.2.2, .int .i64 g.pd, .int .i64 g.x.1, .int .i64 g.x.2.1, .bool g.x.2.2.1, .int .i64 g.x.2.2.2, .bool g.hl, .slice PA3 g.seen.length Pc3]] rfl (by kernel_rfl) (by kernel_rfl) (by kernel_rfl) rfl (by kernel_rfl) rfl (by kernel_rfl) (by kernel_rfl) (by kernel_rfl) ?_
  refine Sx.G.nil ?_
  refine Sx.E.next ?_
  refine Sx.C.seq ?_
  refine Sx.C.region ?_
  refine Sx.G.fresh 86 (rPair rInt rInt) (by kernel_rfl) (fun w => by kernel_rfl) (fun b5 hi5 => ?_)
  refine Sx.G.pure (.pointer (some ⟨b1, 3, none⟩)) (by kernel_rfl) (fun w => by kernel_rfl) ?_
  refine Sx.G.ld1 26 (.tmp 9) b1 3 3 [.slice A4 g.prog.length c4, .int .i64 g.a, .int .i64 g.pc, .slice PA1 g.wr.length Pc1, .slice PA2 g.lv.length Pc2, .int .i64 g.t.1, .int .i64 g.t.2.1, .bool g.t.2.2, .int .i64 g.pd, .int .i64 g.x.1, .int .i64 g.x.2.1, .bool g.x.2.2.1, .int .i64 g.x.2.2.2, .bool g.hl, .slice PA3 g.seen.length Pc3] (.slice PA1 g.wr.length Pc1) rfl (by kernel_rfl) (by kernel_rfl) rfl (by kernel_rfl) (by kernel_rfl) ?_
  refine Sx.G.apps 0 rfl g.wr (fun w S => St.old S h1) (List.nil_append _) g.wr.length (by simp) flat_P2 (.tmp 8) (.tmp 10) 26 2 16 rfl rfl (by kernel_rfl) (by kernel_rfl) rfl (by kernel_rfl) (by kernel_rfl) (by simp only [maxLen, List.length_nil, List.length_cons]; omega) (by simp only [List.length_nil, List.length_cons]; omega) (fun A6 c6 F6 hi6 hm6 => ?_)
  refine Sx.G.pure (.pointer (some ⟨b1, 3, none⟩)) (by kernel_rfl) (fun w => by kernel_rfl) ?_
  refine Sx.G.sto 26 (.tmp 12) (.tmp 11) b1 3 3 [.slice A4 g.prog.length c4, .int .i64 g.a, .int .i64 g.pc, .slice PA1 g.wr.length Pc1, .slice PA2 g.lv.length Pc2, .int .i64 g.t.1, .int .i64 g.t.2.1, .bool g.t.2.2, .int .i64 g.pd, .int .i64 g.x.1, .int .i64 g.x.2.1, .bool g.x.2.2.1, .int .i64 g.x.2.2.2, .bool g.hl, .slice PA3 g.seen.length Pc3] [.slice A6 g.wr.length c6] [.slice A4 g.prog.length c4, .int .i64 g.a, .int .i64 g.pc, .slice A6 g.wr.length c6, .slice PA2 g.lv.length Pc2, .int .i64 g.t.1, .int .i64 g.t.2.1, .bool g.t.2.2, .int .i64 g.pd, .int .i64 g.x.1, .int .i64 g.x.2.1, .bool g.x.2.2.1, .int .i64 g.x.2.2.2, .bool g.hl, .slice PA3 g.seen.length Pc3] [ow (rLst 86 (rPair rInt rInt)) w.heap.size hi6 g.wr [.slice A6 g.wr.length c6] F6, ow (rLst 54 (rPair rInt rInt)) w.heap.size hi4 g.prog [.slice A4 g.prog.length c4] F4, vr b2 [.slice none 0 0, .int .i64 0, .int .i64 0, .slice none 0 0, .slice none 0 0, .int .i64 0, .int .i64 0, .bool false, .int .i64 0, .int .i64 0, .int .i64 0, .bool false, .int .i64 0, .bool false, .slice none 0 0], vr b1 [.slice A4 g.prog.length c4, .int .i64 g.a, .int .i64 g.pc, .slice A6 g.wr.length c6, .slice PA2 g.lv.length Pc2, .int .i64 g.t.1, .int .i64 g.t.2.1, .bool g.t.2.2, .int .i64 g.pd, .int .i64 g.x.1, .int .i64 g.x.2.1, .bool g.x.2.2.1, .int .i64 g.x.2.2.2, .bool g.hl, .slice PA3 g.seen.length Pc3]] rfl (by kernel_rfl) (by kernel_rfl) (by kernel_rfl) rfl (by kernel_rfl) rfl (by kernel_rfl) (by kernel_rfl) (by kernel_rfl) ?_
  refine Sx.G.nil ?_
  refine Sx.E.next ?_
  refine Sx.C.seq ?_
  refine Sx.C.region ?_
  refine Sx.G.fresh 86 (rPair rInt rInt) (by kernel_rfl) (fun w => by kernel_rfl) (fun b7 hi7 => ?_)
  refine Sx.G.pure (.pointer (some ⟨b1, 4, none⟩)) (by kernel_rfl) (fun w => by kernel_rfl) ?_
  refine Sx.G.ld1 26 (.tmp 14) b1 4 4 [.slice A4 g.prog.length c4, .int .i64 g.a, .int .i64 g.pc, .slice A6 g.wr.length c6, .slice PA2 g.lv.length Pc2, .int .i64 g.t.1, .int .i64 g.t.2.1, .bool g.t.2.2, .int .i64 g.pd, .int .i64 g.x.1, .int .i64 g.x.2.1, .bool g.x.2.2.1, .int .i64 g.x.2.2.2, .bool g.hl, .slice PA3 g.seen.length Pc3] (.slice PA2 g.lv.length Pc2) rfl (by kernel_rfl) (by kernel_rfl) rfl (by kernel_rfl) (by kernel_rfl) ?_
  refine Sx.G.apps 0 rfl g.lv (fun w S => St.old S h2) (List.nil_append _) g.lv.length (by simp) flat_P2 (.tmp 13) (.tmp 15) 26 2 16 rfl rfl (by kernel_rfl) (by kernel_rfl) rfl (by kernel_rfl) (by kernel_rfl) (by simp only [maxLen, List.length_nil, List.length_cons]; omega) (by simp only [List.length_nil, List.length_cons]; omega) (fun A8 c8 F8 hi8 hm8 => ?_)
  refine Sx.G.pure (.pointer (some ⟨b1, 4, none⟩)) (by kernel_rfl) (fun w => by kernel_rfl) ?_
  refine Sx.G.sto 26 (.tmp 17) (.tmp 16) b1 4 4 [.slice A4 g.prog.length c4, .int .i64 g.a, .int .i64 g.pc, .slice A6 g.wr.length c6, .slice PA2 g.lv.length Pc2, .int .i64 g.t.1, .int .i64 g.t.2.1, .bool g.t.2.2, .int .i64 g.pd, .int .i64 g.x.1, .int .i64 g.x.2.1, .bool g.x.2.2.1, .int .i64 g.x.2.2.2, .bool g.hl, .slice PA3 g.seen.length Pc3] [.slice A8 g.lv.length c8] [.slice A4 g.prog.length c4, .int .i64 g.a, .int .i64 g.pc, .slice A6 g.wr.length c6, .slice A8 g.lv.length c8, .int .i64 g.t.1, .int .i64 g.t.2.1, .bool g.t.2.2, .int .i64 g.pd, .int .i64 g.x.1, .int .i64 g.x.2.1, .bool g.x.2.2.1, .int .i64 g.x.2.2.2, .bool g.hl, .slice PA3 g.seen.length Pc3] [ow (rLst 86 (rPair rInt rInt)) w.heap.size hi8 g.lv [.slice A8 g.lv.length c8] F8, ow (rLst 86 (rPair rInt rInt)) w.heap.size hi6 g.wr [.slice A6 g.wr.length c6] F6, ow (rLst 54 (rPair rInt rInt)) w.heap.size hi4 g.prog [.slice A4 g.prog.length c4] F4, vr b2 [.slice none 0 0, .int .i64 0, .int .i64 0, .slice none 0 0, .slice none 0 0, .int .i64 0, .int .i64 0, .bool false, .int .i64 0, .int .i64 0, .int .i64 0, .bool false, .int .i64 0, .bool false, .slice none 0 0], vr b1 [.slice A4 g.prog.length c4, .int .i64 g.a, .int .i64 g.pc, .slice A6 g.wr.length c6, .slice A8 g.lv.length c8, .int .i64 g.t.1, .int .i64 g.t.2.1, .bool g.t.2.2, .int .i64 g.pd, .int .i64 g.x.1, .int .i64 g.x.2.1, .bool g.x.2.2.1, .int .i64 g.x.2.2.2, .bool g.hl, .slice PA3 g.seen.length Pc3]] rfl (by kernel_rfl) (by kernel_rfl) (by kernel_rfl) rfl (by kernel_rfl) rfl (by kernel_rfl) (by kernel_rfl) (by kernel_rfl) ?_
  refine Sx.G.nil ?_
  refine Sx.E.next ?_
  refine Sx.C.seq ?_
  refine Sx.C.region ?_
  refine Sx.G.fresh 3 rInt (by kernel_rfl) (fun w => by kernel_rfl) (fun b9 hi9 => ?_)
  refine Sx.G.pure (.pointer (some ⟨b1, 14, none⟩)) (by kernel_rfl) (fun w => by kernel_rfl) ?_
  refine Sx.G.ld1 31 (.tmp 19) b1 14 5 [.slice A4 g.prog.length c4, .int .i64 g.a, .int .i64 g.pc, .slice A6 g.wr.length c6, .slice A8 g.lv.length c8, .int .i64 g.t.1, .int .i64 g.t.2.1, .bool g.t.2.2, .int .i64 g.pd, .int .i64 g.x.1, .int .i64 g.x.2.1, .bool g.x.2.2.1, .int .i64 g.x.2.2.2, .bool g.hl, .slice PA3 g.seen.length Pc3] (.slice PA3 g.seen.length Pc3) rfl (by kernel_rfl) (by kernel_rfl) rfl (by kernel_rfl) (by kernel_rfl) ?_
  refine Sx.G.apps 0 rfl g.seen (fun w S => St.old S h3) (List.nil_append _) g.seen.length (by simp) flat_int (.tmp 18) (.tmp 20) 31 1 8 rfl rfl (by kernel_rfl) (by kernel_rfl) rfl (by kernel_rfl) (by kernel_rfl) (by simp only [maxLen, List.length_nil, List.length_cons]; omega) (by simp only [List.length_nil, List.length_cons]; omega) (fun A10 c10 F10 hi10 hm10 => ?_)
  refine Sx.G.pure (.pointer (some ⟨b1, 14, none⟩)) (by kernel_rfl) (fun w => by kernel_rfl) ?_
  refine Sx.G.sto 31 (.tmp 22) (.tmp 21) b1 14 5 [.slice A4 g.prog.length c4, .int .i64 g.a, .int .i64 g.pc, .slice A6 g.wr.length c6, .slice A8 g.lv.length c8, .int .i64 g.t.1, .int .i64 g.t.2.1, .bool g.t.2.2, .int .i64 g.pd, .int .i64 g.x.1, .int .i64 g.x.2.1, .bool g.x.2.2.1, .int .i64 g.x.2.2.2, .bool g.hl, .slice PA3 g.seen.length Pc3] [.slice A10 g.seen.length c10] [.slice A4 g.prog.length c4, .int .i64 g.a, .int .i64 g.pc, .slice A6 g.wr.length c6, .slice A8 g.lv.length c8, .int .i64 g.t.1, .int .i64 g.t.2.1, .bool g.t.2.2, .int .i64 g.pd, .int .i64 g.x.1, .int .i64 g.x.2.1, .bool g.x.2.2.1, .int .i64 g.x.2.2.2, .bool g.hl, .slice A10 g.seen.length c10] [ow (rLst 3 rInt) w.heap.size hi10 g.seen [.slice A10 g.seen.length c10] F10, ow (rLst 86 (rPair rInt rInt)) w.heap.size hi8 g.lv [.slice A8 g.lv.length c8] F8, ow (rLst 86 (rPair rInt rInt)) w.heap.size hi6 g.wr [.slice A6 g.wr.length c6] F6, ow (rLst 54 (rPair rInt rInt)) w.heap.size hi4 g.prog [.slice A4 g.prog.length c4] F4, vr b2 [.slice none 0 0, .int .i64 0, .int .i64 0, .slice none 0 0, .slice none 0 0, .int .i64 0, .int .i64 0, .bool false, .int .i64 0, .int .i64 0, .int .i64 0, .bool false, .int .i64 0, .bool false, .slice none 0 0], vr b1 [.slice A4 g.prog.length c4, .int .i64 g.a, .int .i64 g.pc, .slice A6 g.wr.length c6, .slice A8 g.lv.length c8, .int .i64 g.t.1, .int .i64 g.t.2.1, .bool g.t.2.2, .int .i64 g.pd, .int .i64 g.x.1, .int .i64 g.x.2.1, .bool g.x.2.2.1, .int .i64 g.x.2.2.2, .bool g.hl, .slice A10 g.seen.length c10]] rfl (by kernel_rfl) (by kernel_rfl) (by kernel_rfl) rfl (by kernel_rfl) rfl (by kernel_rfl) (by kernel_rfl) (by kernel_rfl) ?_
  refine Sx.G.nil ?_
  refine Sx.E.next ?_
  refine Sx.C.seq ?_
  refine Sx.C.region ?_
  refine Sx.G.ld 33 (.tmp 1) b1 0 5 [.slice A4 g.prog.length c4, .int .i64 g.a, .int .i64 g.pc, .slice A6 g.wr.length c6, .slice A8 g.lv.length c8, .int .i64 g.t.1, .int .i64 g.t.2.1, .bool g.t.2.2, .int .i64 g.pd, .int .i64 g.x.1, .int .i64 g.x.2.1, .bool g.x.2.2.1, .int .i64 g.x.2.2.2, .bool g.hl, .slice A10 g.seen.length c10] [.slice A4 g.prog.length c4, .int .i64 g.a, .int .i64 g.pc, .slice A6 g.wr.length c6, .slice A8 g.lv.length c8, .int .i64 g.t.1, .int .i64 g.t.2.1, .bool g.t.2.2, .int .i64 g.pd, .int .i64 g.x.1, .int .i64 g.x.2.1, .bool g.x.2.2.1, .int .i64 g.x.2.2.2, .bool g.hl, .slice A10 g.seen.length c10] rfl (by kernel_rfl) (by kernel_rfl) rfl (by kernel_rfl) (by kernel_rfl) (by kernel_rfl) ?_
  refine Sx.G.sto 33 (.tmp 2) (.tmp 23) b2 0 4 [.slice none 0 0, .int .i64 0, .int .i64 0, .slice none 0 0, .slice none 0 0, .int .i64 0, .int .i64 0, .bool false, .int .i64 0, .int .i64 0, .int .i64 0, .bool false, .int .i64 0, .bool false, .slice none 0 0] [.slice A4 g.prog.length c4, .int .i64 g.a, .int .i64 g.pc, .slice A6 g.wr.length c6, .slice A8 g.lv.length c8, .int .i64 g.t.1, .int .i64 g.t.2.1, .bool g.t.2.2, .int .i64 g.pd, .int .i64 g.x.1, .int .i64 g.x.2.1, .bool g.x.2.2.1, .int .i64 g.x.2.2.2, .bool g.hl, .slice A10 g.seen.length c10] [.slice A4 g.prog.length c4, .int .i64 g.a, .int .i64 g.pc, .slice A6 g.wr.length c6, .slice A8 g.lv.length c8, .int .i64 g.t.1, .int .i64 g.t.2.1, .bool g.t.2.2, .int .i64 g.pd, .int .i64 g.x.1, .int .i64 g.x.2.1, .bool g.x.2.2.1, .int .i64 g.x.2.2.2, .bool g.hl, .slice A10 g.seen.length c10] [ow (rLst 3 rInt) w.heap.size hi10 g.seen [.slice A10 g.seen.length c10] F10, ow (rLst 86 (rPair rInt rInt)) w.heap.size hi8 g.lv [.slice A8 g.lv.length c8] F8, ow (rLst 86 (rPair rInt rInt)) w.heap.size hi6 g.wr [.slice A6 g.wr.length c6] F6, ow (rLst 54 (rPair rInt rInt)) w.heap.size hi4 g.prog [.slice A4 g.prog.length c4] F4, vr b2 [.slice A4 g.prog.length c4, .int .i64 g.a, .int .i64 g.pc, .slice A6 g.wr.length c6, .slice A8 g.lv.length c8, .int .i64 g.t.1, .int .i64 g.t.2.1, .bool g.t.2.2, .int .i64 g.pd, .int .i64 g.x.1, .int .i64 g.x.2.1, .bool g.x.2.2.1, .int .i64 g.x.2.2.2, .bool g.hl, .slice A10 g.seen.length c10], vr b1 [.slice A4 g.prog.length c4, .int .i64 g.a, .int .i64 g.pc, .slice A6 g.wr.length c6, .slice A8 g.lv.length c8, .int .i64 g.t.1, .int .i64 g.t.2.1, .bool g.t.2.2, .int .i64 g.pd, .int .i64 g.x.1, .int .i64 g.x.2.1, .bool g.x.2.2.1, .int .i64 g.x.2.2.2, .bool g.hl, .slice A10 g.seen.length c10]] rfl (by kernel_rfl) (by kernel_rfl) (by kernel_rfl) rfl (by kernel_rfl) rfl (by kernel_rfl) (by kernel_rfl) (by kernel_rfl) ?_
  refine Sx.G.nil ?_
  refine Sx.E.next ?_
  refine Sx.C.ret ?_
  refine Sx.E.retc b2 4 [.slice A4 g.prog.length c4, .int .i64 g.a, .int .i64 g.pc, .slice A6 g.wr.length c6, .slice A8 g.lv.length c8, .int .i64 g.t.1, .int .i64 g.t.2.1, .bool g.t.2.2, .int .i64 g.pd, .int .i64 g.x.1, .int .i64 g.x.2.1, .bool g.x.2.2.1, .int .i64 g.x.2.2.2, .bool g.hl, .slice A10 g.seen.length c10] rfl (by kernel_rfl) rfl (by kernel_rfl) (by kernel_rfl) (fun w S => ?_)
  obtain ⟨GW2, S⟩ := S.weak 2 rfl
  obtain ⟨GW1, S⟩ := S.weak 1 rfl
  obtain ⟨ho, hF⟩ := rG_shut (g := g) S 3 rfl 2 rfl 1 rfl 0 rfl (by decide) (by decide) (by decide) (by decide) (by decide) (by decide)
  exact ⟨_, _, rfl, ho, hF, S.below⟩
set_option maxRecDepth 100000 in
set_option maxHeartbeats 4000000 in
theorem specx_stop (g : gT) (cs : List Value) (e : QT) (w : World) (hc : rG.cap g) (h : rG.rd w 0 w.heap.size g cs) : Calls Tryz.prog 19 #[.agg cs.toArray, .agg #[.int .i64 e.1, .int .i64 e.2.1, .bool e.2.2.1, .int .i64 e.2.2.2]] w (Gives rG w (stopG g e)) := by
  have hr := h
  obtain ⟨P0, P1, P2, P3, rfl, h0, h1, h2, h3⟩ := rG_rd h
  obtain ⟨PA0, Pc0, e0, hP0⟩ := lst_val h0
  subst e0
  obtain ⟨PA1, Pc1, e1, hP1⟩ := lst_val h1
  subst e1
  obtain ⟨PA2, Pc2, e2, hP2⟩ := lst_val h2
  subst e2
  obtain ⟨PA3, Pc3, e3, hP3⟩ := lst_val h3
  subst e3
  refine Sx.enter (args := [.agg #[.slice PA0 g.prog.length Pc0, .int .i64 g.a, .int .i64 g.pc, .slice PA1 g.wr.length Pc1, .slice PA2 g.lv.length Pc2, .int .i64 g.t.1, .int .i64 g.t.2.1, .bool g.t.2.2, .int .i64 g.pd, .int .i64 g.x.1, .int .i64 g.x.2.1, .bool g.x.2.2.1, .int .i64 g.x.2.2.2, .bool g.hl, .slice PA3 g.seen.length Pc3], .agg #[.int .i64 e.1, .int .i64 e.2.1, .bool e.2.2.1, .int .i64 e.2.2.2]]) Tryz.func19 rfl Tryz.ntmps19 rfl ?_
  refine Sx.C.seq ?_
  refine Sx.C.region ?_
  refine Sx.G.box 33 (.tmp 0) [.slice PA0 g.prog.length Pc0, .int .i64 g.a, .int .i64 g.pc, .slice PA1 g.wr.length Pc1, .slice PA2 g.lv.length Pc2, .int .i64 g.t.1, .int .i64 g.t.2.1, .bool g.t.2.2, .int .i64 g.pd, .int .i64 g.x.1, .int .i64 g.x.2.1, .bool g.x.2.2.1, .int .i64 g.x.2.2.2, .bool g.hl, .slice PA3 g.seen.length Pc3] rfl (by kernel_rfl) (by kernel_rfl) (fun b1 => ?_)
  refine Sx.G.box 30 (.tmp 1) [.int .i64 e.1, .int .i64 e.2.1, .bool e.2.2.1, .int .i64 e.2.2.2] rfl (by kernel_rfl) (by kernel_rfl) (fun b2 => ?_)
  refine Sx.G.alloc 33 (.agg #[.slice none 0 0, .int .i64 0, .int .i64 0, .slice none 0 0, .slice none 0 0, .int .i64 0, .int .i64 0, .bool false, .int .i64 0, .int .i64 0, .int .i64 0, .bool false, .int .i64 0, .bool false, .slice none 0 0]) [.slice none 0 0, .int .i64 0, .int .i64 0, .slice none 0 0, .slice none 0 0, .int .i64 0, .int .i64 0, .bool false, .int .i64 0, .int .i64 0, .int .i64 0, .bool false, .int .i64 0, .bool false, .slice none 0 0] rfl (by kernel_rfl) (fun w => by kernel_rfl) (by kernel_rfl) (fun b3 => ?_)
  refine Sx.G.nil ?_
  refine Sx.E.next ?_
  refine Sx.C.seq ?_
  refine Sx.C.region ?_
  refine Sx.G.ld 33 (.tmp 2) b1 0 2 [.slice PA0 g.prog.length Pc0, .int .i64 g.a, .int .i64 g.pc, .slice PA1 g.wr.length Pc1, .slice PA2 g.lv.length Pc2, .int .i64 g.t.1, .int .i64 g.t.2.1, .bool g.t.2.2, .int .i64 g.pd, .int .i64 g.x.1, .int .i64 g.x.2.1, .bool g.x.2.2.1, .int .i64 g.x.2.2.2, .bool g.hl, .slice PA3 g.seen.length Pc3] [.slice PA0 g.prog.length Pc0, .int .i64 g.a, .int .i64 g.pc, .slice PA1 g.wr.length Pc1, .slice PA2 g.lv.length Pc2, .int .i64 g.t.1, .int .i64 g.t.2.1, .bool g.t.2.2, .int .i64 g.pd, .int .i64 g.x.1, .int .i64 g.x.2.1, .bool g.x.2.2.1, .int .i64 g.x.2.2.2, .bool g.hl, .slice PA3 g.seen.length Pc3] rfl (by kernel_rfl) (by kernel_rfl) rfl (by kernel_rfl) (by kernel_rfl) (by kernel_rfl) ?_
  refine Sx.G.call 39 #[.agg #[.slice PA0 g.prog.length Pc0, .int .i64 g.a, .int .i64 g.pc, .slice PA1 g.wr.length Pc1, .slice PA2 g.lv.length Pc2, .int .i64 g.t.1, .int .i64 g.t.2.1, .bool g.t.2.2, .int .i64 g.pd, .int .i64 g.x.1, .int .i64 g.x.2.1, .bool g.x.2.2.1, .int .i64 g.x.2.2.2, .bool g.hl, .slice PA3 g.seen.length Pc3]] (by kernel_rfl) (fun w => by kernel_rfl) (fun w4 S => (specx_copy g _ _ (by exact hc) (St.old S hr)).mono fun e w4' hp => ?_)
  obtain ⟨cs, F, rfl, ho, hF, hb⟩ := hp
  obtain ⟨q4_0, q4_1, q4_2, q4_3, G4_0, G4_1, G4_2, G4_3, rfl, S'⟩ := rG_open (S.got hb ho hF)
  obtain ⟨q4A0, q4c0, e0, -⟩ := lst_val (S'.reads 0 rfl)
  subst e0
  obtain ⟨q4A1, q4c1, e1, -⟩ := lst_val (S'.reads 1 rfl)
  subst e1
  obtain ⟨q4A2, q4c2, e2, -⟩ := lst_val (S'.reads 2 rfl)
  subst e2
  obtain ⟨q4A3, q4c3, e3, -⟩ := lst_val (S'.reads 3 rfl)
  subst e3
  refine ⟨_, _, rfl, S', ?_⟩
  clear S S' ho hF hb
  refine Sx.G.sto 33 (.tmp 2) (.tmp 6) b1 0 6 [.slice PA0 g.prog.length Pc0, .int .i64 g.a, .int .i64 g.pc, .slice PA1 g.wr.length Pc1, .slice PA2 g.lv.length Pc2, .int .i64 g.t.1, .int .i64 g.t.2.1, .bool g.t.2.2, .int .i64 g.pd, .int .i64 g.x.1, .int .i64 g.x.2.1, .bool g.x.2.2.1, .int .i64 g.x.2.2.2, .bool g.hl, .slice PA3 g.seen.length Pc3] [.slice q4A0 g.prog.length q4c0, .int .i64 g.a, .int .i64 g.pc, .slice q4A1 g.wr.length q4c1, .slice q4A2 g.lv.length q4c2, .int .i64 g.t.1, .int .i64 g.t.2.1, .bool g.t.2.2, .int .i64 g.pd, .int .i64 g.x.1, .int .i64 g.x.2.1, .bool g.x.2.2.1, .int .i64 g.x.2.2.2, .bool g.hl, .slice q4A3 g.seen.length q4c3] [.slice q4A0 g.prog.length q4c0, .int .i64 g.a, .int .i64 g.pc, .slice q4A1 g.wr.length q4c1, .slice q4A2 g.lv.length q4c2, .int .i64 g.t.1, .int .i64 g.t.2.1, .bool g.t.2.2, .int .i64 g.pd, .int .i64 g.x.1, .int .i64 g.x.2.1, .bool g.x.2.2.1, .int .i64 g.x.2.2.2, .bool g.hl, .slice q4A3 g.seen.length q4c3] [ow (rLst 54 (rPair rInt rInt)) w4.heap.size (w4'.heap.size) g.prog [.slice q4A0 g.prog.length q4c0] G4_0, ow (rLsw (rPair rInt rInt)) w4.heap.size w4'.heap.size g.wr [.slice q4A1 g.wr.length q4c1] G4_1, ow (rLsw (rPair rInt rInt)) w4.heap.size w4'.heap.size g.lv [.slice q4A2 g.lv.length q4c2] G4_2, ow (rLst 3 rInt) w4.heap.size (w4'.heap.size) g.seen [.slice q4A3 g.seen.length q4c3] G4_3, vr b3 [.slice none 0 0, .int .i64 0, .int .i64 0, .slice none 0 0, .slice none 0 0, .int .i64 0, .int .i64 0, .bool false, .int .i64 0, .int .i64 0, .int .i64 0, .bool false, .int .i64 0, .bool false, .slice none 0 0], vr b2 [.int .i64 e.1, .int .i64 e.2.1, .bool e.2.2.1, .int .i64 e.2.2.2], vr b1 [.slice q4A0 g.prog.length q4c0, .int .i64 g.a, .int .i64 g.pc, .slice q4A1 g.wr.length q4c1, .slice q4A2 g.lv.length q4c2, .int .i64 g.t.1, .int .i64 g.t.2.1, .bool g.t.2.2, .int .i64 g.pd, .int .i64 g.x.1, .int .i64 g.x.2.1, .bool g.x.2.2.1, .int .i64 g.x.2.2.2, .bool g.hl, .slice q4A3 g.seen.length q4c3]] rfl (by kernel_rfl) (by kernel_rfl) (by kernel_rfl) rfl (by kernel_rfl) rfl (by kernel_rfl) (by kernel_rfl) (by kernel_rfl) ?_
  refine Sx.G.nil ?_
  refine Sx.E.next ?_
  refine Sx.C.seq ?_
  refine Sx.C.region ?_
  refine Sx.G.ld 30 (.tmp 3) b2 0 5 [.int .i64 e.1, .int .i64 e.2.1, .bool e.2.2.1, .int .i64 e.2.2.2] [.int .i64 e.1, .int .i64 e.2.1, .bool e.2.2.1, .int .i64 e.2.2.2] rfl (by kernel_rfl) (by kernel_rfl) rfl (by kernel_rfl) (by kernel_rfl) (by kernel_rfl) ?_
  refine Sx.G.pure (.pointer (some ⟨b1, 9, none⟩)) (by kernel_rfl) (fun w => by kernel_rfl) ?_
  refine Sx.G.sto 30 (.tmp 8) (.tmp 7) b1 9 6 [.slice q4A0 g.prog.length q4c0, .int .i64 g.a, .int .i64 g.pc, .slice q4A1 g.wr.length q4c1, .slice q4A2 g.lv.length q4c2, .int .i64 g.t.1, .int .i64 g.t.2.1, .bool g.t.2.2, .int .i64 g.pd, .int .i64 g.x.1, .int .i64 g.x.2.1, .bool g.x.2.2.1, .int .i64 g.x.2.2.2, .bool g.hl, .slice q4A3 g.seen.length q4c3] [.int .i64 e.1, .int .i64 e.2.1, .bool e.2.2.1, .int .i64 e.2.2.2] [.slice q4A0 g.prog.length q4c0, .int .i64 g.a, .int .i64 g.pc, .slice q4A1 g.wr.length q4c1, .slice q4A2 g.lv.length q4c2, .int .i64 g.t.1, .int .i64 g.t.2.1, .bool g.t.2.2, .int .i64 g.pd, .int .i64 e.1, .int .i64 e.2.1, .bool e.2.2.1, .int .i64 e.2.2.2, .bool g.hl, .slice q4A3 g.seen.length q4c3] [ow (rLst 54 (rPair rInt rInt)) w4.heap.size (w4'.heap.size) g.prog [.slice q4A0 g.prog.length q4c0] G4_0, ow (rLsw (rPair rInt rInt)) w4.heap.size w4'.heap.size g.wr [.slice q4A1 g.wr.length q4c1] G4_1, ow (rLsw (rPair rInt rInt)) w4.heap.size w4'.heap.size g.lv [.slice q4A2 g.lv.length q4c2] G4_2, ow (rLst 3 rInt) w4.heap.size (w4'.heap.size) g.seen [.slice q4A3 g.seen.length q4c3] G4_3, vr b3 [.slice none 0 0, .int .i64 0, .int .i64 0, .slice none 0 0, .slice none 0 0, .int .i64 0, .int .i64 0, .bool false, .int .i64 0, .int .i64 0, .int .i64 0, .bool false, .int .i64 0, .bool false, .slice none 0 0], vr b2 [.int .i64 e.1, .int .i64 e.2.1, .bool e.2.2.1, .int .i64 e.2.2.2], vr b1 [.slice q4A0 g.prog.length q4c0, .int .i64 g.a, .int .i64 g.pc, .slice q4A1 g.wr.length q4c1, .slice q4A2 g.lv.length q4c2, .int .i64 g.t.1, .int .i64 g.t.2.1, .bool g.t.2.2, .int .i64 g.pd, .int .i64 e.1, .int .i64 e.2.1, .bool e.2.2.1, .int .i64 e.2.2.2, .bool g.hl, .slice q4A3 g.seen.length q4c3]] rfl (by kernel_rfl) (by kernel_rfl) (by kernel_rfl) rfl (by kernel_rfl) rfl (by kernel_rfl) (by kernel_rfl) (by kernel_rfl) ?_
  refine Sx.G.nil ?_
  refine Sx.E.next ?_
  refine Sx.C.seq ?_
  refine Sx.C.region ?_
  refine Sx.G.ld 33 (.tmp 2) b1 0 6 [.slice q4A0 g.prog.length q4c0, .int .i64 g.a, .int .i64 g.pc, .slice q4A1 g.wr.length q4c1, .slice q4A2 g.lv.length q4c2, .int .i64 g.t.1, .int .i64 g.t.2.1, .bool g.t.2.2, .int .i64 g.pd, .int .i64 e.1, .int .i64 e.2.1, .bool e.2.2.1, .int .i64 e.2.2.2, .bool g.hl, .slice q4A3 g.seen.length q4c3] [.slice q4A0 g.prog.length q4c0, .int .i64 g.a, .int .i64 g.pc, .slice q4A1 g.wr.length q4c1, .slice q4A2 g.lv.length q4c2, .int .i64 g.t.1, .int .i64 g.t.2.1, .bool g.t.2.2, .int .i64 g.pd, .int .i64 e.1, .int .i64 e.2.1, .bool e.2.2.1, .int .i64 e.2.2.2, .bool g.hl, .slice q4A3 g.seen.length q4c3] rfl (by kernel_rfl) (by kernel_rfl) rfl (by kernel_rfl) (by kernel_rfl) (by kernel_rfl) ?_
  refine Sx.G.sto 33 (.tmp 4) (.tmp 9) b3 0 4 [.slice none 0 0, .int .i64 0, .int .i64 0, .slice none 0 0, .slice none 0 0, .int .i64 0, .int .i64 0, .bool false, .int .i64 0, .int .i64 0, .int .i64 0, .bool false, .int .i64 0, .bool false, .slice none 0 0] [.slice q4A0 g.prog.length q4c0, .int .i64 g.a, .int .i64 g.pc, .slice q4A1 g.wr.length q4c1, .slice q4A2 g.lv.length q4c2, .int .i64 g.t.1, .int .i64 g.t.2.1, .bool g.t.2.2, .int .i64 g.pd, .int .i64 e.1, .int .i64 e.2.1, .bool e.2.2.1, .int .i64 e.2.2.2, .bool g.hl, .slice q4A3 g.seen.length q4c3] [.slice q4A0 g.prog.length q4c0, .int .i64 g.a, .int .i64 g.pc, .slice q4A1 g.wr.length q4c1, .slice q4A2 g.lv.length q4c2, .int .i64 g.t.1, .int .i64 g.t.2.1, .bool g.t.2.2, .int .i64 g.pd, .int .i64 e.1, .int .i64 e.2.1, .bool e.2.2.1, .int .i64 e.2.2.2, .bool g.hl, .slice q4A3 g.seen.length q4c3] [ow (rLst 54 (rPair rInt rInt)) w4.heap.size (w4'.heap.size) g.prog [.slice q4A0 g.prog.length q4c0] G4_0, ow (rLsw (rPair rInt rInt)) w4.heap.size w4'.heap.size g.wr [.slice q4A1 g.wr.length q4c1] G4_1, ow (rLsw (rPair rInt rInt)) w4.heap.size w4'.heap.size g.lv [.slice q4A2 g.lv.length q4c2] G4_2, ow (rLst 3 rInt) w4.heap.size (w4'.heap.size) g.seen [.slice q4A3 g.seen.length q4c3] G4_3, vr b3 [.slice q4A0 g.prog.length q4c0, .int .i64 g.a, .int .i64 g.pc, .slice q4A1 g.wr.length q4c1, .slice q4A2 g.lv.length q4c2, .int .i64 g.t.1, .int .i64 g.t.2.1, .bool g.t.2.2, .int .i64 g.pd, .int .i64 e.1, .int .i64 e.2.1, .bool e.2.2.1, .int .i64 e.2.2.2, .bool g.hl, .slice q4A3 g.seen.length q4c3], vr b2 [.int .i64 e.1, .int .i64 e.2.1, .bool e.2.2.1, .int .i64 e.2.2.2], vr b1 [.slice q4A0 g.prog.length q4c0, .int .i64 g.a, .int .i64 g.pc, .slice q4A1 g.wr.length q4c1, .slice q4A2 g.lv.length q4c2, .int .i64 g.t.1, .int .i64 g.t.2.1, .bool g.t.2.2, .int .i64 g.pd, .int .i64 e.1, .int .i64 e.2.1, .bool e.2.2.1, .int .i64 e.2.2.2, .bool g.hl, .slice q4A3 g.seen.length q4c3]] rfl (by kernel_rfl) (by kernel_rfl) (by kernel_rfl) rfl (by kernel_rfl) rfl (by kernel_rfl) (by kernel_rfl) (by kernel_rfl) ?_
  refine Sx.G.nil ?_
  refine Sx.E.next ?_
  refine Sx.C.ret ?_
  refine Sx.E.retc b3 4 [.slice q4A0 g.prog.length q4c0, .int .i64 g.a, .int .i64 g.pc, .slice q4A1 g.wr.length q4c1, .slice q4A2 g.lv.length q4c2, .int .i64 g.t.1, .int .i64 g.t.2.1, .bool g.t.2.2, .int .i64 g.pd, .int .i64 e.1, .int .i64 e.2.1, .bool e.2.2.1, .int .i64 e.2.2.2, .bool g.hl, .slice q4A3 g.seen.length q4c3] rfl (by kernel_rfl) rfl (by kernel_rfl) (by kernel_rfl) (fun w S => ?_)
  obtain ⟨ho, hF⟩ := rG_shut (g := stopG g e) S 0 rfl 1 rfl 2 rfl 3 rfl (by decide) (by decide) (by decide) (by decide) (by decide) (by decide)
  exact ⟨_, _, rfl, ho, hF, S.below⟩
set_option maxRecDepth 100000 in
set_option maxHeartbeats 4000000 in
theorem specx_saw (g : gT) (cs : List Value) (n : Int) (w : World) (hc : rG.cap g) (h : rG.rd w 0 w.heap.size g cs) : Calls Tryz.prog 17 #[.agg cs.toArray, .int .i64 n] w (Gives rG w (sawG g n)) := by
  obtain ⟨q0, q1, q2, q3⟩ := rG_len hc
  have hr := h
  obtain ⟨P0, P1, P2, P3, rfl, h0, h1, h2, h3⟩ := rG_rd h
  obtain ⟨PA0, Pc0, e0, hP0⟩ := lst_val h0
  subst e0
  obtain ⟨PA1, Pc1, e1, hP1⟩ := lst_val h1
  subst e1
  obtain ⟨PA2, Pc2, e2, hP2⟩ := lst_val h2
  subst e2
  obtain ⟨PA3, Pc3, e3, hP3⟩ := lst_val h3
  subst e3
  refine Sx.enter (args := [.agg #[.slice PA0 g.prog.length Pc0, .int .i64 g.a, .int .i64 g.pc, .slice PA1 g.wr.length Pc1, .slice PA2 g.lv.length Pc2, .int .i64 g.t.1, .int .i64 g.t.2.1, .bool g.t.2.2, .int .i64 g.pd, .int .i64 g.x.1, .int .i64 g.x.2.1, .bool g.x.2.2.1, .int .i64 g.x.2.2.2, .bool g.hl, .slice PA3 g.seen.length Pc3], .int .i64 n]) Tryz.func17 rfl Tryz.ntmps17 rfl ?_
  refine Sx.C.seq ?_
  refine Sx.C.region ?_
  refine Sx.G.box 33 (.tmp 0) [.slice PA0 g.prog.length Pc0, .int .i64 g.a, .int .i64 g.pc, .slice PA1 g.wr.length Pc1, .slice PA2 g.lv.length Pc2, .int .i64 g.t.1, .int .i64 g.t.2.1, .bool g.t.2.2, .int .i64 g.pd, .int .i64 g.x.1, .int .i64 g.x.2.1, .bool g.x.2.2.1, .int .i64 g.x.2.2.2, .bool g.hl, .slice PA3 g.seen.length Pc3] rfl (by kernel_rfl) (by kernel_rfl) (fun b1 => ?_)
  refine Sx.G.alloc 33 (.agg #[.slice none 0 0, .int .i64 0, .int .i64 0, .slice none 0 0, .slice none 0 0, .int .i64 0, .int .i64 0, .bool false, .int .i64 0, .int .i64 0, .int .i64 0, .bool false, .int .i64 0, .bool false, .slice none 0 0]) [.slice none 0 0, .int .i64 0, .int .i64 0, .slice none 0 0, .slice none 0 0, .int .i64 0, .int .i64 0, .bool false, .int .i64 0, .int .i64 0, .int .i64 0, .bool false, .int .i64 0, .bool false, .slice none 0 0] rfl (by kernel_rfl) (fun w => by kernel_rfl) (by kernel_rfl) (fun b2 => ?_)
  refine Sx.G.nil ?_
  refine Sx.E.next ?_
  refine Sx.C.seq ?_
  refine Sx.C.region ?_
  refine Sx.G.ld 33 (.tmp 2) b1 0 1 [.slice PA0 g.prog.length Pc0, .int .i64 g.a, .int .i64 g.pc, .slice PA1 g.wr.length Pc1, .slice PA2 g.lv.length Pc2, .int .i64 g.t.1, .int .i64 g.t.2.1, .bool g.t.2.2, .int .i64 g.pd, .int .i64 g.x.1, .int .i64 g.x.2.1, .bool g.x.2.2.1, .int .i64 g.x.2.2.2, .bool g.hl, .slice PA3 g.seen.length Pc3] [.slice PA0 g.prog.length Pc0, .int .i64 g.a, .int .i64 g.pc, .slice PA1 g.wr.length Pc1, .slice PA2 g.lv.length Pc2, .int .i64 g.t.1, .int .i64 g.t.2.1, .bool g.t.2.2, .int .i64 g.pd, .int .i64 g.x.1, .int .i64 g.x.2.1, .bool g.x.2.2.1, .int .i64 g.x.2.2.2, .bool g.hl, .slice PA3 g.seen.length Pc3] rfl (by kernel_rfl) (by kernel_rfl) rfl (by kernel_rfl) (by kernel_rfl) (by kernel_rfl) ?_
  refine Sx.G.call 39 #[.agg #[.slice PA0 g.prog.length Pc0, .int .i64 g.a, .int .i64 g.pc, .slice PA1 g.wr.length Pc1, .slice PA2 g.lv.length Pc2, .int .i64 g.t.1, .int .i64 g.t.2.1, .bool g.t.2.2, .int .i64 g.pd, .int .i64 g.x.1, .int .i64 g.x.2.1, .bool g.x.2.2.1, .int .i64 g.x.2.2.2, .bool g.hl, .slice PA3 g.seen.length Pc3]] (by kernel_rfl) (fun w => by kernel_rfl) (fun w3 S => (specx_copy g _ _ (by exact hc) (St.old S hr)).mono fun e w3' hp => ?_)
  obtain ⟨cs, F, rfl, ho, hF, hb⟩ := hp
  obtain ⟨q3_0, q3_1, q3_2, q3_3, G3_0, G3_1, G3_2, G3_3, rfl, S'⟩ := rG_open (S.got hb ho hF)
  obtain ⟨q3A0, q3c0, e0, -⟩ := lst_val (S'.reads 0 rfl)
  subst e0
  obtain ⟨q3A1, q3c1, e1, -⟩ := lst_val (S'.reads 1 rfl)
  subst e1
  obtain ⟨q3A2, q3c2, e2, -⟩ := lst_val (S'.reads 2 rfl)
  subst e2
  obtain ⟨q3A3, q3c3, e3, -⟩ := lst_val (S'.reads 3 rfl)
  subst e3
  refine ⟨_, _, rfl, S', ?_⟩
  clear S S' ho hF hb
  refine Sx.G.sto 33 (.tmp 2) (.tmp 6) b1 0 5 [.slice PA0 g.prog.length Pc0, .int .i64 g.a, .int .i64 g.pc, .slice PA1 g.wr.length Pc1, .slice PA2 g.lv.length Pc2, .int .i64 g.t.1, .int .i64 g.t.2.1, .bool g.t.2.2, .int .i64 g.pd, .int .i64 g.x.1, .int .i64 g.x.2.1, .bool g.x.2.2.1, .int .i64 g.x.2.2.2, .bool g.hl, .slice PA3 g.seen.length Pc3] [.slice q3A0 g.prog.length q3c0, .int .i64 g.a, .int .i64 g.pc, .slice q3A1 g.wr.length q3c1, .slice q3A2 g.lv.length q3c2, .int .i64 g.t.1, .int .i64 g.t.2.1, .bool g.t.2.2, .int .i64 g.pd, .int .i64 g.x.1, .int .i64 g.x.2.1, .bool g.x.2.2.1, .int .i64 g.x.2.2.2, .bool g.hl, .slice q3A3 g.seen.length q3c3] [.slice q3A0 g.prog.length q3c0, .int .i64 g.a, .int .i64 g.pc, .slice q3A1 g.wr.length q3c1, .slice q3A2 g.lv.length q3c2, .int .i64 g.t.1, .int .i64 g.t.2.1, .bool g.t.2.2, .int .i64 g.pd, .int .i64 g.x.1, .int .i64 g.x.2.1, .bool g.x.2.2.1, .int .i64 g.x.2.2.2, .bool g.hl, .slice q3A3 g.seen.length q3c3] [ow (rLst 54 (rPair rInt rInt)) w3.heap.size (w3'.heap.size) g.prog [.slice q3A0 g.prog.length q3c0] G3_0, ow (rLsw (rPair rInt rInt)) w3.heap.size w3'.heap.size g.wr [.slice q3A1 g.wr.length q3c1] G3_1, ow (rLsw (rPair rInt rInt)) w3.heap.size w3'.heap.size g.lv [.slice q3A2 g.lv.length q3c2] G3_2, ow (rLst 3 rInt) w3.heap.size (w3'.heap.size) g.seen [.slice q3A3 g.seen.length q3c3] G3_3, vr b2 [.slice none 0 0, .int .i64 0, .int .i64 0, .slice none 0 0, .slice none 0 0, .int .i64 0, .int .i64 0, .bool false, .int .i64 0, .int .i64 0, .int .i64 0, .bool false, .int .i64 0, .bool false, .slice none 0 0], vr b1 [.slice q3A0 g.prog.length q3c0, .int .i64 g.a, .int .i64 g.pc, .slice q3A1 g.wr.length q3c1, .slice q3A2 g.lv.length q3c2, .int .i64 g.t.1, .int .i64 g.t.2.1, .bool g.t.2.2, .int .i64 g.pd, .int .i64 g.x.1, .int .i64 g.x.2.1, .bool g.x.2.2.1, .int .i64 g.x.2.2.2, .bool g.hl, .slice q3A3 g.seen.length q3c3]] rfl (by kernel_rfl) (by kernel_rfl) (by kernel_rfl) rfl (by kernel_rfl) rfl (by kernel_rfl) (by kernel_rfl) (by kernel_rfl) ?_
  refine Sx.G.nil ?_
  refine Sx.E.next ?_
  refine Sx.C.seq ?_
  refine Sx.C.seq ?_
  refine Sx.C.region ?_
  refine Sx.G.pure (.pointer (some ⟨b1, 14, none⟩)) (by kernel_rfl) (fun w => by kernel_rfl) ?_
  refine Sx.G.ld1 31 (.tmp 7) b1 14 5 [.slice q3A0 g.prog.length q3c0, .int .i64 g.a, .int .i64 g.pc, .slice q3A1 g.wr.length q3c1, .slice q3A2 g.lv.length q3c2, .int .i64 g.t.1, .int .i64 g.t.2.1, .bool g.t.2.2, .int .i64 g.pd, .int .i64 g.x.1, .int .i64 g.x.2.1, .bool g.x.2.2.1, .int .i64 g.x.2.2.2, .bool g.hl, .slice q3A3 g.seen.length q3c3] (.slice q3A3 g.seen.length q3c3) rfl (by kernel_rfl) (by kernel_rfl) rfl (by kernel_rfl) (by kernel_rfl) ?_
  refine Sx.G.pure (.int .i64 ((g.seen.length : Nat) : Int)) (by kernel_rfl) (fun w => by kernel_rfl) ?_
  refine Sx.G.pure (.bool (decide (((g.seen.length : Nat) : Int) < 40))) (by kernel_rfl) (fun w => by kernel_rfl) ?_
  refine Sx.G.nil ?_
  refine Sx.E.next ?_
  cases hc4 : (decide (((g.seen.length : Nat) : Int) < 40))
  · have hb4 := hc4
    replace hc4 := of_decide_eq_false hc4
    refine Sx.C.no (by kernel_rfl) (by kernel_rfl) ?_
    refine Sx.C.skip ?_
    refine Sx.E.next ?_
    refine Sx.C.seq ?_
    refine Sx.C.region ?_
    refine Sx.G.ld 33 (.tmp 2) b1 0 5 [.slice q3A0 g.prog.length q3c0, .int .i64 g.a, .int .i64 g.pc, .slice q3A1 g.wr.length q3c1, .slice q3A2 g.lv.length q3c2, .int .i64 g.t.1, .int .i64 g.t.2.1, .bool g.t.2.2, .int .i64 g.pd, .int .i64 g.x.1, .int .i64 g.x.2.1, .bool g.x.2.2.1, .int .i64 g.x.2.2.2, .bool g.hl, .slice q3A3 g.seen.length q3c3] [.slice q3A0 g.prog.length q3c0, .int .i64 g.a, .int .i64 g.pc, .slice q3A1 g.wr.length q3c1, .slice q3A2 g.lv.length q3c2, .int .i64 g.t.1, .int .i64 g.t.2.1, .bool g.t.2.2, .int .i64 g.pd, .int .i64 g.x.1, .int .i64 g.x.2.1, .bool g.x.2.2.1, .int .i64 g.x.2.2.2, .bool g.hl, .slice q3A3 g.seen.length q3c3] rfl (by kernel_rfl) (by kernel_rfl) rfl (by kernel_rfl) (by kernel_rfl) (by kernel_rfl) ?_
    refine Sx.G.sto 33 (.tmp 4) (.tmp 17) b2 0 4 [.slice none 0 0, .int .i64 0, .int .i64 0, .slice none 0 0, .slice none 0 0, .int .i64 0, .int .i64 0, .bool false, .int .i64 0, .int .i64 0, .int .i64 0, .bool false, .int .i64 0, .bool false, .slice none 0 0] [.slice q3A0 g.prog.length q3c0, .int .i64 g.a, .int .i64 g.pc, .slice q3A1 g.wr.length q3c1, .slice q3A2 g.lv.length q3c2, .int .i64 g.t.1, .int .i64 g.t.2.1, .bool g.t.2.2, .int .i64 g.pd, .int .i64 g.x.1, .int .i64 g.x.2.1, .bool g.x.2.2.1, .int .i64 g.x.2.2.2, .bool g.hl, .slice q3A3 g.seen.length q3c3] [.slice q3A0 g.prog.length q3c0, .int .i64 g.a, .int .i64 g.pc, .slice q3A1 g.wr.length q3c1, .slice q3A2 g.lv.length q3c2, .int .i64 g.t.1, .int .i64 g.t.2.1, .bool g.t.2.2, .int .i64 g.pd, .int .i64 g.x.1, .int .i64 g.x.2.1, .bool g.x.2.2.1, .int .i64 g.x.2.2.2, .bool g.hl, .slice q3A3 g.seen.length q3c3] [ow (rLst 54 (rPair rInt rInt)) w3.heap.size (w3'.heap.size) g.prog [.slice q3A0 g.prog.length q3c0] G3_0, ow (rLsw (rPair rInt rInt)) w3.heap.size w3'.heap.size g.wr [.slice q3A1 g.wr.length q3c1] G3_1, ow (rLsw (rPair rInt rInt)) w3.heap.size w3'.heap.size g.lv [.slice q3A2 g.lv.length q3c2] G3_2, ow (rLst 3 rInt) w3.heap.size (w3'.heap.size) g.seen [.slice q3A3 g.seen.length q3c3] G3_3, vr b2 [.slice q3A0 g.prog.length q3c0, .int .i64 g.a, .int .i64 g.pc, .slice q3A1 g.wr.length q3c1, .slice q3A2 g.lv.length q3c2, .int .i64 g.t.1, .int .i64 g.t.2.1, .bool g.t.2.2, .int .i64 g.pd, .int .i64 g.x.1, .int .i64 g.x.2.1, .bool g.x.2.2.1, .int .i64 g.x.2.2.2, .bool g.hl, .slice q3A3 g.seen.length q3c3], vr b1 [.slice q3A0 g.prog.length q3c0, .int .i64 g.a, .int .i64 g.pc, .slice q3A1 g.wr.length q3c1, .slice q3A2 g.lv.length q3c2, .int .i64 g.t.1, .int .i64 g.t.2.1, .bool g.t.2.2, .int .i64 g.pd, .int .i64 g.x.1, .int .i64 g.x.2.1, .bool g.x.2.2.1, .int .i64 g.x.2.2.2, .bool g.hl, .slice q3A3 g.seen.length q3c3]] rfl (by kernel_rfl) (by kernel_rfl) (by kernel_rfl) rfl (by kernel_rfl) rfl (by kernel_rfl) (by kernel_rfl) (by kernel_rfl) ?_
    refine Sx.G.nil ?_
    refine Sx.E.next ?_
    refine Sx.C.ret ?_
    refine Sx.E.retc b2 4 [.slice q3A0 g.prog.length q3c0, .int .i64 g.a, .int .i64 g.pc, .slice q3A1 g.wr.length q3c1, .slice q3A2 g.lv.length q3c2, .int .i64 g.t.1, .int .i64 g.t.2.1, .bool g.t.2.2, .int .i64 g.pd, .int .i64 g.x.1, .int .i64 g.x.2.1, .bool g.x.2.2.1, .int .i64 g.x.2.2.2, .bool g.hl, .slice q3A3 g.seen.length q3c3] rfl (by kernel_rfl) rfl (by kernel_rfl) (by kernel_rfl) (fun w S => ?_)
    obtain ⟨ho, hF⟩ := rG_shut (g := g) S 0 rfl 1 rfl 2 rfl 3 rfl (by decide) (by decide) (by decide) (by decide) (by decide) (by decide)
    rw [show sawG g n = g from if_neg (by omega)]; exact ⟨_, _, rfl, ho, hF, S.below⟩
  · have hb4 := hc4
    replace hc4 := of_decide_eq_true hc4
    refine Sx.C.yes (by kernel_rfl) (by kernel_rfl) ?_
    refine Sx.C.region ?_
    refine Sx.G.pure (.pointer (some ⟨b1, 14, none⟩)) (by kernel_rfl) (fun w => by kernel_rfl) ?_
    refine Sx.G.ld1 31 (.tmp 11) b1 14 5 [.slice q3A0 g.prog.length q3c0, .int .i64 g.a, .int .i64 g.pc, .slice q3A1 g.wr.length q3c1, .slice q3A2 g.lv.length q3c2, .int .i64 g.t.1, .int .i64 g.t.2.1, .bool g.t.2.2, .int .i64 g.pd, .int .i64 g.x.1, .int .i64 g.x.2.1, .bool g.x.2.2.1, .int .i64 g.x.2.2.2, .bool g.hl, .slice q3A3 g.seen.length q3c3] (.slice q3A3 g.seen.length q3c3) rfl (by kernel_rfl) (by kernel_rfl) rfl (by kernel_rfl) (by kernel_rfl) ?_
    refine Sx.G.pure (.int .i64 n) (by kernel_rfl) (fun w => by kernel_rfl) ?_
    refine Sx.G.made 3 [.int .i64 n] 1 (by kernel_rfl) (fun w => by kernel_rfl) (fun b5 => ?_)
    refine Sx.G.apps 4 rfl (g.seen ++ [n]) (fun w S => S.box 0 rfl rfl 1 (Nat.le_refl _)) rfl (g.seen.length + 1) (by simp) flat_int (.tmp 12) (.tmp 14) 31 1 8 rfl rfl (by kernel_rfl) (by kernel_rfl) rfl (by kernel_rfl) (by kernel_rfl) (by simp only [maxLen, List.length_nil, List.length_cons]; omega) (by simp only [List.length_nil, List.length_cons]; omega) (fun A6 c6 F6 hi6 hm6 => ?_)
    refine Sx.G.pure (.pointer (some ⟨b1, 14, none⟩)) (by kernel_rfl) (fun w => by kernel_rfl) ?_
    refine Sx.G.sto 31 (.tmp 16) (.tmp 15) b1 14 6 [.slice q3A0 g.prog.length q3c0, .int .i64 g.a, .int .i64 g.pc, .slice q3A1 g.wr.length q3c1, .slice q3A2 g.lv.length q3c2, .int .i64 g.t.1, .int .i64 g.t.2.1, .bool g.t.2.2, .int .i64 g.pd, .int .i64 g.x.1, .int .i64 g.x.2.1, .bool g.x.2.2.1, .int .i64 g.x.2.2.2, .bool g.hl, .slice q3A3 g.seen.length q3c3] [.slice A6 (g.seen.length + 1) c6] [.slice q3A0 g.prog.length q3c0, .int .i64 g.a, .int .i64 g.pc, .slice q3A1 g.wr.length q3c1, .slice q3A2 g.lv.length q3c2, .int .i64 g.t.1, .int .i64 g.t.2.1, .bool g.t.2.2, .int .i64 g.pd, .int .i64 g.x.1, .int .i64 g.x.2.1, .bool g.x.2.2.1, .int .i64 g.x.2.2.2, .bool g.hl, .slice A6 (g.seen.length + 1) c6] [vr b5 [.int .i64 n], ow (rLst 54 (rPair rInt rInt)) w3.heap.size (w3'.heap.size) g.prog [.slice q3A0 g.prog.length q3c0] G3_0, ow (rLsw (rPair rInt rInt)) w3.heap.size w3'.heap.size g.wr [.slice q3A1 g.wr.length q3c1] G3_1, ow (rLsw (rPair rInt rInt)) w3.heap.size w3'.heap.size g.lv [.slice q3A2 g.lv.length q3c2] G3_2, ow (rLst 3 rInt) w.heap.size hi6 (g.seen ++ [n]) [.slice A6 (g.seen.length + 1) c6] F6, vr b2 [.slice none 0 0, .int .i64 0, .int .i64 0, .slice none 0 0, .slice none 0 0, .int .i64 0, .int .i64 0, .bool false, .int .i64 0, .int .i64 0, .int .i64 0, .bool false, .int .i64 0, .bool false, .slice none 0 0], vr b1 [.slice q3A0 g.prog.length q3c0, .int .i64 g.a, .int .i64 g.pc, .slice q3A1 g.wr.length q3c1, .slice q3A2 g.lv.length q3c2, .int .i64 g.t.1, .int .i64 g.t.2.1, .bool g.t.2.2, .int .i64 g.pd, .int .i64 g.x.1, .int .i64 g.x.2.1, .bool g.x.2.2.1, .int .i64 g.x.2.2.2, .bool g.hl, .slice A6 (g.seen.length + 1) c6]] rfl (by kernel_rfl) (by kernel_rfl) (by kernel_rfl) rfl (by kernel_rfl) rfl (by kernel_rfl) (by kernel_rfl) (by kernel_rfl) ?_
    refine Sx.G.nil ?_
    refine Sx.E.next ?_
    refine Sx.C.seq ?_
    refine Sx.C.region ?_
    refine Sx.G.ld 33 (.tmp 2) b1 0 6 [.slice q3A0 g.prog.length q3c0, .int .i64 g.a, .int .i64 g.pc, .slice q3A1 g.wr.length q3c1, .slice q3A2 g.lv.length q3c2, .int .i64 g.t.1, .int .i64 g.t.2.1, .bool g.t.2.2, .int .i64 g.pd, .int .i64 g.x.1, .int .i64 g.x.2.1, .bool g.x.2.2.1, .int .i64 g.x.2.2.2, .bool g.hl, .slice A6 (g.seen.length + 1) c6] [.slice q3A0 g.prog.length q3c0, .int .i64 g.a, .int .i64 g.pc, .slice q3A1 g.wr.length q3c1, .slice q3A2 g.lv.length q3c2, .int .i64 g.t.1, .int .i64 g.t.2.1, .bool g.t.2.2, .int .i64 g.pd, .int .i64 g.x.1, .int .i64 g.x.2.1, .bool g.x.2.2.1, .int .i64 g.x.2.2.2, .bool g.hl, .slice A6 (g.seen.length + 1) c6] rfl (by kernel_rfl) (by kernel_rfl) rfl (by kernel_rfl) (by kernel_rfl) (by kernel_rfl) ?_
    refine Sx.G.sto 33 (.tmp 4) (.tmp 17) b2 0 5 [.slice none 0 0, .int .i64 0, .int .i64 0, .slice none 0 0, .slice none 0 0, .int .i64 0, .int .i64 0, .bool false, .int .i64 0, .int .i64 0, .int .i64 0, .bool false, .int .i64 0, .bool false, .slice none 0 0] [.slice q3A0 g.prog.length q3c0, .int .i64 g.a, .int .i64 g.pc, .slice q3A1 g.wr.length q3c1, .slice q3A2 g.lv.length q3c2, .int .i64 g.t.1, .int .i64 g.t.2.1, .bool g.t.2.2, .int .i64 g.pd, .int .i64 g.x.1, .int .i64 g.x.2.1, .bool g.x.2.2.1, .int .i64 g.x.2.2.2, .bool g.hl, .slice A6 (g.seen.length + 1) c6] [.slice q3A0 g.prog.length q3c0, .int .i64 g.a, .int .i64 g.pc, .slice q3A1 g.wr.length q3c1, .slice q3A2 g.lv.length q3c2, .int .i64 g.t.1, .int .i64 g.t.2.1, .bool g.t.2.2, .int .i64 g.pd, .int .i64 g.x.1, .int .i64 g.x.2.1, .bool g.x.2.2.1, .int .i64 g.x.2.2.2, .bool g.hl, .slice A6 (g.seen.length + 1) c6] [vr b5 [.int .i64 n], ow (rLst 54 (rPair rInt rInt)) w3.heap.size (w3'.heap.size) g.prog [.slice q3A0 g.prog.length q3c0] G3_0, ow (rLsw (rPair rInt rInt)) w3.heap.size w3'.heap.size g.wr [.slice q3A1 g.wr.length q3c1] G3_1, ow (rLsw (rPair rInt rInt)) w3.heap.size w3'.heap.size g.lv [.slice q3A2 g.lv.length q3c2] G3_2, ow (rLst 3 rInt) w.heap.size hi6 (g.seen ++ [n]) [.slice A6 (g.seen.length + 1) c6] F6, vr b2 [.slice q3A0 g.prog.length q3c0, .int .i64 g.a, .int .i64 g.pc, .slice q3A1 g.wr.length q3c1, .slice q3A2 g.lv.length q3c2, .int .i64 g.t.1, .int .i64 g.t.2.1, .bool g.t.2.2, .int .i64 g.pd, .int .i64 g.x.1, .int .i64 g.x.2.1, .bool g.x.2.2.1, .int .i64 g.x.2.2.2, .bool g.hl, .slice A6 (g.seen.length + 1) c6], vr b1 [.slice q3A0 g.prog.length q3c0, .int .i64 g.a, .int .i64 g.pc, .slice q3A1 g.wr.length q3c1, .slice q3A2 g.lv.length q3c2, .int .i64 g.t.1, .int .i64 g.t.2.1, .bool g.t.2.2, .int .i64 g.pd, .int .i64 g.x.1, .int .i64 g.x.2.1, .bool g.x.2.2.1, .int .i64 g.x.2.2.2, .bool g.hl, .slice A6 (g.seen.length + 1) c6]] rfl (by kernel_rfl) (by kernel_rfl) (by kernel_rfl) rfl (by kernel_rfl) rfl (by kernel_rfl) (by kernel_rfl) (by kernel_rfl) ?_
    refine Sx.G.nil ?_
    refine Sx.E.next ?_
    refine Sx.C.ret ?_
    refine Sx.E.retc b2 5 [.slice q3A0 g.prog.length q3c0, .int .i64 g.a, .int .i64 g.pc, .slice q3A1 g.wr.length q3c1, .slice q3A2 g.lv.length q3c2, .int .i64 g.t.1, .int .i64 g.t.2.1, .bool g.t.2.2, .int .i64 g.pd, .int .i64 g.x.1, .int .i64 g.x.2.1, .bool g.x.2.2.1, .int .i64 g.x.2.2.2, .bool g.hl, .slice A6 (g.seen.length + 1) c6] rfl (by kernel_rfl) rfl (by kernel_rfl) (by kernel_rfl) (fun w S => ?_)
    obtain ⟨ho, hF⟩ := rG_shut (g := { g with seen := g.seen ++ [n] }) S 1 rfl 2 rfl 3 rfl 4 rfl (by decide) (by decide) (by decide) (by decide) (by decide) (by decide)
    rw [show sawG g n = { g with seen := g.seen ++ [n] } from if_pos (by omega)]; exact ⟨_, _, rfl, ho, hF, S.below⟩
set_option maxRecDepth 100000 in
set_option maxHeartbeats 4000000 in
theorem specx_int (g : gT) (cs : List Value) (w : World) (hc : rG.cap g) (h : rG.rd w 0 w.heap.size g cs) : Calls Tryz.prog 15 #[.agg cs.toArray] w (Gives rG w (intG g)) := by
  have hr := h
  obtain ⟨P0, P1, P2, P3, rfl, h0, h1, h2, h3⟩ := rG_rd h
  obtain ⟨PA0, Pc0, e0, hP0⟩ := lst_val h0
  subst e0
  obtain ⟨PA1, Pc1, e1, hP1⟩ := lst_val h1
  subst e1
  obtain ⟨PA2, Pc2, e2, hP2⟩ := lst_val h2
  subst e2
  obtain ⟨PA3, Pc3, e3, hP3⟩ := lst_val h3
  subst e3
  refine Sx.enter (args := [.agg #[.slice PA0 g.prog.length Pc0, .int .i64 g.a, .int .i64 g.pc, .slice PA1 g.wr.length Pc1, .slice PA2 g.lv.length Pc2, .int .i64 g.t.1, .int .i64 g.t.2.1, .bool g.t.2.2, .int .i64 g.pd, .int .i64 g.x.1, .int .i64 g.x.2.1, .bool g.x.2.2.1, .int .i64 g.x.2.2.2, .bool g.hl, .slice PA3 g.seen.length Pc3]]) Tryz.func15 rfl Tryz.ntmps15 rfl ?_
  refine Sx.C.seq ?_
  refine Sx.C.region ?_
  refine Sx.G.box 33 (.tmp 0) [.slice PA0 g.prog.length Pc0, .int .i64 g.a, .int .i64 g.pc, .slice PA1 g.wr.length Pc1, .slice PA2 g.lv.length Pc2, .int .i64 g.t.1, .int .i64 g.t.2.1, .bool g.t.2.2, .int .i64 g.pd, .int .i64 g.x.1, .int .i64 g.x.2.1, .bool g.x.2.2.1, .int .i64 g.x.2.2.2, .bool g.hl, .slice PA3 g.seen.length Pc3] rfl (by kernel_rfl) (by kernel_rfl) (fun b1 => ?_)
  refine Sx.G.alloc 33 (.agg #[.slice none 0 0, .int .i64 0, .int .i64 0, .slice none 0 0, .slice none 0 0, .int .i64 0, .int .i64 0, .bool false, .int .i64 0, .int .i64 0, .int .i64 0, .bool false, .int .i64 0, .bool false, .slice none 0 0]) [.slice none 0 0, .int .i64 0, .int .i64 0, .slice none 0 0, .slice none 0 0, .int .i64 0, .int .i64 0, .bool false, .int .i64 0, .int .i64 0, .int .i64 0, .bool false, .int .i64 0, .bool false, .slice none 0 0] rfl (by kernel_rfl) (fun w => by kernel_rfl) (by kernel_rfl) (fun b2 => ?_)
  refine Sx.G.nil ?_
  refine Sx.E.next ?_
  refine Sx.C.seq ?_
  refine Sx.C.seq ?_
  refine Sx.C.region ?_
  refine Sx.G.ld 33 (.tmp 1) b1 0 1 [.slice PA0 g.prog.length Pc0, .int .i64 g.a, .int .i64 g.pc, .slice PA1 g.wr.length Pc1, .slice PA2 g.lv.length Pc2, .int .i64 g.t.1, .int .i64 g.t.2.1, .bool g.t.2.2, .int .i64 g.pd, .int .i64 g.x.1, .int .i64 g.x.2.1, .bool g.x.2.2.1, .int .i64 g.x.2.2.2, .bool g.hl, .slice PA3 g.seen.length Pc3] [.slice PA0 g.prog.length Pc0, .int .i64 g.a, .int .i64 g.pc, .slice PA1 g.wr.length Pc1, .slice PA2 g.lv.length Pc2, .int .i64 g.t.1, .int .i64 g.t.2.1, .bool g.t.2.2, .int .i64 g.pd, .int .i64 g.x.1, .int .i64 g.x.2.1, .bool g.x.2.2.1, .int .i64 g.x.2.2.2, .bool g.hl, .slice PA3 g.seen.length Pc3] rfl (by kernel_rfl) (by kernel_rfl) rfl (by kernel_rfl) (by kernel_rfl) (by kernel_rfl) ?_
  refine Sx.G.plain 26 #[.agg #[.slice PA0 g.prog.length Pc0, .int .i64 g.a, .int .i64 g.pc, .slice PA1 g.wr.length Pc1, .slice PA2 g.lv.length Pc2, .int .i64 g.t.1, .int .i64 g.t.2.1, .bool g.t.2.2, .int .i64 g.pd, .int .i64 g.x.1, .int .i64 g.x.2.1, .bool g.x.2.2.1, .int .i64 g.x.2.2.2, .bool g.hl, .slice PA3 g.seen.length Pc3]] (.bool (takesI g)) (by kernel_rfl) (fun w => by kernel_rfl) (fun w S => by exact spec_takes g (.slice PA0 g.prog.length Pc0) (.slice PA1 g.wr.length Pc1) (.slice PA2 g.lv.length Pc2) (.slice PA3 g.seen.length Pc3) _) ?_
  refine Sx.G.pure (.bool (!(takesI g))) (by kernel_rfl) (fun w => by kernel_rfl) ?_
  refine Sx.G.nil ?_
  refine Sx.E.next ?_
  cases hc3 : (takesI g)
  · have hb3 := hc3
    refine Sx.C.yes (by kernel_rfl) (by kernel_rfl) ?_
    refine Sx.C.seq ?_
    refine Sx.C.region ?_
    refine Sx.G.ld 33 (.tmp 1) b1 0 1 [.slice PA0 g.prog.length Pc0, .int .i64 g.a, .int .i64 g.pc, .slice PA1 g.wr.length Pc1, .slice PA2 g.lv.length Pc2, .int .i64 g.t.1, .int .i64 g.t.2.1, .bool g.t.2.2, .int .i64 g.pd, .int .i64 g.x.1, .int .i64 g.x.2.1, .bool g.x.2.2.1, .int .i64 g.x.2.2.2, .bool g.hl, .slice PA3 g.seen.length Pc3] [.slice PA0 g.prog.length Pc0, .int .i64 g.a, .int .i64 g.pc, .slice PA1 g.wr.length Pc1, .slice PA2 g.lv.length Pc2, .int .i64 g.t.1, .int .i64 g.t.2.1, .bool g.t.2.2, .int .i64 g.pd, .int .i64 g.x.1, .int .i64 g.x.2.1, .bool g.x.2.2.1, .int .i64 g.x.2.2.2, .bool g.hl, .slice PA3 g.seen.length Pc3] rfl (by kernel_rfl) (by kernel_rfl) rfl (by kernel_rfl) (by kernel_rfl) (by kernel_rfl) ?_
    refine Sx.G.call 39 #[.agg #[.slice PA0 g.prog.length Pc0, .int .i64 g.a, .int .i64 g.pc, .slice PA1 g.wr.length Pc1, .slice PA2 g.lv.length Pc2, .int .i64 g.t.1, .int .i64 g.t.2.1, .bool g.t.2.2, .int .i64 g.pd, .int .i64 g.x.1, .int .i64 g.x.2.1, .bool g.x.2.2.1, .int .i64 g.x.2.2.2, .bool g.hl, .slice PA3 g.seen.length Pc3]] (by kernel_rfl) (fun w => by kernel_rfl) (fun w4 S => (specx_copy g _ _ (by exact hc) (St.old S hr)).mono fun e w4' hp => ?_)
    obtain ⟨cs, F, rfl, ho, hF, hb⟩ := hp
    obtain ⟨q4_0, q4_1, q4_2, q4_3, G4_0, G4_1, G4_2, G4_3, rfl, S'⟩ := rG_open (S.got hb ho hF)
    obtain ⟨q4A0, q4c0, e0, -⟩ := lst_val (S'.reads 0 rfl)
    subst e0
    obtain ⟨q4A1, q4c1, e1, -⟩ := lst_val (S'.reads 1 rfl)
    subst e1
    obtain ⟨q4A2, q4c2, e2, -⟩ := lst_val (S'.reads 2 rfl)
    subst e2
    obtain ⟨q4A3, q4c3, e3, -⟩ := lst_val (S'.reads 3 rfl)
    subst e3
    refine ⟨_, _, rfl, S', ?_⟩
    clear S S' ho hF hb
    refine Sx.G.sto 33 (.tmp 2) (.tmp 10) b2 0 4 [.slice none 0 0, .int .i64 0, .int .i64 0, .slice none 0 0, .slice none 0 0, .int .i64 0, .int .i64 0, .bool false, .int .i64 0, .int .i64 0, .int .i64 0, .bool false, .int .i64 0, .bool false, .slice none 0 0] [.slice q4A0 g.prog.length q4c0, .int .i64 g.a, .int .i64 g.pc, .slice q4A1 g.wr.length q4c1, .slice q4A2 g.lv.length q4c2, .int .i64 g.t.1, .int .i64 g.t.2.1, .bool g.t.2.2, .int .i64 g.pd, .int .i64 g.x.1, .int .i64 g.x.2.1, .bool g.x.2.2.1, .int .i64 g.x.2.2.2, .bool g.hl, .slice q4A3 g.seen.length q4c3] [.slice q4A0 g.prog.length q4c0, .int .i64 g.a, .int .i64 g.pc, .slice q4A1 g.wr.length q4c1, .slice q4A2 g.lv.length q4c2, .int .i64 g.t.1, .int .i64 g.t.2.1, .bool g.t.2.2, .int .i64 g.pd, .int .i64 g.x.1, .int .i64 g.x.2.1, .bool g.x.2.2.1, .int .i64 g.x.2.2.2, .bool g.hl, .slice q4A3 g.seen.length q4c3] [ow (rLst 54 (rPair rInt rInt)) w4.heap.size (w4'.heap.size) g.prog [.slice q4A0 g.prog.length q4c0] G4_0, ow (rLsw (rPair rInt rInt)) w4.heap.size w4'.heap.size g.wr [.slice q4A1 g.wr.length q4c1] G4_1, ow (rLsw (rPair rInt rInt)) w4.heap.size w4'.heap.size g.lv [.slice q4A2 g.lv.length q4c2] G4_2, ow (rLst 3 rInt) w4.heap.size (w4'.heap.size) g.seen [.slice q4A3 g.seen.length q4c3] G4_3, vr b2 [.slice q4A0 g.prog.length q4c0, .int .i64 g.a, .int .i64 g.pc, .slice q4A1 g.wr.length q4c1, .slice q4A2 g.lv.length q4c2, .int .i64 g.t.1, .int .i64 g.t.2.1, .bool g.t.2.2, .int .i64 g.pd, .int .i64 g.x.1, .int .i64 g.x.2.1, .bool g.x.2.2.1, .int .i64 g.x.2.2.2, .bool g.hl, .slice q4A3 g.seen.length q4c3], vr b1 [.slice PA0 g.prog.length Pc0, .int .i64 g.a, .int .i64 g.pc, .slice PA1 g.wr.length Pc1, .slice PA2 g.lv.length Pc2, .int .i64 g.t.1, .int .i64 g.t.2.1, .bool g.t.2.2, .int .i64 g.pd, .int .i64 g.x.1, .int .i64 g.x.2.1, .bool g.x.2.2.1, .int .i64 g.x.2.2.2, .bool g.hl, .slice PA3 g.seen.length Pc3]] rfl (by kernel_rfl) (by kernel_rfl) (by kernel_rfl) rfl (by kernel_rfl) rfl (by kernel_rfl) (by kernel_rfl) (by kernel_rfl) ?_
    refine Sx.G.nil ?_
    refine Sx.E.next ?_
    refine Sx.C.ret ?_
    refine Sx.E.then_ret ?_
    refine Sx.E.retc b2 4 [.slice q4A0 g.prog.length q4c0, .int .i64 g.a, .int .i64 g.pc, .slice q4A1 g.wr.length q4c1, .slice q4A2 g.lv.length q4c2, .int .i64 g.t.1, .int .i64 g.t.2.1, .bool g.t.2.2, .int .i64 g.pd, .int .i64 g.x.1, .int .i64 g.x.2.1, .bool g.x.2.2.1, .int .i64 g.x.2.2.2, .bool g.hl, .slice q4A3 g.seen.length q4c3] rfl (by kernel_rfl) rfl (by kernel_rfl) (by kernel_rfl) (fun w S => ?_)
    have HW : intG g = g := by
      show (if takesI g = true then _ else _) = _
      rw [hb3]; rfl
    obtain ⟨ho, hF⟩ := rG_shut (g := g) S 0 rfl 1 rfl 2 rfl 3 rfl (by decide) (by decide) (by decide) (by decide) (by decide) (by decide)
    rw [HW]; exact ⟨_, _, rfl, ho, hF, S.below⟩
  · have hb3 := hc3
    refine Sx.C.no (by kernel_rfl) (by kernel_rfl) ?_
    refine Sx.C.skip ?_
    refine Sx.E.next ?_
    refine Sx.C.seq ?_
    refine Sx.C.region ?_
    refine Sx.G.pure (.pointer (some ⟨b1, 8, none⟩)) (by kernel_rfl) (fun w => by kernel_rfl) ?_
    refine Sx.G.ld1 3 (.tmp 12) b1 8 1 [.slice PA0 g.prog.length Pc0, .int .i64 g.a, .int .i64 g.pc, .slice PA1 g.wr.length Pc1, .slice PA2 g.lv.length Pc2, .int .i64 g.t.1, .int .i64 g.t.2.1, .bool g.t.2.2, .int .i64 g.pd, .int .i64 g.x.1, .int .i64 g.x.2.1, .bool g.x.2.2.1, .int .i64 g.x.2.2.2, .bool g.hl, .slice PA3 g.seen.length Pc3] (.int .i64 g.pd) rfl (by kernel_rfl) (by kernel_rfl) rfl (by kernel_rfl) (by kernel_rfl) ?_
    have htk := takeI_lt g.pd
    refine Sx.G.plain 45 #[.int .i64 g.pd] (.tuple #[.int .i64 (takeI g.pd).1, .int .i64 (takeI g.pd).2.1, .bool (takeI g.pd).2.2]) (by kernel_rfl) (fun w => by kernel_rfl) (fun w S => by exact ((spec_take g.pd _).mono fun e w' h => And.intro h.1 (below_same h.2))) ?_
    refine Sx.G.pure (.tuple #[.int .i64 (takeI g.pd).1, .int .i64 (takeI g.pd).2.1, .bool (takeI g.pd).2.2]) (by kernel_rfl) (fun w => by kernel_rfl) ?_
    refine Sx.G.pure (.int .i64 (takeI g.pd).1) (by kernel_rfl) (fun w => by kernel_rfl) ?_
    refine Sx.G.pure (.int .i64 (takeI g.pd).2.1) (by kernel_rfl) (fun w => by kernel_rfl) ?_
    refine Sx.G.pure (.bool ((takeI g.pd).2.2)) (by kernel_rfl) (fun w => by kernel_rfl) ?_
    refine Sx.G.pure (.int .i64 (takeI g.pd).1) (by kernel_rfl) (fun w => by kernel_rfl) ?_
    refine Sx.G.pure (.int .i64 (takeI g.pd).2.1) (by kernel_rfl) (fun w => by kernel_rfl) ?_
    refine Sx.G.pure (.bool ((takeI g.pd).2.2)) (by kernel_rfl) (fun w => by kernel_rfl) ?_
    refine Sx.G.nil ?_
    refine Sx.E.next ?_
    refine Sx.C.seq ?_
    refine Sx.C.region ?_
    refine Sx.G.pure (.int .i64 (takeI g.pd).1) (by kernel_rfl) (fun w => by kernel_rfl) ?_
    refine Sx.G.pure (.pointer (some ⟨b1, 8, none⟩)) (by kernel_rfl) (fun w => by kernel_rfl) ?_
    refine Sx.G.sto 3 (.tmp 19) (.tmp 18) b1 8 1 [.slice PA0 g.prog.length Pc0, .int .i64 g.a, .int .i64 g.pc, .slice PA1 g.wr.length Pc1, .slice PA2 g.lv.length Pc2, .int .i64 g.t.1, .int .i64 g.t.2.1, .bool g.t.2.2, .int .i64 g.pd, .int .i64 g.x.1, .int .i64 g.x.2.1, .bool g.x.2.2.1, .int .i64 g.x.2.2.2, .bool g.hl, .slice PA3 g.seen.length Pc3] [.int .i64 (takeI g.pd).1] [.slice PA0 g.prog.length Pc0, .int .i64 g.a, .int .i64 g.pc, .slice PA1 g.wr.length Pc1, .slice PA2 g.lv.length Pc2, .int .i64 g.t.1, .int .i64 g.t.2.1, .bool g.t.2.2, .int .i64 (takeI g.pd).1, .int .i64 g.x.1, .int .i64 g.x.2.1, .bool g.x.2.2.1, .int .i64 g.x.2.2.2, .bool g.hl, .slice PA3 g.seen.length Pc3] [vr b2 [.slice none 0 0, .int .i64 0, .int .i64 0, .slice none 0 0, .slice none 0 0, .int .i64 0, .int .i64 0, .bool false, .int .i64 0, .int .i64 0, .int .i64 0, .bool false, .int .i64 0, .bool false, .slice none 0 0], vr b1 [.slice PA0 g.prog.length Pc0, .int .i64 g.a, .int .i64 g.pc, .slice PA1 g.wr.length Pc1, .slice PA2 g.lv.length Pc2, .int .i64 g.t.1, .int .i64 g.t.2.1, .bool g.t.2.2, .int .i64 (takeI g.pd).1, .int .i64 g.x.1, .int .i64 g.x.2.1, .bool g.x.2.2.1, .int .i64 g.x.2.2.2, .bool g.hl, .slice PA3 g.seen.length Pc3]] rfl (by kernel_rfl) (by kernel_rfl) (by kernel_rfl) rfl (by kernel_rfl) rfl (by kernel_rfl) (by kernel_rfl) (by kernel_rfl) ?_
    refine Sx.G.nil ?_
    refine Sx.E.next ?_
    refine Sx.C.seq ?_
    refine Sx.C.region ?_
    refine Sx.G.ld 33 (.tmp 1) b1 0 1 [.slice PA0 g.prog.length Pc0, .int .i64 g.a, .int .i64 g.pc, .slice PA1 g.wr.length Pc1, .slice PA2 g.lv.length Pc2, .int .i64 g.t.1, .int .i64 g.t.2.1, .bool g.t.2.2, .int .i64 (takeI g.pd).1, .int .i64 g.x.1, .int .i64 g.x.2.1, .bool g.x.2.2.1, .int .i64 g.x.2.2.2, .bool g.hl, .slice PA3 g.seen.length Pc3] [.slice PA0 g.prog.length Pc0, .int .i64 g.a, .int .i64 g.pc, .slice PA1 g.wr.length Pc1, .slice PA2 g.lv.length Pc2, .int .i64 g.t.1, .int .i64 g.t.2.1, .bool g.t.2.2, .int .i64 (takeI g.pd).1, .int .i64 g.x.1, .int .i64 g.x.2.1, .bool g.x.2.2.1, .int .i64 g.x.2.2.2, .bool g.hl, .slice PA3 g.seen.length Pc3] rfl (by kernel_rfl) (by kernel_rfl) rfl (by kernel_rfl) (by kernel_rfl) (by kernel_rfl) ?_
    refine Sx.G.pure (.int .i64 (takeI g.pd).2.1) (by kernel_rfl) (fun w => by kernel_rfl) ?_
    refine Sx.G.pureq (.int .i64 (IntKind.i64.wrap (100 + (takeI g.pd).2.1))) (.int .i64 (100 + (takeI g.pd).2.1)) (by kernel_rfl) (fun w => by kernel_rfl) (congrArg (Value.int .i64) (by rw [IntKind.wrap_i64]; omega)) ?_
    refine Sx.G.call 17 #[.agg #[.slice PA0 g.prog.length Pc0, .int .i64 g.a, .int .i64 g.pc, .slice PA1 g.wr.length Pc1, .slice PA2 g.lv.length Pc2, .int .i64 g.t.1, .int .i64 g.t.2.1, .bool g.t.2.2, .int .i64 (takeI g.pd).1, .int .i64 g.x.1, .int .i64 g.x.2.1, .bool g.x.2.2.1, .int .i64 g.x.2.2.2, .bool g.hl, .slice PA3 g.seen.length Pc3], .int .i64 (100 + (takeI g.pd).2.1)] (by kernel_rfl) (fun w => by kernel_rfl) (fun w5 S => (specx_saw ({ g with pd := (takeI g.pd).1 }) _ ((100 + (takeI g.pd).2.1)) _ (by exact hc) (rG_rd_mk (g := { g with pd := (takeI g.pd).1 }) (St.old S h0) (St.old S h1) (St.old S h2) (St.old S h3))).mono fun e w5' hp => ?_)
    obtain ⟨cs, F, rfl, ho, hF, hb⟩ := hp
    obtain ⟨q5_0, q5_1, q5_2, q5_3, G5_0, G5_1, G5_2, G5_3, rfl, S'⟩ := rG_open (S.got hb ho hF)
    obtain ⟨q5A0, q5c0, e0, -⟩ := lst_val (S'.reads 0 rfl)
    subst e0
    obtain ⟨q5A1, q5c1, e1, -⟩ := lst_val (S'.reads 1 rfl)
    subst e1
    obtain ⟨q5A2, q5c2, e2, -⟩ := lst_val (S'.reads 2 rfl)
    subst e2
    obtain ⟨q5A3, q5c3, e3, -⟩ := lst_val (S'.reads 3 rfl)
    subst e3
    refine ⟨_, _, rfl, S', ?_⟩
    clear S S' ho hF hb
    refine Sx.G.sto 33 (.tmp 2) (.tmp 23) b2 0 4 [.slice none 0 0, .int .i64 0, .int .i64 0, .slice none 0 0, .slice none 0 0, .int .i64 0, .int .i64 0, .bool false, .int .i64 0, .int .i64 0, .int .i64 0, .bool false, .int .i64 0, .bool false, .slice none 0 0] [.slice q5A0 (sawG ({ g with pd := (takeI g.pd).1 }) ((100 + (takeI g.pd).2.1))).prog.length q5c0, .int .i64 (sawG ({ g with pd := (takeI g.pd).1 }) ((100 + (takeI g.pd).2.1))).a, .int .i64 (sawG ({ g with pd := (takeI g.pd).1 }) ((100 + (takeI g.pd).2.1))).pc, .slice q5A1 (sawG ({ g with pd := (takeI g.pd).1 }) ((100 + (takeI g.pd).2.1))).wr.length q5c1, .slice q5A2 (sawG ({ g with pd := (takeI g.pd).1 }) ((100 + (takeI g.pd).2.1))).lv.length q5c2, .int .i64 (sawG ({ g with pd := (takeI g.pd).1 }) ((100 + (takeI g.pd).2.1))).t.1, .int .i64 (sawG ({ g with pd := (takeI g.pd).1 }) ((100 + (takeI g.pd).2.1))).t.2.1, .bool (sawG ({ g with pd := (takeI g.pd).1 }) ((100 + (takeI g.pd).2.1))).t.2.2, .int .i64 (sawG ({ g with pd := (takeI g.pd).1 }) ((100 + (takeI g.pd).2.1))).pd, .int .i64 (sawG ({ g with pd := (takeI g.pd).1 }) ((100 + (takeI g.pd).2.1))).x.1, .int .i64 (sawG ({ g with pd := (takeI g.pd).1 }) ((100 + (takeI g.pd).2.1))).x.2.1, .bool (sawG ({ g with pd := (takeI g.pd).1 }) ((100 + (takeI g.pd).2.1))).x.2.2.1, .int .i64 (sawG ({ g with pd := (takeI g.pd).1 }) ((100 + (takeI g.pd).2.1))).x.2.2.2, .bool (sawG ({ g with pd := (takeI g.pd).1 }) ((100 + (takeI g.pd).2.1))).hl, .slice q5A3 (sawG ({ g with pd := (takeI g.pd).1 }) ((100 + (takeI g.pd).2.1))).seen.length q5c3] [.slice q5A0 (sawG ({ g with pd := (takeI g.pd).1 }) ((100 + (takeI g.pd).2.1))).prog.length q5c0, .int .i64 (sawG ({ g with pd := (takeI g.pd).1 }) ((100 + (takeI g.pd).2.1))).a, .int .i64 (sawG ({ g with pd := (takeI g.pd).1 }) ((100 + (takeI g.pd).2.1))).pc, .slice q5A1 (sawG ({ g with pd := (takeI g.pd).1 }) ((100 + (takeI g.pd).2.1))).wr.length q5c1, .slice q5A2 (sawG ({ g with pd := (takeI g.pd).1 }) ((100 + (takeI g.pd).2.1))).lv.length q5c2, .int .i64 (sawG ({ g with pd := (takeI g.pd).1 }) ((100 + (takeI g.pd).2.1))).t.1, .int .i64 (sawG ({ g with pd := (takeI g.pd).1 }) ((100 + (takeI g.pd).2.1))).t.2.1, .bool (sawG ({ g with pd := (takeI g.pd).1 }) ((100 + (takeI g.pd).2.1))).t.2.2, .int .i64 (sawG ({ g with pd := (takeI g.pd).1 }) ((100 + (takeI g.pd).2.1))).pd, .int .i64 (sawG ({ g with pd := (takeI g.pd).1 }) ((100 + (takeI g.pd).2.1))).x.1, .int .i64 (sawG ({ g with pd := (takeI g.pd).1 }) ((100 + (takeI g.pd).2.1))).x.2.1, .bool (sawG ({ g with pd := (takeI g.pd).1 }) ((100 + (takeI g.pd).2.1))).x.2.2.1, .int .i64 (sawG ({ g with pd := (takeI g.pd).1 }) ((100 + (takeI g.pd).2.1))).x.2.2.2, .bool (sawG ({ g with pd := (takeI g.pd).1 }) ((100 + (takeI g.pd).2.1))).hl, .slice q5A3 (sawG ({ g with pd := (takeI g.pd).1 }) ((100 + (takeI g.pd).2.1))).seen.length q5c3] [ow (rLst 54 (rPair rInt rInt)) w5.heap.size (w5'.heap.size) ((sawG ({ g with pd := (takeI g.pd).1 }) ((100 + (takeI g.pd).2.1))).prog) [.slice q5A0 (sawG ({ g with pd := (takeI g.pd).1 }) ((100 + (takeI g.pd).2.1))).prog.length q5c0] G5_0, ow (rLsw (rPair rInt rInt)) w5.heap.size w5'.heap.size (sawG ({ g with pd := (takeI g.pd).1 }) ((100 + (takeI g.pd).2.1))).wr [.slice q5A1 (sawG ({ g with pd := (takeI g.pd).1 }) ((100 + (takeI g.pd).2.1))).wr.length q5c1] G5_1, ow (rLsw (rPair rInt rInt)) w5.heap.size w5'.heap.size (sawG ({ g with pd := (takeI g.pd).1 }) ((100 + (takeI g.pd).2.1))).lv [.slice q5A2 (sawG ({ g with pd := (takeI g.pd).1 }) ((100 + (takeI g.pd).2.1))).lv.length q5c2] G5_2, ow (rLst 3 rInt) w5.heap.size (w5'.heap.size) ((sawG ({ g with pd := (takeI g.pd).1 }) ((100 + (takeI g.pd).2.1))).seen) [.slice q5A3 (sawG ({ g with pd := (takeI g.pd).1 }) ((100 + (takeI g.pd).2.1))).seen.length q5c3] G5_3, vr b2 [.slice q5A0 (sawG ({ g with pd := (takeI g.pd).1 }) ((100 + (takeI g.pd).2.1))).prog.length q5c0, .int .i64 (sawG ({ g with pd := (takeI g.pd).1 }) ((100 + (takeI g.pd).2.1))).a, .int .i64 (sawG ({ g with pd := (takeI g.pd).1 }) ((100 + (takeI g.pd).2.1))).pc, .slice q5A1 (sawG ({ g with pd := (takeI g.pd).1 }) ((100 + (takeI g.pd).2.1))).wr.length q5c1, .slice q5A2 (sawG ({ g with pd := (takeI g.pd).1 }) ((100 + (takeI g.pd).2.1))).lv.length q5c2, .int .i64 (sawG ({ g with pd := (takeI g.pd).1 }) ((100 + (takeI g.pd).2.1))).t.1, .int .i64 (sawG ({ g with pd := (takeI g.pd).1 }) ((100 + (takeI g.pd).2.1))).t.2.1, .bool (sawG ({ g with pd := (takeI g.pd).1 }) ((100 + (takeI g.pd).2.1))).t.2.2, .int .i64 (sawG ({ g with pd := (takeI g.pd).1 }) ((100 + (takeI g.pd).2.1))).pd, .int .i64 (sawG ({ g with pd := (takeI g.pd).1 }) ((100 + (takeI g.pd).2.1))).x.1, .int .i64 (sawG ({ g with pd := (takeI g.pd).1 }) ((100 + (takeI g.pd).2.1))).x.2.1, .bool (sawG ({ g with pd := (takeI g.pd).1 }) ((100 + (takeI g.pd).2.1))).x.2.2.1, .int .i64 (sawG ({ g with pd := (takeI g.pd).1 }) ((100 + (takeI g.pd).2.1))).x.2.2.2, .bool (sawG ({ g with pd := (takeI g.pd).1 }) ((100 + (takeI g.pd).2.1))).hl, .slice q5A3 (sawG ({ g with pd := (takeI g.pd).1 }) ((100 + (takeI g.pd).2.1))).seen.length q5c3], vr b1 [.slice PA0 g.prog.length Pc0, .int .i64 g.a, .int .i64 g.pc, .slice PA1 g.wr.length Pc1, .slice PA2 g.lv.length Pc2, .int .i64 g.t.1, .int .i64 g.t.2.1, .bool g.t.2.2, .int .i64 (takeI g.pd).1, .int .i64 g.x.1, .int .i64 g.x.2.1, .bool g.x.2.2.1, .int .i64 g.x.2.2.2, .bool g.hl, .slice PA3 g.seen.length Pc3]] rfl (by kernel_rfl) (by kernel_rfl) (by kernel_rfl) rfl (by kernel_rfl) rfl (by kernel_rfl) (by kernel_rfl) (by kernel_rfl) ?_
    refine Sx.G.nil ?_
    refine Sx.E.next ?_
    refine Sx.C.ret ?_
    refine Sx.E.retc b2 4 [.slice q5A0 (sawG ({ g with pd := (takeI g.pd).1 }) ((100 + (takeI g.pd).2.1))).prog.length q5c0, .int .i64 (sawG ({ g with pd := (takeI g.pd).1 }) ((100 + (takeI g.pd).2.1))).a, .int .i64 (sawG ({ g with pd := (takeI g.pd).1 }) ((100 + (takeI g.pd).2.1))).pc, .slice q5A1 (sawG ({ g with pd := (takeI g.pd).1 }) ((100 + (takeI g.pd).2.1))).wr.length q5c1, .slice q5A2 (sawG ({ g with pd := (takeI g.pd).1 }) ((100 + (takeI g.pd).2.1))).lv.length q5c2, .int .i64 (sawG ({ g with pd := (takeI g.pd).1 }) ((100 + (takeI g.pd).2.1))).t.1, .int .i64 (sawG ({ g with pd := (takeI g.pd).1 }) ((100 + (takeI g.pd).2.1))).t.2.1, .bool (sawG ({ g with pd := (takeI g.pd).1 }) ((100 + (takeI g.pd).2.1))).t.2.2, .int .i64 (sawG ({ g with pd := (takeI g.pd).1 }) ((100 + (takeI g.pd).2.1))).pd, .int .i64 (sawG ({ g with pd := (takeI g.pd).1 }) ((100 + (takeI g.pd).2.1))).x.1, .int .i64 (sawG ({ g with pd := (takeI g.pd).1 }) ((100 + (takeI g.pd).2.1))).x.2.1, .bool (sawG ({ g with pd := (takeI g.pd).1 }) ((100 + (takeI g.pd).2.1))).x.2.2.1, .int .i64 (sawG ({ g with pd := (takeI g.pd).1 }) ((100 + (takeI g.pd).2.1))).x.2.2.2, .bool (sawG ({ g with pd := (takeI g.pd).1 }) ((100 + (takeI g.pd).2.1))).hl, .slice q5A3 (sawG ({ g with pd := (takeI g.pd).1 }) ((100 + (takeI g.pd).2.1))).seen.length q5c3] rfl (by kernel_rfl) rfl (by kernel_rfl) (by kernel_rfl) (fun w S => ?_)
    have HW : intG g = { (sawG ({ g with pd := (takeI g.pd).1 }) ((100 + (takeI g.pd).2.1))) with prog := (sawG ({ g with pd := (takeI g.pd).1 }) ((100 + (takeI g.pd).2.1))).prog, wr := (sawG ({ g with pd := (takeI g.pd).1 }) ((100 + (takeI g.pd).2.1))).wr, lv := (sawG ({ g with pd := (takeI g.pd).1 }) ((100 + (takeI g.pd).2.1))).lv, seen := (sawG ({ g with pd := (takeI g.pd).1 }) ((100 + (takeI g.pd).2.1))).seen } := by
      show (if takesI g = true then _ else _) = _
      rw [hb3]; rfl
    obtain ⟨ho, hF⟩ := rG_shut (g := { (sawG ({ g with pd := (takeI g.pd).1 }) ((100 + (takeI g.pd).2.1))) with prog := (sawG ({ g with pd := (takeI g.pd).1 }) ((100 + (takeI g.pd).2.1))).prog, wr := (sawG ({ g with pd := (takeI g.pd).1 }) ((100 + (takeI g.pd).2.1))).wr, lv := (sawG ({ g with pd := (takeI g.pd).1 }) ((100 + (takeI g.pd).2.1))).lv, seen := (sawG ({ g with pd := (takeI g.pd).1 }) ((100 + (takeI g.pd).2.1))).seen }) S 0 rfl 1 rfl 2 rfl 3 rfl (by decide) (by decide) (by decide) (by decide) (by decide) (by decide)
    rw [HW]; exact ⟨_, _, rfl, ho, hF, S.below⟩
/-- A new guest. -/
def newG (p : List (Int × Int)) : gT := { prog := p, a := 0, pc := 0, wr := Slots.nosL 4, lv := Slots.nosL 4, t := (0, 0, false), pd := 0, x := (0, 0, false, 0), hl := false, seen := [] }
set_option maxRecDepth 100000 in
set_option maxHeartbeats 4000000 in
theorem specx_new (p : List (Int × Int)) (A : Option Addr) (c : Nat) (w : World) (hp : p.length ≤ 1048576) (h : rdLst (rPair rInt rInt) w 0 w.heap.size p [.slice A p.length c]) : Calls Tryz.prog 14 #[.slice A p.length c] w (Gives rG w (newG p)) := by
  refine Sx.enter (args := [.slice A p.length c]) Tryz.func14 rfl Tryz.ntmps14 rfl ?_
  refine Sx.C.seq ?_
  refine Sx.C.region ?_
  refine Sx.G.alloc 33 (.agg #[.slice none 0 0, .int .i64 0, .int .i64 0, .slice none 0 0, .slice none 0 0, .int .i64 0, .int .i64 0, .bool false, .int .i64 0, .int .i64 0, .int .i64 0, .bool false, .int .i64 0, .bool false, .slice none 0 0]) [.slice none 0 0, .int .i64 0, .int .i64 0, .slice none 0 0, .slice none 0 0, .int .i64 0, .int .i64 0, .bool false, .int .i64 0, .int .i64 0, .int .i64 0, .bool false, .int .i64 0, .bool false, .slice none 0 0] rfl (by kernel_rfl) (fun w => by kernel_rfl) (by kernel_rfl) (fun b1 => ?_)
  refine Sx.G.nil ?_
  refine Sx.E.next ?_
  refine Sx.C.seq ?_
  refine Sx.C.region ?_
  refine Sx.G.fresh 54 (rPair rInt rInt) (by kernel_rfl) (fun w => by kernel_rfl) (fun b2 hi2 => ?_)
  refine Sx.G.pure (.slice A p.length c) (by kernel_rfl) (fun w => by kernel_rfl) ?_
  refine Sx.G.apps 0 rfl p (fun w S => St.old (r := rLsw (rPair rInt rInt)) S h) (List.nil_append _) p.length (by simp) flat_P2 (.tmp 3) (.tmp 4) 24 2 16 rfl rfl (by kernel_rfl) (by kernel_rfl) rfl (by kernel_rfl) (by kernel_rfl) (by simp only [maxLen, List.length_nil, List.length_cons]; omega) (by simp only [List.length_nil, List.length_cons]; omega) (fun A3 c3 F3 hi3 hm3 => ?_)
  refine Sx.G.call 44 #[.int .i64 4] (by kernel_rfl) (fun w => by kernel_rfl) (fun w4 S => (Slots.spec_new 4 _).mono fun e w4' hp => ?_)
  obtain ⟨ad4, tc4, rfl, hc4, ho, hb⟩ := hp
  rw [← pcells_s] at ho
  refine ⟨_, _, rfl, (S.gotp (l := (Slots.nosL 4)) hb hc4 ho), ?_⟩
  clear S ho hb
  refine Sx.G.call 44 #[.int .i64 4] (by kernel_rfl) (fun w => by kernel_rfl) (fun w5 S => (Slots.spec_new 4 _).mono fun e w5' hp => ?_)
  obtain ⟨ad5, tc5, rfl, hc5, ho, hb⟩ := hp
  rw [← pcells_s] at ho
  refine ⟨_, _, rfl, (S.gotp (l := (Slots.nosL 4)) hb hc5 ho), ?_⟩
  clear S ho hb
  refine Sx.G.pure (.agg #[.slice A3 p.length c3, .int .i64 0, .int .i64 0, .slice (some ad4) 4 tc4, .slice (some ad5) 4 tc5, .int .i64 0, .int .i64 0, .bool false, .int .i64 0, .int .i64 0, .int .i64 0, .bool false, .int .i64 0, .bool false, .slice none 0 0]) (by kernel_rfl) (fun w => by kernel_rfl) ?_
  refine Sx.G.sto 33 (.tmp 2) (.tmp 8) b1 0 3 [.slice none 0 0, .int .i64 0, .int .i64 0, .slice none 0 0, .slice none 0 0, .int .i64 0, .int .i64 0, .bool false, .int .i64 0, .int .i64 0, .int .i64 0, .bool false, .int .i64 0, .bool false, .slice none 0 0] [.slice A3 p.length c3, .int .i64 0, .int .i64 0, .slice (some ad4) 4 tc4, .slice (some ad5) 4 tc5, .int .i64 0, .int .i64 0, .bool false, .int .i64 0, .int .i64 0, .int .i64 0, .bool false, .int .i64 0, .bool false, .slice none 0 0] [.slice A3 p.length c3, .int .i64 0, .int .i64 0, .slice (some ad4) 4 tc4, .slice (some ad5) 4 tc5, .int .i64 0, .int .i64 0, .bool false, .int .i64 0, .int .i64 0, .int .i64 0, .bool false, .int .i64 0, .bool false, .slice none 0 0] [ow (rLsw (rPair rInt rInt)) w5.heap.size w5'.heap.size (Slots.nosL 4) [.slice (some ad5) 4 tc5] (blks (some ad5) (pcells (Slots.nosL 4))), ow (rLsw (rPair rInt rInt)) w4.heap.size w4'.heap.size (Slots.nosL 4) [.slice (some ad4) 4 tc4] (blks (some ad4) (pcells (Slots.nosL 4))), ow (rLst 54 (rPair rInt rInt)) w.heap.size hi3 p [.slice A3 p.length c3] F3, vr b1 [.slice A3 p.length c3, .int .i64 0, .int .i64 0, .slice (some ad4) 4 tc4, .slice (some ad5) 4 tc5, .int .i64 0, .int .i64 0, .bool false, .int .i64 0, .int .i64 0, .int .i64 0, .bool false, .int .i64 0, .bool false, .slice none 0 0]] rfl (by kernel_rfl) (by kernel_rfl) (by kernel_rfl) rfl (by kernel_rfl) rfl (by kernel_rfl) (by kernel_rfl) (by kernel_rfl) ?_
  refine Sx.G.nil ?_
  refine Sx.E.next ?_
  refine Sx.C.ret ?_
  refine Sx.E.retc b1 3 [.slice A3 p.length c3, .int .i64 0, .int .i64 0, .slice (some ad4) 4 tc4, .slice (some ad5) 4 tc5, .int .i64 0, .int .i64 0, .bool false, .int .i64 0, .int .i64 0, .int .i64 0, .bool false, .int .i64 0, .bool false, .slice none 0 0] rfl (by kernel_rfl) rfl (by kernel_rfl) (by kernel_rfl) (fun w S => ?_)
  replace S := St.nil S 3 rInt
  obtain ⟨ho, hF⟩ := rG_shut (g := newG p) S 3 rfl 2 rfl 1 rfl 0 rfl (by decide) (by decide) (by decide) (by decide) (by decide) (by decide)
  exact ⟨_, _, rfl, ho, hF, S.below⟩
end Go.Proofs.YteopkcndkcciaaaGreat.Guests
namespace Go.Proofs.YteopkcndkcciaaaGreat.Addrs
set_option maxRecDepth 100000
open Go.ChangeShapes Go.WideShapes Go.ChangeAt Go.RowKit
open Go.Proofs.YteopkcndkcciaaaGreat.Base
set_option linter.unusedVariables false
theorem range {x : Int} (h : (Lit.int .i64 x).wf = true) : -9223372036854775808 ≤ x ∧ x ≤ 9223372036854775807 := by
  have hm : IntKind.i64.min = -9223372036854775808 := by decide
  rw [← hm]; simpa [Lit.wf] using h
end Go.Proofs.YteopkcndkcciaaaGreat.Addrs
namespace Go.Proofs.YteopkcndkcciaaaGreat.Inss
set_option maxRecDepth 100000
open Go.ChangeShapes Go.WideShapes Go.ChangeAt Go.RowKit
open Go.Proofs.YteopkcndkcciaaaGreat.Base Go.Proofs.YteopkcndkcciaaaGreat.Mem Go.Proofs.YteopkcndkcciaaaGreat.Data Go.Proofs.YteopkcndkcciaaaGreat.Addrs Go.Proofs.YteopkcndkcciaaaGreat.Rights
set_option linter.unusedVariables false
set_option linter.unusedSimpArgs false
def insOk (s : JT) : Bool :=
  if s.1 = 1 ∨ s.1 = 2 ∨ s.1 = 5 ∨ s.1 = 6 then inB s.2 0 99
  else if s.1 = 3 ∨ s.1 = 4 then inB s.2 0 15
  else if s.1 = 7 then s.2 == 0
  else if s.1 = 8 then inB s.2 0 11
  else false
def progOk (l : List JT) : Bool := l.all insOk && inB l.length 1 12
theorem op_cases (o : Int) : o = 1 ∨ o = 2 ∨ o = 5 ∨ o = 6 ∨ o = 3 ∨ o = 4 ∨ o = 7 ∨ o = 8 ∨ ((o == 1) = false ∧ (o == 2) = false ∧ (o == 3) = false ∧ (o == 4) = false ∧ (o == 5) = false ∧ (o == 6) = false ∧ (o == 7) = false ∧ (o == 8) = false) := by
  simp only [beq_eq_false_iff_ne, ne_eq]
  omega
theorem insOk_else {o x : Int} (h : (o == 1) = false ∧ (o == 2) = false ∧ (o == 3) = false ∧ (o == 4) = false ∧ (o == 5) = false ∧ (o == 6) = false ∧ (o == 7) = false ∧ (o == 8) = false) : insOk (o, x) = false := by
  simp only [beq_eq_false_iff_ne, ne_eq] at h
  simp [insOk, h]
set_option maxHeartbeats 4000000 in
theorem spec_insOk (o x : Int) (w : World) :
    Calls Tryz.prog 62 #[.agg #[.int .i64 o, .int .i64 x]] w fun e w' => e = .returned (.bool (insOk (o, x))) ∧ Below w.heap.size w w' := by
  have K1 := Lib.hid (fun V : World => spec_in x 0 99 V)
  have K2 := Lib.hid (fun V : World => spec_in x 0 15 V)
  have K3 := Lib.hid (fun V : World => spec_in x 0 11 V)
  have HB := Lib.hid ((Below.refl w.heap.size w).alloc (Nat.le_refl _) (.cells #[.int .i64 o, .int .i64 x] 54))
  rcases op_cases o with rfl | rfl | rfl | rfl | rfl | rfl | rfl | rfl | h
  iterate 4
    · first | rw [show insOk (1, x) = inB x 0 99 from rfl] | rw [show insOk (2, x) = inB x 0 99 from rfl] | rw [show insOk (5, x) = inB x 0 99 from rfl] | rw [show insOk (6, x) = inB x 0 99 from rfl]
      go_enter Tryz.func62, Tryz.ntmps62
      go_wp2_with fail
      refine (K1.out _).mono ?_
      rintro e w' ⟨rfl, rfl⟩
      go_wp2_with fail
      go_ret
      exact ⟨rfl, HB.out⟩
  iterate 2
    · first | rw [show insOk (3, x) = inB x 0 15 from rfl] | rw [show insOk (4, x) = inB x 0 15 from rfl]
      go_enter Tryz.func62, Tryz.ntmps62
      go_wp2_with fail
      refine (K2.out _).mono ?_
      rintro e w' ⟨rfl, rfl⟩
      go_wp2_with fail
      go_ret
      exact ⟨rfl, HB.out⟩
  · have HV := Lib.hid (show insOk (7, x) = (x == 0) from rfl)
    go_enter Tryz.func62, Tryz.ntmps62
    go_wp2_with fail
    go_ret
    exact ⟨by rw [HV.out]; rfl, HB.out⟩
  · have HV := Lib.hid (show insOk (8, x) = inB x 0 11 from rfl)
    go_enter Tryz.func62, Tryz.ntmps62
    go_wp2_with fail
    refine (K3.out _).mono ?_
    rintro e w' ⟨rfl, rfl⟩
    go_wp2_with fail
    go_ret
    exact ⟨by rw [HV.out]; rfl, HB.out⟩
  · have HV := Lib.hid (insOk_else (x := x) h)
    obtain ⟨h1, h2, h3, h4, h5, h6, h7, h8⟩ := h
    go_enter Tryz.func62, Tryz.ntmps62
    go_wp2_with fail
    go_ret
    exact ⟨by rw [HV.out]; rfl, HB.out⟩
theorem progOk_yes {l : List JT} (h : ∀ (j : Nat) (hj : j < l.length), insOk l[j] = true) : progOk l = inB l.length 1 12 := by
  unfold progOk
  rw [show l.all insOk = true from List.all_eq_true.2 (fun s hs => by obtain ⟨j, hj, rfl⟩ := List.getElem_of_mem hs; exact h j hj), Bool.true_and]
theorem progOk_no {l : List JT} {k : Nat} (hk : k < l.length) (h : insOk l[k] = false) : progOk l = false := by
  unfold progOk
  rw [show l.all insOk = false from List.all_eq_false.2 ⟨l[k], List.getElem_mem hk, by simp [h]⟩, Bool.false_and]
set_option maxHeartbeats 2000000 in
theorem spec_progOk (A : Option Addr) (n c lo : Nat) (l : List JT) (w : World) (hn : n ≤ 1048576) (hl : l.length = n) (h1 : Lies w lo w.heap.size A (jcells l)) :
    Calls Tryz.prog 27 #[.slice A n c] w fun e w' => e = .returned (.bool (progOk l)) ∧ Below w.heap.size w w' := by
  have H1 := Lib.hid h1
  have HL := Lib.hid hl
  clear h1 hl
  go_enter Tryz.func27, Tryz.ntmps27
  go_wp2
  go_loopw [3] (fun i wr => ∃ (k : Nat), k ≤ n ∧ i = .int .i64 k ∧ (∀ (j : Nat) (hj : j < l.length), j < k → insOk l[j] = true) ∧ Below w.heap.size w wr) (fun i _ => n - (intOf i).toNat)
  case atStart => exact ⟨0, Nat.zero_le _, rfl, fun j hj h => absurd h (Nat.not_lt_zero _), Below.refl _ _⟩
  case round =>
    obtain ⟨k, hk, rfl, hall, hb⟩ := hrel
    have HA := Lib.hid hall
    have HB := Lib.hid hb
    clear hall
    by_cases hlt : k < n
    · have hkl : k < l.length := by have := HL.out; omega
      obtain ⟨b, off, rfl, _, hbw, c0, c1⟩ := j_at H1.out k hkl
      have d0 := (hb.cell (p := ⟨b, off + k * 2, none⟩) hbw).trans c0
      have d1 := (hb.cell (p := ⟨b, off + k * 2 + 1, none⟩) hbw).trans c1
      have hj0 : (0 : Int) ≤ (k : Int) := Int.natCast_nonneg _
      have hj1 : (k : Int) < (n : Int) := by omega
      have hcall := spec_insOk l[k].1 l[k].2 wr
      obtain ⟨v, hv⟩ : ∃ v, insOk l[k] = v := ⟨_, rfl⟩
      rw [show insOk (l[k].1, l[k].2) = v from hv] at hcall
      have HCALL := Lib.hid hcall
      have HV := Lib.hid hv
      clear hcall hv c0 c1 hb
      generalize l[k].1 = o at d0 HCALL
      generalize l[k].2 = x at d1 HCALL
      cases v
      · go_wp2_with fail
        refine HCALL.out.mono ?_
        rintro e w1 ⟨rfl, hb1⟩
        have HB1 := Lib.hid (btr HB.out hb1)
        clear hb1
        go_wp2_with fail
        go_ret
        exact ⟨by rw [progOk_no hkl HV.out]; rfl, HB1.out⟩
      · go_wp2_with fail
        refine HCALL.out.mono ?_
        rintro e w1 ⟨rfl, hb1⟩
        have HB1 := Lib.hid (btr HB.out hb1)
        clear hb1
        go_wp2_with fail
        go_roundw
        case rel =>
          refine ⟨k + 1, by omega, by go_num, fun j hj h => ?_, HB1.out⟩
          rcases Nat.lt_succ_iff_lt_or_eq.1 h with h2 | rfl
          · exact HA.out j hj h2
          · exact HV.out
        case measure => simp [intOf]; omega
    · obtain rfl : k = n := by omega
      have hv := progOk_yes (l := l) (fun j hj => HA.out j hj (by have := HL.out; omega))
      rw [HL.out] at hv
      have HV := Lib.hid hv
      have hcall := fun V : World => spec_in (k : Int) 1 12 V
      have HCALL := Lib.hid hcall
      clear hv hb hcall
      go_wp2_with fail
      refine (HCALL.out _).mono ?_
      rintro e w' ⟨rfl, rfl⟩
      go_wp2_with fail
      go_ret
      exact ⟨by rw [HV.out]; rfl, HB.out⟩
end Go.Proofs.YteopkcndkcciaaaGreat.Inss
namespace Go.Proofs.YteopkcndkcciaaaGreat.Slots
set_option maxRecDepth 100000
open Go.ChangeShapes Go.WideShapes Go.ChangeAt Go.RowKit
open Go.Proofs.YteopkcndkcciaaaGreat.Base Go.Proofs.YteopkcndkcciaaaGreat.Mem Go.Proofs.YteopkcndkcciaaaGreat.Ints
theorem okS_cases2 (p r pages : Int) (hp : (Lit.int .i64 pages).wf = true) : (p = -1 ∧ r = 0 ∧ okS p r pages = true) ∨ (p = -1 ∧ r ≠ 0 ∧ inB p 0 (IntKind.i64.wrap (pages - 1)) = false ∧ okS p r pages = false) ∨
    (p ≠ -1 ∧ inB p 0 (IntKind.i64.wrap (pages - 1)) = false ∧ okS p r pages = false) ∨ (p ≠ -1 ∧ inB p 0 (IntKind.i64.wrap (pages - 1)) = true ∧ ¬ 0 < pages ∧ okS p r pages = false) ∨
    (p ≠ -1 ∧ inB p 0 (IntKind.i64.wrap (pages - 1)) = true ∧ 0 < pages ∧ inB r 1 3 = false ∧ okS p r pages = false) ∨ (p ≠ -1 ∧ inB p 0 (IntKind.i64.wrap (pages - 1)) = true ∧ 0 < pages ∧ inB r 1 3 = true ∧ okS p r pages = true) := by
  simp [Lit.wf] at hp
  have hp' : -9223372036854775808 ≤ pages ∧ pages ≤ 9223372036854775807 := hp
  rw [IntKind.wrap_i64]
  simp only [okS, decide_eq_true_eq, decide_eq_false_iff_not, inB_iff, inB_false]
  omega
set_option maxHeartbeats 4000000 in
theorem spec_okS (p r pages : Int) (w : World) (hp : (Lit.int .i64 pages).wf = true) :
    Calls Tryz.prog 88 #[.agg #[.int .i64 p, .int .i64 r], .int .i64 pages] w (OkPost w (okS p r pages)) := by
  obtain ⟨k0, k1, hW, hsz⟩ := boxed w (.int .i64 p) (.int .i64 r) 86
  have q1 := fun V : World => spec_in p 0 (IntKind.i64.wrap (pages - 1)) V
  have q2 := fun V : World => spec_in r 1 3 V
  rcases okS_cases2 p r pages hp with ⟨rfl, rfl, h⟩ | ⟨rfl, h0, h1, h⟩ | ⟨h0, h1, h⟩ | ⟨h0, h1, h2, h⟩ | ⟨h0, h1, h2, h3, h⟩ | ⟨h0, h1, h2, h3, h⟩
  · have HH := Lib.hid h
    clear h q1 q2 hp
    go_enter Tryz.func88, Tryz.ntmps88
    go_wp2_with fail
    generalize w.alloc (.cells #[.int .i64 (-1), .int .i64 0] 86) = W at k0 k1 hW hsz ⊢
    refine Ord.wp_region_ord (fun w' => w'.cell? ⟨w.heap.size, 0, none⟩ = some (.int .i64 (-1)) ∧ w'.cell? ⟨w.heap.size, 1, none⟩ = some (.int .i64 0)) [(0, true), (1, false), (2, true), (3, true), (4, true), (5, true), (6, true), (7, true), (8, false), (9, true), (10, true), (11, true), (12, true), (13, true), (14, true), (15, true), (16, false), (17, true), (18, true), (19, true)] (by kernel_rfl) (by kernel_rfl) rfl (by kernel_rfl) ⟨k0, k1⟩ ?_
    simp only [Ord.ordOps, List.getElem?_toArray, List.getElem?_cons_zero, List.getElem?_cons_succ]
    repeat (first
      | (refine Ord.ord_plain (v := ?_) rfl (fun w' hS => ?_) ?_; rotate_left; (focus ((try dsimp only at hS); go_simp; first | done | with_reducible rfl)); simp only [Act.put, List.setIfInBounds_toArray, List.set_cons_zero, List.set_cons_succ])
      | (refine Ord.ord_skip (by rfl) ?_; simp only [Act.put, List.setIfInBounds_toArray, List.set_cons_zero, List.set_cons_succ])
      | (refine Ord.ord_take (v := ?_) (by rfl) (fun w' hS => ?_) ?_; rotate_left; (focus ((try dsimp only at hS); go_simp; first | done | with_reducible rfl)); simp only [Act.put, List.setIfInBounds_toArray, List.set_cons_zero, List.set_cons_succ]))
    refine Ord.ord_call (fun K hK => ?_)
    go_simp
    go_wp2_with (go_at_call 80; refine (spec_no _).mono ?_; rintro e w1 ⟨rfl, hb1⟩)
    refine hK.out _ _ (⟨(hb1.cell (p := ⟨w.heap.size, 0, none⟩) hsz).trans k0, (hb1.cell (p := ⟨w.heap.size, 1, none⟩) hsz).trans k1⟩) ?_
    clear hK K
    repeat (first
      | (refine Ord.ord_plain (v := ?_) rfl (fun w' hS => ?_) ?_; rotate_left; (focus ((try dsimp only at hS); go_simp; first | done | with_reducible rfl)); simp only [Act.put, List.setIfInBounds_toArray, List.set_cons_zero, List.set_cons_succ])
      | (refine Ord.ord_skip (by rfl) ?_; simp only [Act.put, List.setIfInBounds_toArray, List.set_cons_zero, List.set_cons_succ])
      | (refine Ord.ord_take (v := ?_) (by rfl) (fun w' hS => ?_) ?_; rotate_left; (focus ((try dsimp only at hS); go_simp; first | done | with_reducible rfl)); simp only [Act.put, List.setIfInBounds_toArray, List.set_cons_zero, List.set_cons_succ]))
    refine Ord.ord_call (fun K hK => ?_)
    go_simp
    refine hK.out _ _ (⟨(hb1.cell (p := ⟨w.heap.size, 0, none⟩) hsz).trans k0, (hb1.cell (p := ⟨w.heap.size, 1, none⟩) hsz).trans k1⟩) ?_
    clear hK K
    repeat (first
      | (refine Ord.ord_plain (v := ?_) rfl (fun w' hS => ?_) ?_; rotate_left; (focus ((try dsimp only at hS); go_simp; first | done | with_reducible rfl)); simp only [Act.put, List.setIfInBounds_toArray, List.set_cons_zero, List.set_cons_succ])
      | (refine Ord.ord_skip (by rfl) ?_; simp only [Act.put, List.setIfInBounds_toArray, List.set_cons_zero, List.set_cons_succ])
      | (refine Ord.ord_take (v := ?_) (by rfl) (fun w' hS => ?_) ?_; rotate_left; (focus ((try dsimp only at hS); go_simp; first | done | with_reducible rfl)); simp only [Act.put, List.setIfInBounds_toArray, List.set_cons_zero, List.set_cons_succ]))
    refine Ord.ord_call (fun K hK => ?_)
    go_simp
    refine hK.out _ _ (⟨(hb1.cell (p := ⟨w.heap.size, 0, none⟩) hsz).trans k0, (hb1.cell (p := ⟨w.heap.size, 1, none⟩) hsz).trans k1⟩) ?_
    clear hK K
    repeat (first
      | (refine Ord.ord_plain (v := ?_) rfl (fun w' hS => ?_) ?_; rotate_left; (focus ((try dsimp only at hS); go_simp; first | done | with_reducible rfl)); simp only [Act.put, List.setIfInBounds_toArray, List.set_cons_zero, List.set_cons_succ])
      | (refine Ord.ord_skip (by rfl) ?_; simp only [Act.put, List.setIfInBounds_toArray, List.set_cons_zero, List.set_cons_succ])
      | (refine Ord.ord_take (v := ?_) (by rfl) (fun w' hS => ?_) ?_; rotate_left; (focus ((try dsimp only at hS); go_simp; first | done | with_reducible rfl)); simp only [Act.put, List.setIfInBounds_toArray, List.set_cons_zero, List.set_cons_succ]))
    refine Ord.ord_nil ?_
    have hbw : Below w.heap.size w w1 := hW.drew.trans (hb1.mono hW.size)
    clear hb1 k0 k1
    go_wp2_with fail
    go_ret
    exact ⟨by rw [HH.out]; rfl, hbw⟩
  · have HH := Lib.hid h
    have h0' : (r == 0) = false := by simpa using h0
    rw [h1] at q1
    have K1 := Lib.hid q1
    clear h q1 q2 hp h0 h1
    go_enter Tryz.func88, Tryz.ntmps88
    go_wp2_with fail
    generalize w.alloc (.cells #[.int .i64 (-1), .int .i64 r] 86) = W at k0 k1 hW hsz ⊢
    refine Ord.wp_region_ord (fun w' => w'.cell? ⟨w.heap.size, 0, none⟩ = some (.int .i64 (-1)) ∧ w'.cell? ⟨w.heap.size, 1, none⟩ = some (.int .i64 r)) [(0, true), (1, false), (2, true), (3, true), (4, true), (5, true), (6, true), (7, true), (8, false), (9, true), (10, true), (11, true), (12, true), (13, true), (14, true), (15, true), (16, false), (17, true), (18, true), (19, true)] (by kernel_rfl) (by kernel_rfl) rfl (by kernel_rfl) ⟨k0, k1⟩ ?_
    simp only [Ord.ordOps, List.getElem?_toArray, List.getElem?_cons_zero, List.getElem?_cons_succ]
    repeat (first
      | (refine Ord.ord_plain (v := ?_) rfl (fun w' hS => ?_) ?_; rotate_left; (focus ((try dsimp only at hS); go_simp; first | done | with_reducible rfl)); simp only [Act.put, List.setIfInBounds_toArray, List.set_cons_zero, List.set_cons_succ])
      | (refine Ord.ord_skip (by rfl) ?_; simp only [Act.put, List.setIfInBounds_toArray, List.set_cons_zero, List.set_cons_succ])
      | (refine Ord.ord_take (v := ?_) (by rfl) (fun w' hS => ?_) ?_; rotate_left; (focus ((try dsimp only at hS); go_simp; first | done | with_reducible rfl)); simp only [Act.put, List.setIfInBounds_toArray, List.set_cons_zero, List.set_cons_succ]))
    refine Ord.ord_call (fun K hK => ?_)
    go_simp
    go_wp2_with (go_at_call 80; refine (spec_no _).mono ?_; rintro e w1 ⟨rfl, hb1⟩)
    refine hK.out _ _ (⟨(hb1.cell (p := ⟨w.heap.size, 0, none⟩) hsz).trans k0, (hb1.cell (p := ⟨w.heap.size, 1, none⟩) hsz).trans k1⟩) ?_
    clear hK K
    repeat (first
      | (refine Ord.ord_plain (v := ?_) rfl (fun w' hS => ?_) ?_; rotate_left; (focus ((try dsimp only at hS); go_simp; first | done | with_reducible rfl)); simp only [Act.put, List.setIfInBounds_toArray, List.set_cons_zero, List.set_cons_succ])
      | (refine Ord.ord_skip (by rfl) ?_; simp only [Act.put, List.setIfInBounds_toArray, List.set_cons_zero, List.set_cons_succ])
      | (refine Ord.ord_take (v := ?_) (by rfl) (fun w' hS => ?_) ?_; rotate_left; (focus ((try dsimp only at hS); go_simp; first | done | with_reducible rfl)); simp only [Act.put, List.setIfInBounds_toArray, List.set_cons_zero, List.set_cons_succ]))
    refine Ord.ord_call (fun K hK => ?_)
    go_simp
    go_wp2_with (go_at_call 54; refine (K1.out _).mono ?_; rintro e w' ⟨rfl, rfl⟩)
    refine hK.out _ _ (⟨(hb1.cell (p := ⟨w.heap.size, 0, none⟩) hsz).trans k0, (hb1.cell (p := ⟨w.heap.size, 1, none⟩) hsz).trans k1⟩) ?_
    clear hK K
    repeat (first
      | (refine Ord.ord_plain (v := ?_) rfl (fun w' hS => ?_) ?_; rotate_left; (focus ((try dsimp only at hS); go_simp; first | done | with_reducible rfl)); simp only [Act.put, List.setIfInBounds_toArray, List.set_cons_zero, List.set_cons_succ])
      | (refine Ord.ord_skip (by rfl) ?_; simp only [Act.put, List.setIfInBounds_toArray, List.set_cons_zero, List.set_cons_succ])
      | (refine Ord.ord_take (v := ?_) (by rfl) (fun w' hS => ?_) ?_; rotate_left; (focus ((try dsimp only at hS); go_simp; first | done | with_reducible rfl)); simp only [Act.put, List.setIfInBounds_toArray, List.set_cons_zero, List.set_cons_succ]))
    refine Ord.ord_call (fun K hK => ?_)
    go_simp
    refine hK.out _ _ (⟨(hb1.cell (p := ⟨w.heap.size, 0, none⟩) hsz).trans k0, (hb1.cell (p := ⟨w.heap.size, 1, none⟩) hsz).trans k1⟩) ?_
    clear hK K
    repeat (first
      | (refine Ord.ord_plain (v := ?_) rfl (fun w' hS => ?_) ?_; rotate_left; (focus ((try dsimp only at hS); go_simp; first | done | with_reducible rfl)); simp only [Act.put, List.setIfInBounds_toArray, List.set_cons_zero, List.set_cons_succ])
      | (refine Ord.ord_skip (by rfl) ?_; simp only [Act.put, List.setIfInBounds_toArray, List.set_cons_zero, List.set_cons_succ])
      | (refine Ord.ord_take (v := ?_) (by rfl) (fun w' hS => ?_) ?_; rotate_left; (focus ((try dsimp only at hS); go_simp; first | done | with_reducible rfl)); simp only [Act.put, List.setIfInBounds_toArray, List.set_cons_zero, List.set_cons_succ]))
    refine Ord.ord_nil ?_
    have hbw : Below w.heap.size w w1 := hW.drew.trans (hb1.mono hW.size)
    clear hb1 k0 k1
    go_wp2_with fail
    go_ret
    exact ⟨by rw [HH.out]; rfl, hbw⟩
  · have HH := Lib.hid h
    have h0' : (p == -1) = false := by simpa using h0
    rw [h1] at q1
    have K1 := Lib.hid q1
    clear h q1 q2 hp h0 h1
    go_enter Tryz.func88, Tryz.ntmps88
    go_wp2_with fail
    generalize w.alloc (.cells #[.int .i64 p, .int .i64 r] 86) = W at k0 k1 hW hsz ⊢
    refine Ord.wp_region_ord (fun w' => w'.cell? ⟨w.heap.size, 0, none⟩ = some (.int .i64 p) ∧ w'.cell? ⟨w.heap.size, 1, none⟩ = some (.int .i64 r)) [(0, true), (1, false), (2, true), (3, true), (4, true), (5, true), (6, true), (7, true), (8, false), (9, true), (10, true), (11, true), (12, true), (13, true), (14, true), (15, true), (16, false), (17, true), (18, true), (19, true)] (by kernel_rfl) (by kernel_rfl) rfl (by kernel_rfl) ⟨k0, k1⟩ ?_
    simp only [Ord.ordOps, List.getElem?_toArray, List.getElem?_cons_zero, List.getElem?_cons_succ]
    repeat (first
      | (refine Ord.ord_plain (v := ?_) rfl (fun w' hS => ?_) ?_; rotate_left; (focus ((try dsimp only at hS); go_simp; first | done | with_reducible rfl)); simp only [Act.put, List.setIfInBounds_toArray, List.set_cons_zero, List.set_cons_succ])
      | (refine Ord.ord_skip (by rfl) ?_; simp only [Act.put, List.setIfInBounds_toArray, List.set_cons_zero, List.set_cons_succ])
      | (refine Ord.ord_take (v := ?_) (by rfl) (fun w' hS => ?_) ?_; rotate_left; (focus ((try dsimp only at hS); go_simp; first | done | with_reducible rfl)); simp only [Act.put, List.setIfInBounds_toArray, List.set_cons_zero, List.set_cons_succ]))
    refine Ord.ord_call (fun K hK => ?_)
    go_simp
    go_wp2_with (go_at_call 80; refine (spec_no _).mono ?_; rintro e w1 ⟨rfl, hb1⟩)
    refine hK.out _ _ (⟨(hb1.cell (p := ⟨w.heap.size, 0, none⟩) hsz).trans k0, (hb1.cell (p := ⟨w.heap.size, 1, none⟩) hsz).trans k1⟩) ?_
    clear hK K
    repeat (first
      | (refine Ord.ord_plain (v := ?_) rfl (fun w' hS => ?_) ?_; rotate_left; (focus ((try dsimp only at hS); go_simp; first | done | with_reducible rfl)); simp only [Act.put, List.setIfInBounds_toArray, List.set_cons_zero, List.set_cons_succ])
      | (refine Ord.ord_skip (by rfl) ?_; simp only [Act.put, List.setIfInBounds_toArray, List.set_cons_zero, List.set_cons_succ])
      | (refine Ord.ord_take (v := ?_) (by rfl) (fun w' hS => ?_) ?_; rotate_left; (focus ((try dsimp only at hS); go_simp; first | done | with_reducible rfl)); simp only [Act.put, List.setIfInBounds_toArray, List.set_cons_zero, List.set_cons_succ]))
    refine Ord.ord_call (fun K hK => ?_)
    go_simp
    go_wp2_with (go_at_call 54; refine (K1.out _).mono ?_; rintro e w' ⟨rfl, rfl⟩)
    refine hK.out _ _ (⟨(hb1.cell (p := ⟨w.heap.size, 0, none⟩) hsz).trans k0, (hb1.cell (p := ⟨w.heap.size, 1, none⟩) hsz).trans k1⟩) ?_
    clear hK K
    repeat (first
      | (refine Ord.ord_plain (v := ?_) rfl (fun w' hS => ?_) ?_; rotate_left; (focus ((try dsimp only at hS); go_simp; first | done | with_reducible rfl)); simp only [Act.put, List.setIfInBounds_toArray, List.set_cons_zero, List.set_cons_succ])
      | (refine Ord.ord_skip (by rfl) ?_; simp only [Act.put, List.setIfInBounds_toArray, List.set_cons_zero, List.set_cons_succ])
      | (refine Ord.ord_take (v := ?_) (by rfl) (fun w' hS => ?_) ?_; rotate_left; (focus ((try dsimp only at hS); go_simp; first | done | with_reducible rfl)); simp only [Act.put, List.setIfInBounds_toArray, List.set_cons_zero, List.set_cons_succ]))
    refine Ord.ord_call (fun K hK => ?_)
    go_simp
    refine hK.out _ _ (⟨(hb1.cell (p := ⟨w.heap.size, 0, none⟩) hsz).trans k0, (hb1.cell (p := ⟨w.heap.size, 1, none⟩) hsz).trans k1⟩) ?_
    clear hK K
    repeat (first
      | (refine Ord.ord_plain (v := ?_) rfl (fun w' hS => ?_) ?_; rotate_left; (focus ((try dsimp only at hS); go_simp; first | done | with_reducible rfl)); simp only [Act.put, List.setIfInBounds_toArray, List.set_cons_zero, List.set_cons_succ])
      | (refine Ord.ord_skip (by rfl) ?_; simp only [Act.put, List.setIfInBounds_toArray, List.set_cons_zero, List.set_cons_succ])
      | (refine Ord.ord_take (v := ?_) (by rfl) (fun w' hS => ?_) ?_; rotate_left; (focus ((try dsimp only at hS); go_simp; first | done | with_reducible rfl)); simp only [Act.put, List.setIfInBounds_toArray, List.set_cons_zero, List.set_cons_succ]))
    refine Ord.ord_nil ?_
    have hbw : Below w.heap.size w w1 := hW.drew.trans (hb1.mono hW.size)
    clear hb1 k0 k1
    go_wp2_with fail
    go_ret
    exact ⟨by rw [HH.out]; rfl, hbw⟩
  · have HH := Lib.hid h
    have h2' : decide (0 < pages) = false := by simpa using h2
    have h0' : (p == -1) = false := by simpa using h0
    rw [h1] at q1
    have K1 := Lib.hid q1
    clear h q1 q2 hp h0 h1 h2
    go_enter Tryz.func88, Tryz.ntmps88
    go_wp2_with fail
    generalize w.alloc (.cells #[.int .i64 p, .int .i64 r] 86) = W at k0 k1 hW hsz ⊢
    refine Ord.wp_region_ord (fun w' => w'.cell? ⟨w.heap.size, 0, none⟩ = some (.int .i64 p) ∧ w'.cell? ⟨w.heap.size, 1, none⟩ = some (.int .i64 r)) [(0, true), (1, false), (2, true), (3, true), (4, true), (5, true), (6, true), (7, true), (8, false), (9, true), (10, true), (11, true), (12, true), (13, true), (14, true), (15, true), (16, false), (17, true), (18, true), (19, true)] (by kernel_rfl) (by kernel_rfl) rfl (by kernel_rfl) ⟨k0, k1⟩ ?_
    simp only [Ord.ordOps, List.getElem?_toArray, List.getElem?_cons_zero, List.getElem?_cons_succ]
    repeat (first
      | (refine Ord.ord_plain (v := ?_) rfl (fun w' hS => ?_) ?_; rotate_left; (focus ((try dsimp only at hS); go_simp; first | done | with_reducible rfl)); simp only [Act.put, List.setIfInBounds_toArray, List.set_cons_zero, List.set_cons_succ])
      | (refine Ord.ord_skip (by rfl) ?_; simp only [Act.put, List.setIfInBounds_toArray, List.set_cons_zero, List.set_cons_succ])
      | (refine Ord.ord_take (v := ?_) (by rfl) (fun w' hS => ?_) ?_; rotate_left; (focus ((try dsimp only at hS); go_simp; first | done | with_reducible rfl)); simp only [Act.put, List.setIfInBounds_toArray, List.set_cons_zero, List.set_cons_succ]))
    refine Ord.ord_call (fun K hK => ?_)
    go_simp
    go_wp2_with (go_at_call 80; refine (spec_no _).mono ?_; rintro e w1 ⟨rfl, hb1⟩)
    refine hK.out _ _ (⟨(hb1.cell (p := ⟨w.heap.size, 0, none⟩) hsz).trans k0, (hb1.cell (p := ⟨w.heap.size, 1, none⟩) hsz).trans k1⟩) ?_
    clear hK K
    repeat (first
      | (refine Ord.ord_plain (v := ?_) rfl (fun w' hS => ?_) ?_; rotate_left; (focus ((try dsimp only at hS); go_simp; first | done | with_reducible rfl)); simp only [Act.put, List.setIfInBounds_toArray, List.set_cons_zero, List.set_cons_succ])
      | (refine Ord.ord_skip (by rfl) ?_; simp only [Act.put, List.setIfInBounds_toArray, List.set_cons_zero, List.set_cons_succ])
      | (refine Ord.ord_take (v := ?_) (by rfl) (fun w' hS => ?_) ?_; rotate_left; (focus ((try dsimp only at hS); go_simp; first | done | with_reducible rfl)); simp only [Act.put, List.setIfInBounds_toArray, List.set_cons_zero, List.set_cons_succ]))
    refine Ord.ord_call (fun K hK => ?_)
    go_simp
    go_wp2_with (go_at_call 54; refine (K1.out _).mono ?_; rintro e w' ⟨rfl, rfl⟩)
    refine hK.out _ _ (⟨(hb1.cell (p := ⟨w.heap.size, 0, none⟩) hsz).trans k0, (hb1.cell (p := ⟨w.heap.size, 1, none⟩) hsz).trans k1⟩) ?_
    clear hK K
    repeat (first
      | (refine Ord.ord_plain (v := ?_) rfl (fun w' hS => ?_) ?_; rotate_left; (focus ((try dsimp only at hS); go_simp; first | done | with_reducible rfl)); simp only [Act.put, List.setIfInBounds_toArray, List.set_cons_zero, List.set_cons_succ])
      | (refine Ord.ord_skip (by rfl) ?_; simp only [Act.put, List.setIfInBounds_toArray, List.set_cons_zero, List.set_cons_succ])
      | (refine Ord.ord_take (v := ?_) (by rfl) (fun w' hS => ?_) ?_; rotate_left; (focus ((try dsimp only at hS); go_simp; first | done | with_reducible rfl)); simp only [Act.put, List.setIfInBounds_toArray, List.set_cons_zero, List.set_cons_succ]))
    refine Ord.ord_call (fun K hK => ?_)
    go_simp
    refine hK.out _ _ (⟨(hb1.cell (p := ⟨w.heap.size, 0, none⟩) hsz).trans k0, (hb1.cell (p := ⟨w.heap.size, 1, none⟩) hsz).trans k1⟩) ?_
    clear hK K
    repeat (first
      | (refine Ord.ord_plain (v := ?_) rfl (fun w' hS => ?_) ?_; rotate_left; (focus ((try dsimp only at hS); go_simp; first | done | with_reducible rfl)); simp only [Act.put, List.setIfInBounds_toArray, List.set_cons_zero, List.set_cons_succ])
      | (refine Ord.ord_skip (by rfl) ?_; simp only [Act.put, List.setIfInBounds_toArray, List.set_cons_zero, List.set_cons_succ])
      | (refine Ord.ord_take (v := ?_) (by rfl) (fun w' hS => ?_) ?_; rotate_left; (focus ((try dsimp only at hS); go_simp; first | done | with_reducible rfl)); simp only [Act.put, List.setIfInBounds_toArray, List.set_cons_zero, List.set_cons_succ]))
    refine Ord.ord_nil ?_
    have hbw : Below w.heap.size w w1 := hW.drew.trans (hb1.mono hW.size)
    clear hb1 k0 k1
    go_wp2_with fail
    go_ret
    exact ⟨by rw [HH.out]; rfl, hbw⟩
  · have HH := Lib.hid h
    have h2' : decide (0 < pages) = true := by simpa using h2
    have h0' : (p == -1) = false := by simpa using h0
    rw [h1] at q1
    have K1 := Lib.hid q1
    rw [h3] at q2
    have K2 := Lib.hid q2
    clear h q1 q2 hp h0 h1 h3 h2
    go_enter Tryz.func88, Tryz.ntmps88
    go_wp2_with fail
    generalize w.alloc (.cells #[.int .i64 p, .int .i64 r] 86) = W at k0 k1 hW hsz ⊢
    refine Ord.wp_region_ord (fun w' => w'.cell? ⟨w.heap.size, 0, none⟩ = some (.int .i64 p) ∧ w'.cell? ⟨w.heap.size, 1, none⟩ = some (.int .i64 r)) [(0, true), (1, false), (2, true), (3, true), (4, true), (5, true), (6, true), (7, true), (8, false), (9, true), (10, true), (11, true), (12, true), (13, true), (14, true), (15, true), (16, false), (17, true), (18, true), (19, true)] (by kernel_rfl) (by kernel_rfl) rfl (by kernel_rfl) ⟨k0, k1⟩ ?_
    simp only [Ord.ordOps, List.getElem?_toArray, List.getElem?_cons_zero, List.getElem?_cons_succ]
    repeat (first
      | (refine Ord.ord_plain (v := ?_) rfl (fun w' hS => ?_) ?_; rotate_left; (focus ((try dsimp only at hS); go_simp; first | done | with_reducible rfl)); simp only [Act.put, List.setIfInBounds_toArray, List.set_cons_zero, List.set_cons_succ])
      | (refine Ord.ord_skip (by rfl) ?_; simp only [Act.put, List.setIfInBounds_toArray, List.set_cons_zero, List.set_cons_succ])
      | (refine Ord.ord_take (v := ?_) (by rfl) (fun w' hS => ?_) ?_; rotate_left; (focus ((try dsimp only at hS); go_simp; first | done | with_reducible rfl)); simp only [Act.put, List.setIfInBounds_toArray, List.set_cons_zero, List.set_cons_succ]))
    refine Ord.ord_call (fun K hK => ?_)
    go_simp
    go_wp2_with (go_at_call 80; refine (spec_no _).mono ?_; rintro e w1 ⟨rfl, hb1⟩)
    refine hK.out _ _ (⟨(hb1.cell (p := ⟨w.heap.size, 0, none⟩) hsz).trans k0, (hb1.cell (p := ⟨w.heap.size, 1, none⟩) hsz).trans k1⟩) ?_
    clear hK K
    repeat (first
      | (refine Ord.ord_plain (v := ?_) rfl (fun w' hS => ?_) ?_; rotate_left; (focus ((try dsimp only at hS); go_simp; first | done | with_reducible rfl)); simp only [Act.put, List.setIfInBounds_toArray, List.set_cons_zero, List.set_cons_succ])
      | (refine Ord.ord_skip (by rfl) ?_; simp only [Act.put, List.setIfInBounds_toArray, List.set_cons_zero, List.set_cons_succ])
      | (refine Ord.ord_take (v := ?_) (by rfl) (fun w' hS => ?_) ?_; rotate_left; (focus ((try dsimp only at hS); go_simp; first | done | with_reducible rfl)); simp only [Act.put, List.setIfInBounds_toArray, List.set_cons_zero, List.set_cons_succ]))
    refine Ord.ord_call (fun K hK => ?_)
    go_simp
    go_wp2_with (go_at_call 54; refine (K1.out _).mono ?_; rintro e w' ⟨rfl, rfl⟩)
    refine hK.out _ _ (⟨(hb1.cell (p := ⟨w.heap.size, 0, none⟩) hsz).trans k0, (hb1.cell (p := ⟨w.heap.size, 1, none⟩) hsz).trans k1⟩) ?_
    clear hK K
    repeat (first
      | (refine Ord.ord_plain (v := ?_) rfl (fun w' hS => ?_) ?_; rotate_left; (focus ((try dsimp only at hS); go_simp; first | done | with_reducible rfl)); simp only [Act.put, List.setIfInBounds_toArray, List.set_cons_zero, List.set_cons_succ])
      | (refine Ord.ord_skip (by rfl) ?_; simp only [Act.put, List.setIfInBounds_toArray, List.set_cons_zero, List.set_cons_succ])
      | (refine Ord.ord_take (v := ?_) (by rfl) (fun w' hS => ?_) ?_; rotate_left; (focus ((try dsimp only at hS); go_simp; first | done | with_reducible rfl)); simp only [Act.put, List.setIfInBounds_toArray, List.set_cons_zero, List.set_cons_succ]))
    refine Ord.ord_call (fun K hK => ?_)
    go_simp
    go_wp2_with (go_at_call 54; refine (K2.out _).mono ?_; rintro e w' ⟨rfl, rfl⟩)
    refine hK.out _ _ (⟨(hb1.cell (p := ⟨w.heap.size, 0, none⟩) hsz).trans k0, (hb1.cell (p := ⟨w.heap.size, 1, none⟩) hsz).trans k1⟩) ?_
    clear hK K
    repeat (first
      | (refine Ord.ord_plain (v := ?_) rfl (fun w' hS => ?_) ?_; rotate_left; (focus ((try dsimp only at hS); go_simp; first | done | with_reducible rfl)); simp only [Act.put, List.setIfInBounds_toArray, List.set_cons_zero, List.set_cons_succ])
      | (refine Ord.ord_skip (by rfl) ?_; simp only [Act.put, List.setIfInBounds_toArray, List.set_cons_zero, List.set_cons_succ])
      | (refine Ord.ord_take (v := ?_) (by rfl) (fun w' hS => ?_) ?_; rotate_left; (focus ((try dsimp only at hS); go_simp; first | done | with_reducible rfl)); simp only [Act.put, List.setIfInBounds_toArray, List.set_cons_zero, List.set_cons_succ]))
    refine Ord.ord_nil ?_
    have hbw : Below w.heap.size w w1 := hW.drew.trans (hb1.mono hW.size)
    clear hb1 k0 k1
    go_wp2_with fail
    go_ret
    exact ⟨by rw [HH.out]; rfl, hbw⟩
  · have HH := Lib.hid h
    have h2' : decide (0 < pages) = true := by simpa using h2
    have h0' : (p == -1) = false := by simpa using h0
    rw [h1] at q1
    have K1 := Lib.hid q1
    rw [h3] at q2
    have K2 := Lib.hid q2
    clear h q1 q2 hp h0 h1 h3 h2
    go_enter Tryz.func88, Tryz.ntmps88
    go_wp2_with fail
    generalize w.alloc (.cells #[.int .i64 p, .int .i64 r] 86) = W at k0 k1 hW hsz ⊢
    refine Ord.wp_region_ord (fun w' => w'.cell? ⟨w.heap.size, 0, none⟩ = some (.int .i64 p) ∧ w'.cell? ⟨w.heap.size, 1, none⟩ = some (.int .i64 r)) [(0, true), (1, false), (2, true), (3, true), (4, true), (5, true), (6, true), (7, true), (8, false), (9, true), (10, true), (11, true), (12, true), (13, true), (14, true), (15, true), (16, false), (17, true), (18, true), (19, true)] (by kernel_rfl) (by kernel_rfl) rfl (by kernel_rfl) ⟨k0, k1⟩ ?_
    simp only [Ord.ordOps, List.getElem?_toArray, List.getElem?_cons_zero, List.getElem?_cons_succ]
    repeat (first
      | (refine Ord.ord_plain (v := ?_) rfl (fun w' hS => ?_) ?_; rotate_left; (focus ((try dsimp only at hS); go_simp; first | done | with_reducible rfl)); simp only [Act.put, List.setIfInBounds_toArray, List.set_cons_zero, List.set_cons_succ])
      | (refine Ord.ord_skip (by rfl) ?_; simp only [Act.put, List.setIfInBounds_toArray, List.set_cons_zero, List.set_cons_succ])
      | (refine Ord.ord_take (v := ?_) (by rfl) (fun w' hS => ?_) ?_; rotate_left; (focus ((try dsimp only at hS); go_simp; first | done | with_reducible rfl)); simp only [Act.put, List.setIfInBounds_toArray, List.set_cons_zero, List.set_cons_succ]))
    refine Ord.ord_call (fun K hK => ?_)
    go_simp
    go_wp2_with (go_at_call 80; refine (spec_no _).mono ?_; rintro e w1 ⟨rfl, hb1⟩)
    refine hK.out _ _ (⟨(hb1.cell (p := ⟨w.heap.size, 0, none⟩) hsz).trans k0, (hb1.cell (p := ⟨w.heap.size, 1, none⟩) hsz).trans k1⟩) ?_
    clear hK K
    repeat (first
      | (refine Ord.ord_plain (v := ?_) rfl (fun w' hS => ?_) ?_; rotate_left; (focus ((try dsimp only at hS); go_simp; first | done | with_reducible rfl)); simp only [Act.put, List.setIfInBounds_toArray, List.set_cons_zero, List.set_cons_succ])
      | (refine Ord.ord_skip (by rfl) ?_; simp only [Act.put, List.setIfInBounds_toArray, List.set_cons_zero, List.set_cons_succ])
      | (refine Ord.ord_take (v := ?_) (by rfl) (fun w' hS => ?_) ?_; rotate_left; (focus ((try dsimp only at hS); go_simp; first | done | with_reducible rfl)); simp only [Act.put, List.setIfInBounds_toArray, List.set_cons_zero, List.set_cons_succ]))
    refine Ord.ord_call (fun K hK => ?_)
    go_simp
    go_wp2_with (go_at_call 54; refine (K1.out _).mono ?_; rintro e w' ⟨rfl, rfl⟩)
    refine hK.out _ _ (⟨(hb1.cell (p := ⟨w.heap.size, 0, none⟩) hsz).trans k0, (hb1.cell (p := ⟨w.heap.size, 1, none⟩) hsz).trans k1⟩) ?_
    clear hK K
    repeat (first
      | (refine Ord.ord_plain (v := ?_) rfl (fun w' hS => ?_) ?_; rotate_left; (focus ((try dsimp only at hS); go_simp; first | done | with_reducible rfl)); simp only [Act.put, List.setIfInBounds_toArray, List.set_cons_zero, List.set_cons_succ])
      | (refine Ord.ord_skip (by rfl) ?_; simp only [Act.put, List.setIfInBounds_toArray, List.set_cons_zero, List.set_cons_succ])
      | (refine Ord.ord_take (v := ?_) (by rfl) (fun w' hS => ?_) ?_; rotate_left; (focus ((try dsimp only at hS); go_simp; first | done | with_reducible rfl)); simp only [Act.put, List.setIfInBounds_toArray, List.set_cons_zero, List.set_cons_succ]))
    refine Ord.ord_call (fun K hK => ?_)
    go_simp
    go_wp2_with (go_at_call 54; refine (K2.out _).mono ?_; rintro e w' ⟨rfl, rfl⟩)
    refine hK.out _ _ (⟨(hb1.cell (p := ⟨w.heap.size, 0, none⟩) hsz).trans k0, (hb1.cell (p := ⟨w.heap.size, 1, none⟩) hsz).trans k1⟩) ?_
    clear hK K
    repeat (first
      | (refine Ord.ord_plain (v := ?_) rfl (fun w' hS => ?_) ?_; rotate_left; (focus ((try dsimp only at hS); go_simp; first | done | with_reducible rfl)); simp only [Act.put, List.setIfInBounds_toArray, List.set_cons_zero, List.set_cons_succ])
      | (refine Ord.ord_skip (by rfl) ?_; simp only [Act.put, List.setIfInBounds_toArray, List.set_cons_zero, List.set_cons_succ])
      | (refine Ord.ord_take (v := ?_) (by rfl) (fun w' hS => ?_) ?_; rotate_left; (focus ((try dsimp only at hS); go_simp; first | done | with_reducible rfl)); simp only [Act.put, List.setIfInBounds_toArray, List.set_cons_zero, List.set_cons_succ]))
    refine Ord.ord_nil ?_
    have hbw : Below w.heap.size w w1 := hW.drew.trans (hb1.mono hW.size)
    clear hb1 k0 k1
    go_wp2_with fail
    go_ret
    exact ⟨by rw [HH.out]; rfl, hbw⟩
end Go.Proofs.YteopkcndkcciaaaGreat.Slots
namespace Go.Proofs.YteopkcndkcciaaaGreat.Slots
set_option maxRecDepth 100000
open Go.ChangeShapes Go.WideShapes Go.ChangeAt Go.RowKit
open Go.Proofs.YteopkcndkcciaaaGreat.Base Go.Proofs.YteopkcndkcciaaaGreat.Mem Go.Proofs.YteopkcndkcciaaaGreat.Ints
set_option linter.unusedVariables false
def okTab (l : List Sl) (size pages : Int) : Bool := okT l pages && decide ((l.length : Int) = size)
theorem okT_snoc (l : List Sl) (k : Nat) (h : k < l.length) (pages : Int) (ht : okT (l.take k) pages = true) : okT (l.take (k + 1)) pages = okS l[k].1 l[k].2 pages := by
  unfold okT at ht ⊢
  rw [List.take_succ_eq_append_getElem h, List.all_append, ht]
  simp
theorem okT_stop (l : List Sl) (k : Nat) (h : k < l.length) (pages : Int) (hs : okS l[k].1 l[k].2 pages = false) : okT l pages = false := by
  unfold okT
  rw [List.all_eq_false]
  exact ⟨l[k], List.getElem_mem h, by simpa using hs⟩
set_option maxHeartbeats 2000000 in
theorem impl_tabOk (A : Option Addr) (n c lo : Nat) (size pages : Int) (l : List Sl) (w : World) (hn : n ≤ 1048576) (hl : l.length = n) (hw : wfL l) (h1 : Lies w lo w.heap.size A (scells l)) :
    Calls Tryz.prog 53 #[.slice A n c, .int .i64 size, .int .i64 pages] w (OkPost w (okTab l size pages)) := by
  have H1 := Lib.hid h1
  have HL := Lib.hid hl
  have HW := Lib.hid hw
  clear h1 hl hw
  by_cases hsz : (n : Int) = size
  · subst hsz
    go_enter Tryz.func53, Tryz.ntmps53
    go_wp2
    go_loopw [8, 15] (fun _ i wr => ∃ (k : Nat), k ≤ n ∧ i = .int .i64 k ∧ okT (l.take k) pages = true ∧ Below w.heap.size w wr) (fun _ i _ => n - (intOf i).toNat)
    case atStart => exact ⟨0, Nat.zero_le _, rfl, rfl, Below.refl _ _⟩
    case round =>
      obtain ⟨k, hk, rfl, ht, hb⟩ := hrel
      have HT := Lib.hid ht
      clear ht
      by_cases hlt : k < n
      · have hkl : k < l.length := by have := HL.out; omega
        obtain ⟨b, off, rfl, _, hbw, c1, c2⟩ := slot_at H1.out k hkl
        have d1 : wr.cell? ⟨b, off + k * 2, none⟩ = some (.int .i64 l[k].1) := (hb.cell hbw).trans c1
        have d2 : wr.cell? ⟨b, off + k * 2 + 1, none⟩ = some (.int .i64 l[k].2) := (hb.cell hbw).trans c2
        have hi0 : (0 : Int) ≤ (k : Int) := Int.natCast_nonneg _
        have hi1 : (k : Int) < (n : Int) := by omega
        have hK := fun V : World => impl_okS l[k].1 l[k].2 pages V (HW.out l[k] (List.getElem_mem hkl)).2
        have hs := okT_snoc l k hkl pages HT.out
        have hf := okT_stop l k hkl pages
        have hbs := hb.size
        generalize l[k].1 = x at d1 hK hs hf
        generalize l[k].2 = y at d2 hK hs hf
        have HB := Lib.hid hb
        clear c1 c2 hb
        cases hv : okS x y pages
        · rw [hv] at hK
          have HK := Lib.hid hK
          have HF := Lib.hid (hf hv)
          clear hK hf hs hv
          go_wp2_with fail
          refine (HK.out _).mono ?_
          rintro e w1 ⟨rfl, hb1⟩
          have hbw1 : Below w.heap.size w w1 := (HB.out.alloc hbs _).trans (hb1.mono (by simp; omega))
          clear hb1
          go_wp2_with fail
          go_ret
          exact ⟨by rw [okTab, HF.out]; rfl, hbw1⟩
        · rw [hv] at hK hs
          have HK := Lib.hid hK
          have HS := Lib.hid hs
          clear hK hf hs hv
          go_wp2_with fail
          refine (HK.out _).mono ?_
          rintro e w1 ⟨rfl, hb1⟩
          have hbw1 : Below w.heap.size w w1 := (HB.out.alloc hbs _).trans (hb1.mono (by simp; omega))
          clear hb1
          go_wp2_with fail
          go_roundw
          case rel => exact ⟨k + 1, by omega, by go_num, HS.out, hbw1⟩
          case measure => simp [intOf]; omega
      · have hkn : k = n := by omega
        subst hkn
        have ht := HT.out
        rw [List.take_of_length_le (by have := HL.out; omega)] at ht
        have HT := Lib.hid ht
        clear ht
        go_wp2_with fail
        go_ret
        exact ⟨by rw [okTab, HT.out, HL.out]; simp, hb⟩
  · have hd : ((n : Int) == size) = false := by simpa using hsz
    have hd' : ((n : Int) != size) = true := by simpa using hsz
    go_enter Tryz.func53, Tryz.ntmps53
    go_wp2
    go_ret
    exact ⟨by rw [okTab, HL.out, decide_eq_false hsz, Bool.and_false]; rfl, Below.refl _ _⟩
set_option maxHeartbeats 2000000 in
theorem spec_tabOk (A : Option Addr) (n c lo : Nat) (size pages : Int) (l : List Sl) (w : World) (hn : n ≤ 1048576) (hl : l.length = n) (hp : (Lit.int .i64 pages).wf = true) (h1 : Lies w lo w.heap.size A (scells l)) :
    Calls Tryz.prog 55 #[.slice A n c, .int .i64 size, .int .i64 pages] w (OkPost w (okTab l size pages)) := by
  have H1 := Lib.hid h1
  have HL := Lib.hid hl
  have HP := Lib.hid hp
  clear h1 hl hp
  go_enter Tryz.func55, Tryz.ntmps55
  go_wp2
  go_loopw [7] (fun i wr => ∃ (k : Nat), k ≤ n ∧ i = .int .i64 k ∧ okT (l.take k) pages = true ∧ Below w.heap.size w wr) (fun i _ => n - (intOf i).toNat)
  case atStart => exact ⟨0, Nat.zero_le _, rfl, rfl, Below.refl _ _⟩
  case round =>
    obtain ⟨k, hk, rfl, ht, hb⟩ := hrel
    have HT := Lib.hid ht
    clear ht
    by_cases hlt : k < n
    · have hkl : k < l.length := by have := HL.out; omega
      obtain ⟨b, off, rfl, _, hbw, c1, c2⟩ := slot_at H1.out k hkl
      have d1 : wr.cell? ⟨b, off + k * 2, none⟩ = some (.int .i64 l[k].1) := (hb.cell hbw).trans c1
      have d2 : wr.cell? ⟨b, off + k * 2 + 1, none⟩ = some (.int .i64 l[k].2) := (hb.cell hbw).trans c2
      have hi0 : (0 : Int) ≤ (k : Int) := Int.natCast_nonneg _
      have hi1 : (k : Int) < (n : Int) := by omega
      have hK := fun V : World => spec_okS l[k].1 l[k].2 pages V HP.out
      have hs := okT_snoc l k hkl pages HT.out
      have hf := okT_stop l k hkl pages
      have hbs := hb.size
      generalize l[k].1 = x at d1 hK hs hf
      generalize l[k].2 = y at d2 hK hs hf
      have HB := Lib.hid hb
      clear c1 c2 hb
      cases hv : okS x y pages
      · rw [hv] at hK
        have HK := Lib.hid hK
        have HF := Lib.hid (hf hv)
        clear hK hf hs hv
        go_wp2_with fail
        refine (HK.out _).mono ?_
        rintro e w1 ⟨rfl, hb1⟩
        have hbw1 : Below w.heap.size w w1 := HB.out.trans (hb1.mono hbs)
        clear hb1
        go_wp2_with fail
        go_ret
        exact ⟨by rw [okTab, HF.out]; rfl, hbw1⟩
      · rw [hv] at hK hs
        have HK := Lib.hid hK
        have HS := Lib.hid hs
        clear hK hf hs hv
        go_wp2_with fail
        refine (HK.out _).mono ?_
        rintro e w1 ⟨rfl, hb1⟩
        have hbw1 : Below w.heap.size w w1 := HB.out.trans (hb1.mono hbs)
        clear hb1
        go_wp2_with fail
        go_roundw
        case rel => exact ⟨k + 1, by omega, by go_num, HS.out, hbw1⟩
        case measure => simp [intOf]; omega
    · have hkn : k = n := by omega
      subst hkn
      have ht := HT.out
      rw [List.take_of_length_le (by have := HL.out; omega)] at ht
      have HT := Lib.hid ht
      clear ht
      go_wp2_with fail
      go_ret
      exact ⟨by rw [okTab, HT.out, HL.out, Bool.true_and]; rfl, hb⟩
end Go.Proofs.YteopkcndkcciaaaGreat.Slots
namespace Go.Proofs.YteopkcndkcciaaaGreat.Inss
set_option maxRecDepth 100000
open Go.ChangeShapes Go.WideShapes Go.ChangeAt Go.RowKit
open Go.Proofs.YteopkcndkcciaaaGreat.Base Go.Proofs.YteopkcndkcciaaaGreat.Mem Go.Proofs.YteopkcndkcciaaaGreat.Data
def SamePost (w : World) (l m : List JT) (e : Ending) (w' : World) : Prop := e = .returned (.bool (decide (l = m))) ∧ ∃ q, w' = w.drewN q
theorem same_step {l m : List JT} {k : Nat} (hl : k < l.length) (hm : k < m.length) (h : l.take k = m.take k) :
    (l[k].1 = m[k].1 ∧ l[k].2 = m[k].2 → l.take (k + 1) = m.take (k + 1)) ∧ (¬ (l[k].1 = m[k].1 ∧ l[k].2 = m[k].2) → l ≠ m) := by
  refine ⟨fun e => ?_, fun e => ?_⟩
  · rw [List.take_succ_eq_append_getElem hl, List.take_succ_eq_append_getElem hm, h, Prod.ext e.1 e.2]
  · rintro rfl
    exact e ⟨rfl, rfl⟩
theorem same_no {w : World} {l m : List JT} (q : Nat) (h : l ≠ m) : SamePost w l m (.returned (.bool false)) (w.drewN q) := ⟨by rw [decide_eq_false h], q, rfl⟩
theorem same_no2 {w : World} {l m : List JT} (q r : Nat) (h : l ≠ m) : SamePost w l m (.returned (.bool false)) ((w.drewN q).drewN r) := ⟨by rw [decide_eq_false h], q + r, World.drewN_drewN ..⟩
theorem same_yes {w : World} {l m : List JT} {n : Nat} (q : Nat) (h : l.take n = m.take n) (hl : l.length = n) (hm : m.length = n) : SamePost w l m (.returned (.bool true)) (w.drewN q) := by
  rw [List.take_of_length_le (by omega), List.take_of_length_le (by omega)] at h
  exact ⟨by rw [decide_eq_true h], q, rfl⟩
set_option maxHeartbeats 1000000 in
theorem law_same (A B : Option Addr) (n n' c d lo lo' hi hi' : Nat) (l m : List JT) (w : World) (hn : n ≤ 1048576) (hn' : n' ≤ 1048576) (hl : l.length = n) (hm : m.length = n')
    (h1 : Lies w lo hi A (jcells l)) (h2 : Lies w lo' hi' B (jcells m)) :
    Calls Tryz.prog 41 #[.slice A n c, .slice B n' d] w (SamePost w l m) := by
  have H1 := Lib.hid h1
  have H2 := Lib.hid h2
  have HL := Lib.hid hl
  have HM := Lib.hid hm
  clear h1 h2 hl hm
  by_cases hnn : n = n'
  · subst hnn
    go_enter Tryz.func41, Tryz.ntmps41
    go_wp2
    go_loopw [5] (fun i wr => ∃ (k q : Nat), k ≤ n ∧ i = .int .i64 k ∧ l.take k = m.take k ∧ wr = w.drewN q) (fun i _ => n - (intOf i).toNat)
    case atStart => exact ⟨0, 0, Nat.zero_le _, rfl, rfl, rfl⟩
    case round =>
      obtain ⟨k, q, hk, rfl, ht, rfl⟩ := hrel
      have HT := Lib.hid ht
      clear ht
      by_cases hlt : k < n
      · have hkl : k < l.length := by have := HL.out; omega
        have hkm : k < m.length := by have := HM.out; omega
        obtain ⟨b, off, rfl, _, hbw, c1, c2⟩ := j_at H1.out k hkl
        obtain ⟨b', off', rfl, _, hbw', c1', c2'⟩ := j_at H2.out k hkm
        have hi0 : (0 : Int) ≤ (k : Int) := Int.natCast_nonneg _
        have hi1 : (k : Int) < (n : Int) := by omega
        have hstep := same_step hkl hkm HT.out
        have HP := Lib.hid hstep
        clear hstep
        generalize l[k].1 = x at c1 HP
        generalize l[k].2 = y at c2 HP
        generalize m[k].1 = x' at c1' HP
        generalize m[k].2 = y' at c2' HP
        by_cases hx : x = x'
        · subst hx
          by_cases hy : y = y'
          · subst hy
            go_wp2
            go_quiet (fail)
            go_wp2
            go_roundw
            case rel => exact ⟨k + 1, _, by omega, by go_num, HP.out.1 (by simp), rfl⟩
            case measure => simp [intOf]; omega
          · have hy' : (y == y') = false := by simpa using hy
            go_wp2
            go_quiet (fail)
            go_wp2
            go_ret
            exact same_no2 _ _ (HP.out.2 (fun h => hy h.2))
        · have hx' : (x == x') = false := by simpa using hx
          go_wp2
          go_quiet (fail)
          go_wp2
          go_ret
          exact same_no2 _ _ (HP.out.2 (fun h => hx h.1))
      · have hkn : k = n := by omega
        subst hkn
        go_wp2
        go_ret
        exact same_yes _ HT.out HL.out HM.out
  · have hd : (n == n') = false := by simpa using hnn
    have hd' : ((n : Int) == (n' : Int)) = false := by simp; omega
    go_enter Tryz.func41, Tryz.ntmps41
    go_wp2
    go_ret
    exact same_no 0 (fun e => hnn (by rw [← HL.out, ← HM.out, e]))
end Go.Proofs.YteopkcndkcciaaaGreat.Inss
namespace Go.Proofs.YteopkcndkcciaaaGreat.Slots
set_option maxRecDepth 100000
open Go.ChangeShapes Go.WideShapes Go.ChangeAt Go.RowKit
open Go.Proofs.YteopkcndkcciaaaGreat.Base Go.Proofs.YteopkcndkcciaaaGreat.Mem Go.Proofs.YteopkcndkcciaaaGreat.Ints
def SamePost (w : World) (l m : List Sl) (e : Ending) (w' : World) : Prop := e = .returned (.bool (decide (l = m))) ∧ ∃ q, w' = w.drewN q
theorem same_step {l m : List Sl} {k : Nat} (hl : k < l.length) (hm : k < m.length) (h : l.take k = m.take k) :
    (l[k].1 = m[k].1 ∧ l[k].2 = m[k].2 → l.take (k + 1) = m.take (k + 1)) ∧ (¬ (l[k].1 = m[k].1 ∧ l[k].2 = m[k].2) → l ≠ m) := by
  refine ⟨fun e => ?_, fun e => ?_⟩
  · rw [List.take_succ_eq_append_getElem hl, List.take_succ_eq_append_getElem hm, h, Prod.ext e.1 e.2]
  · rintro rfl
    exact e ⟨rfl, rfl⟩
theorem same_no {w : World} {l m : List Sl} (q : Nat) (h : l ≠ m) : SamePost w l m (.returned (.bool false)) (w.drewN q) := ⟨by rw [decide_eq_false h], q, rfl⟩
theorem same_no2 {w : World} {l m : List Sl} (q r : Nat) (h : l ≠ m) : SamePost w l m (.returned (.bool false)) ((w.drewN q).drewN r) := ⟨by rw [decide_eq_false h], q + r, World.drewN_drewN ..⟩
theorem same_yes {w : World} {l m : List Sl} {n : Nat} (q : Nat) (h : l.take n = m.take n) (hl : l.length = n) (hm : m.length = n) : SamePost w l m (.returned (.bool true)) (w.drewN q) := by
  rw [List.take_of_length_le (by omega), List.take_of_length_le (by omega)] at h
  exact ⟨by rw [decide_eq_true h], q, rfl⟩
set_option maxHeartbeats 1000000 in
theorem law_same (A B : Option Addr) (n n' c d lo lo' hi hi' : Nat) (l m : List Sl) (w : World) (hn : n ≤ 1048576) (hn' : n' ≤ 1048576) (hl : l.length = n) (hm : m.length = n')
    (h1 : Lies w lo hi A (scells l)) (h2 : Lies w lo' hi' B (scells m)) :
    Calls Tryz.prog 42 #[.slice A n c, .slice B n' d] w (SamePost w l m) := by
  have H1 := Lib.hid h1
  have H2 := Lib.hid h2
  have HL := Lib.hid hl
  have HM := Lib.hid hm
  clear h1 h2 hl hm
  by_cases hnn : n = n'
  · subst hnn
    go_enter Tryz.func42, Tryz.ntmps42
    go_wp2
    go_loopw [5] (fun i wr => ∃ (k q : Nat), k ≤ n ∧ i = .int .i64 k ∧ l.take k = m.take k ∧ wr = w.drewN q) (fun i _ => n - (intOf i).toNat)
    case atStart => exact ⟨0, 0, Nat.zero_le _, rfl, rfl, rfl⟩
    case round =>
      obtain ⟨k, q, hk, rfl, ht, rfl⟩ := hrel
      have HT := Lib.hid ht
      clear ht
      by_cases hlt : k < n
      · have hkl : k < l.length := by have := HL.out; omega
        have hkm : k < m.length := by have := HM.out; omega
        obtain ⟨b, off, rfl, _, hbw, c1, c2⟩ := slot_at H1.out k hkl
        obtain ⟨b', off', rfl, _, hbw', c1', c2'⟩ := slot_at H2.out k hkm
        have hi0 : (0 : Int) ≤ (k : Int) := Int.natCast_nonneg _
        have hi1 : (k : Int) < (n : Int) := by omega
        have hstep := same_step hkl hkm HT.out
        have HP := Lib.hid hstep
        clear hstep
        generalize l[k].1 = x at c1 HP
        generalize l[k].2 = y at c2 HP
        generalize m[k].1 = x' at c1' HP
        generalize m[k].2 = y' at c2' HP
        by_cases hx : x = x'
        · subst hx
          by_cases hy : y = y'
          · subst hy
            go_wp2
            go_quiet (fail)
            go_wp2
            go_roundw
            case rel => exact ⟨k + 1, _, by omega, by go_num, HP.out.1 (by simp), rfl⟩
            case measure => simp [intOf]; omega
          · have hy' : (y == y') = false := by simpa using hy
            go_wp2
            go_quiet (fail)
            go_wp2
            go_ret
            exact same_no2 _ _ (HP.out.2 (fun h => hy h.2))
        · have hx' : (x == x') = false := by simpa using hx
          go_wp2
          go_quiet (fail)
          go_wp2
          go_ret
          exact same_no2 _ _ (HP.out.2 (fun h => hx h.1))
      · have hkn : k = n := by omega
        subst hkn
        go_wp2
        go_ret
        exact same_yes _ HT.out HL.out HM.out
  · have hd : (n == n') = false := by simpa using hnn
    have hd' : ((n : Int) == (n' : Int)) = false := by simp; omega
    go_enter Tryz.func42, Tryz.ntmps42
    go_wp2
    go_ret
    exact same_no 0 (fun e => hnn (by rw [← HL.out, ← HM.out, e]))
set_option maxHeartbeats 1000000 in
theorem lib_equal (A B : Option Addr) (n n' c d lo lo' hi hi' : Nat) (l m : List Sl) (w : World) (hn : n ≤ 1048576) (hn' : n' ≤ 1048576) (hl : l.length = n) (hm : m.length = n')
    (h1 : Lies w lo hi A (scells l)) (h2 : Lies w lo' hi' B (scells m)) :
    Calls Tryz.prog 81 #[.slice A n c, .slice B n' d] w (SamePost w l m) := by
  have H1 := Lib.hid h1
  have H2 := Lib.hid h2
  have HL := Lib.hid hl
  have HM := Lib.hid hm
  clear h1 h2 hl hm
  by_cases hnn : n = n'
  · subst hnn
    go_enter Tryz.func81, Tryz.ntmps81
    go_wp2
    go_loopw [5, 13] (fun _ i wr => ∃ (k q : Nat), k ≤ n ∧ i = .int .i64 k ∧ l.take k = m.take k ∧ wr = w.drewN q) (fun _ i _ => n - (intOf i).toNat)
    case atStart => exact ⟨0, 0, Nat.zero_le _, rfl, rfl, rfl⟩
    case round =>
      obtain ⟨k, q, hk, rfl, ht, rfl⟩ := hrel
      have HT := Lib.hid ht
      clear ht
      by_cases hlt : k < n
      · have hkl : k < l.length := by have := HL.out; omega
        have hkm : k < m.length := by have := HM.out; omega
        obtain ⟨b, off, rfl, _, hbw, c1, c2⟩ := slot_at H1.out k hkl
        obtain ⟨b', off', rfl, _, hbw', c1', c2'⟩ := slot_at H2.out k hkm
        have hi0 : (0 : Int) ≤ (k : Int) := Int.natCast_nonneg _
        have hi1 : (k : Int) < (n : Int) := by omega
        have hstep := same_step hkl hkm HT.out
        have HP := Lib.hid hstep
        clear hstep
        generalize l[k].1 = x at c1 HP
        generalize l[k].2 = y at c2 HP
        generalize m[k].1 = x' at c1' HP
        generalize m[k].2 = y' at c2' HP
        by_cases hx : x = x'
        · subst hx
          by_cases hy : y = y'
          · subst hy
            go_wp2
            go_quiet (fail)
            go_wp2
            go_roundw
            case rel => exact ⟨k + 1, _, by omega, by go_num, HP.out.1 (by simp), rfl⟩
            case measure => simp [intOf]; omega
          · have hy' : (y == y') = false := by simpa using hy
            go_wp2
            go_quiet (fail)
            go_wp2
            go_ret
            exact same_no2 _ _ (HP.out.2 (fun h => hy h.2))
        · have hx' : (x == x') = false := by simpa using hx
          go_wp2
          go_quiet (fail)
          go_wp2
          go_ret
          exact same_no2 _ _ (HP.out.2 (fun h => hx h.1))
      · have hkn : k = n := by omega
        subst hkn
        go_wp2
        go_ret
        exact same_yes _ HT.out HL.out HM.out
  · have hd : (n == n') = false := by simpa using hnn
    have hd' : ((n : Int) == (n' : Int)) = false := by simp; omega
    go_enter Tryz.func81, Tryz.ntmps81
    go_wp2
    go_ret
    exact same_no 0 (fun e => hnn (by rw [← HL.out, ← HM.out, e]))
theorem impl_same (A B : Option Addr) (n n' c d lo lo' hi hi' : Nat) (l m : List Sl) (w : World) (hn : n ≤ 1048576) (hn' : n' ≤ 1048576) (hl : l.length = n) (hm : m.length = n')
    (h1 : Lies w lo hi A (scells l)) (h2 : Lies w lo' hi' B (scells m)) :
    Calls Tryz.prog 49 #[.slice A n c, .slice B n' d] w (SamePost w l m) := by
  have HK := Lib.hid (fun V (hV : V = w) => lib_equal A B n n' c d lo lo' hi hi' l m V hn hn' hl hm (hV ▸ h1) (hV ▸ h2))
  clear h1 h2 hl hm
  go_enter Tryz.func49, Tryz.ntmps49
  go_wp2_with fail
  refine (HK.out _ rfl).mono ?_
  rintro e w1 ⟨rfl, q, rfl⟩
  go_wp2_with fail
  go_ret
  exact ⟨rfl, q, rfl⟩
end Go.Proofs.YteopkcndkcciaaaGreat.Slots
namespace Go.Proofs.YteopkcndkcciaaaGreat.Grid
set_option maxRecDepth 100000
open Go.ChangeShapes Go.WideShapes Go.ChangeAt Go.RowKit
open Go.Proofs.YteopkcndkcciaaaGreat.Base Go.Proofs.YteopkcndkcciaaaGreat.Mem Go.Proofs.YteopkcndkcciaaaGreat.Ints
set_option linter.unusedVariables false
def hasPB (n : Nat) (page : Int) : Bool := inB page 0 ((n : Int) - 1)
def hasCB (M : List (List Int)) (page cell : Int) : Bool := hasPB M.length page && hasPB (M.getD page.toNat []).length cell
def cellAt (M : List (List Int)) (page cell : Int) : Int := if hasCB M page cell = true then (M.getD page.toNat []).getD cell.toNat 0 else 0
end Go.Proofs.YteopkcndkcciaaaGreat.Grid
namespace Go.Proofs.YteopkcndkcciaaaGreat.Grid
set_option maxRecDepth 100000
open Go.ChangeShapes Go.WideShapes Go.ChangeAt Go.RowKit
open Go.Proofs.YteopkcndkcciaaaGreat.Base Go.Proofs.YteopkcndkcciaaaGreat.Mem Go.Proofs.YteopkcndkcciaaaGreat.Ints
set_option linter.unusedVariables false
section
variable {P : Program}
end
theorem ncells_set (l : List Int) (j : Nat) (v : Int) : (ncells l).set j (.int .i64 v) = ncells (l.set j v) := by
  simp [ncells, List.map_set]
end Go.Proofs.YteopkcndkcciaaaGreat.Grid
namespace Go.Proofs.YteopkcndkcciaaaGreat.Grid
set_option maxRecDepth 100000
open Go.ChangeShapes Go.WideShapes Go.ChangeAt Go.RowKit
open Go.Proofs.YteopkcndkcciaaaGreat.BroughtW
theorem spec_brought (n l m : Int) (w : World) :
    Calls Tryz.prog 79 #[.int .i64 n, .int .i64 l, .int .i64 m] w fun e w' => e = .returned (.int .i64 (brought n l m)) ∧ w = w' := by
  by_cases h1 : m < l
  · have hb : brought n l m = l := by unfold brought; rw [if_pos (Or.inl h1)]
    rw [hb]; clear hb
    go_enter Tryz.func79, Tryz.ntmps79
    go_wp2
    go_ret
    exact ⟨rfl, rfl⟩
  · by_cases h2 : n < l
    · have hb : brought n l m = l := by unfold brought; rw [if_pos (Or.inr h2)]
      rw [hb]; clear hb
      go_enter Tryz.func79, Tryz.ntmps79
      go_wp2
      go_ret
      exact ⟨rfl, rfl⟩
    · by_cases h3 : m < n
      · have hb : brought n l m = m := by unfold brought; rw [if_neg (by omega), if_pos h3]
        rw [hb]; clear hb
        go_enter Tryz.func79, Tryz.ntmps79
        go_wp2
        go_ret
        exact ⟨rfl, rfl⟩
      · have hb : brought n l m = n := by unfold brought; rw [if_neg (by omega), if_neg h3]
        rw [hb]; clear hb
        go_enter Tryz.func79, Tryz.ntmps79
        go_wp2
        go_ret
        exact ⟨rfl, rfl⟩
end Go.Proofs.YteopkcndkcciaaaGreat.Grid
namespace Go.Proofs.YteopkcndkcciaaaGreat.Grid
set_option maxRecDepth 100000
open Go.ChangeShapes Go.WideShapes Go.ChangeAt Go.RowKit
open Go.Proofs.YteopkcndkcciaaaGreat.Base Go.Proofs.YteopkcndkcciaaaGreat.Mem Go.Proofs.YteopkcndkcciaaaGreat.Ints
set_option linter.unusedVariables false
def newN (a : Int) : Nat := (BroughtW.brought a 0 24).toNat
theorem newN_le (a : Int) : newN a ≤ 24 := by unfold newN BroughtW.brought; split <;> (try split) <;> omega
theorem newN_eq (a : Int) : BroughtW.brought a 0 24 = (newN a : Int) := by unfold newN BroughtW.brought; split <;> (try split) <;> omega
end Go.Proofs.YteopkcndkcciaaaGreat.Grid
namespace Go.Proofs.YteopkcndkcciaaaGreat.Grid
set_option maxRecDepth 100000
open Go.ChangeShapes Go.WideShapes Go.ChangeAt Go.RowKit
open Go.Proofs.YteopkcndkcciaaaGreat.Base Go.Proofs.YteopkcndkcciaaaGreat.Mem Go.Proofs.YteopkcndkcciaaaGreat.Ints
set_option linter.unusedVariables false
/-- A cell of a memory of one's own is written. -/
theorem OG.cell {w : World} {lo hi : Nat} {A : Option Addr} {M : List (List Int)} {hs : List Hd} (h : OG w lo hi A M hs) (hh : hi ≤ w.heap.size) (k j : Nat) (hk : k < M.length) (hj : j < M[k].length) :
    ∃ b off b' off' c, A = some ⟨b, off, none⟩ ∧ b < hi ∧ w.cell? ⟨b, off + k, none⟩ = some (.slice (some ⟨b', off', none⟩) M[k].length c) ∧ (∃ u, w.cell? ⟨b', off' + j, none⟩ = some u) ∧ w.frozen? ⟨b', off' + j, none⟩ = false ∧
      ∀ v : Int, OG (w.setCell ⟨b', off' + j, none⟩ (.int .i64 v)) lo hi A (M.set k (M[k].set j v)) hs ∧ Turned lo hi w (w.setCell ⟨b', off' + j, none⟩ (.int .i64 v)) := by
  obtain ⟨b, off, B, c, lo', hi', e, hb, hc, ho, hn⟩ := h.write hh k hk
  obtain ⟨b', off', rfl, x, y, c2⟩ := int_at ho.1 j hj
  refine ⟨b, off, b', off', c, e, hb, hc, ⟨_, c2⟩, ho.2 _ _ rfl (by rw [ncells_len]; omega) _, fun v => ?_⟩
  have h1 := ho.set j (.int .i64 v)
  rw [ncells_set] at h1
  exact hn _ _ (by simp) h1 ((Turned.refl lo' hi' w).setCell x y _)
end Go.Proofs.YteopkcndkcciaaaGreat.Grid
namespace Go.Proofs.YteopkcndkcciaaaGreat.Grid
set_option maxRecDepth 100000
open Go.ChangeShapes Go.WideShapes Go.ChangeAt Go.RowKit
open Go.Proofs.YteopkcndkcciaaaGreat.Base Go.Proofs.YteopkcndkcciaaaGreat.Mem Go.Proofs.YteopkcndkcciaaaGreat.Ints
set_option linter.unusedVariables false
def SameP {α : Type} [DecidableEq α] (w : World) (l m : List α) (e : Ending) (w' : World) : Prop := e = .returned (.bool (decide (l = m))) ∧ ∃ q, w' = w.drewN q
theorem same_step {α : Type} {l m : List α} {k : Nat} (hl : k < l.length) (hm : k < m.length) (h : l.take k = m.take k) :
    (l[k] = m[k] → l.take (k + 1) = m.take (k + 1)) ∧ (l[k] ≠ m[k] → l ≠ m) := by
  refine ⟨fun e => ?_, fun e => ?_⟩
  · rw [List.take_succ_eq_append_getElem hl, List.take_succ_eq_append_getElem hm, h, e]
  · rintro rfl
    exact e rfl
section
variable {α : Type} [DecidableEq α] {w : World} {l m : List α}
theorem SameP.yes {P : Program} {f : FuncId} {args : Array Value} {w0 : World} (h : Calls P f args w0 (SameP w l m)) (e : l = m) : Calls P f args w0 fun e w' => e = .returned (.bool true) ∧ ∃ q, w' = w.drewN q :=
  h.mono fun e1 w' ⟨h1, h2⟩ => ⟨by rw [h1, decide_eq_true e], h2⟩
theorem SameP.no {P : Program} {f : FuncId} {args : Array Value} {w0 : World} (h : Calls P f args w0 (SameP w l m)) (e : l ≠ m) : Calls P f args w0 fun e w' => e = .returned (.bool false) ∧ ∃ q, w' = w.drewN q :=
  h.mono fun e1 w' ⟨h1, h2⟩ => ⟨by rw [h1, decide_eq_false e], h2⟩
theorem same_no (q : Nat) (h : l ≠ m) : SameP w l m (.returned (.bool false)) (w.drewN q) := ⟨by rw [decide_eq_false h], q, rfl⟩
theorem same_no2 (q r : Nat) (h : l ≠ m) : SameP w l m (.returned (.bool false)) ((w.drewN q).drewN r) := ⟨by rw [decide_eq_false h], q + r, World.drewN_drewN ..⟩
/-- The world has drawn, and nothing else. -/
def Drawn (w w' : World) : Prop := ∃ q, w' = w.drewN q
theorem Drawn.cell {w' : World} (h : Drawn w w') (p : Addr) : w'.cell? p = w.cell? p := by
  obtain ⟨q, rfl⟩ := h
  rfl
theorem Drawn.lies {w' : World} (h : Drawn w w') {lo hi : Nat} {A : Option Addr} {cs : List Value} (k : Lies w lo hi A cs) : Lies w' lo hi A cs := by
  obtain ⟨q, rfl⟩ := h
  exact k
theorem Drawn.more {w' : World} (h : Drawn w w') (r : Nat) : Drawn w (w'.drewN (1 + r)) := by
  obtain ⟨q, rfl⟩ := h
  exact ⟨q + (1 + r), World.drewN_drewN ..⟩
theorem same_yes {n : Nat} (q : Nat) (h : l.take n = m.take n) (hl : l.length = n) (hm : m.length = n) : SameP w l m (.returned (.bool true)) (w.drewN q) := by
  rw [List.take_of_length_le (by omega), List.take_of_length_le (by omega)] at h
  exact ⟨by rw [decide_eq_true h], q, rfl⟩
end
set_option maxHeartbeats 1000000 in
theorem lib_equal (A B : Option Addr) (n n' c d lo lo' hi hi' : Nat) (l m : List Int) (w : World) (hn : n ≤ 1048576) (hn' : n' ≤ 1048576) (hl : l.length = n) (hm : m.length = n')
    (h1 : Lies w lo hi A (ncells l)) (h2 : Lies w lo' hi' B (ncells m)) :
    Calls Tryz.prog 50 #[.slice A n c, .slice B n' d] w (SameP w l m) := by
  have H1 := Lib.hid h1
  have H2 := Lib.hid h2
  have HL := Lib.hid hl
  have HM := Lib.hid hm
  clear h1 h2 hl hm
  by_cases hnn : n = n'
  · subst hnn
    go_enter Tryz.func50, Tryz.ntmps50
    go_wp2
    go_loopw [5, 13] (fun _ i wr => ∃ (k q : Nat), k ≤ n ∧ i = .int .i64 k ∧ l.take k = m.take k ∧ wr = w.drewN q) (fun _ i _ => n - (intOf i).toNat)
    case atStart => exact ⟨0, 0, Nat.zero_le _, rfl, rfl, rfl⟩
    case round =>
      obtain ⟨k, q, hk, rfl, ht, rfl⟩ := hrel
      have HT := Lib.hid ht
      clear ht
      by_cases hlt : k < n
      · have hkl : k < l.length := by have := HL.out; omega
        have hkm : k < m.length := by have := HM.out; omega
        obtain ⟨b, off, rfl, _, hbw, c1⟩ := int_at H1.out k hkl
        obtain ⟨b', off', rfl, _, hbw', c2⟩ := int_at H2.out k hkm
        have hi0 : (0 : Int) ≤ (k : Int) := Int.natCast_nonneg _
        have hi1 : (k : Int) < (n : Int) := by omega
        have HP := Lib.hid (same_step hkl hkm HT.out)
        generalize l[k] = x at c1 HP
        generalize m[k] = y at c2 HP
        by_cases hx : x = y
        · subst hx
          go_wp2
          go_quiet (fail)
          go_wp2
          go_roundw
          case rel => exact ⟨k + 1, _, by omega, by go_num, HP.out.1 (by simp), rfl⟩
          case measure => simp [intOf]; omega
        · have hx' : (x == y) = false := by simpa using hx
          have hx2 : (x != y) = true := by simpa using hx
          go_wp2
          go_quiet (fail)
          go_wp2
          go_ret
          exact same_no2 _ _ (HP.out.2 hx)
      · have hkn : k = n := by omega
        subst hkn
        go_wp2
        go_ret
        exact same_yes _ HT.out HL.out HM.out
  · have hd : (n == n') = false := by simpa using hnn
    have hd' : ((n : Int) == (n' : Int)) = false := by simp; omega
    go_enter Tryz.func50, Tryz.ntmps50
    go_wp2
    go_ret
    exact same_no 0 (fun e => hnn (by rw [← HL.out, ← HM.out, e]))
set_option maxHeartbeats 1000000 in
theorem law_ints (A B : Option Addr) (n n' c d lo lo' hi hi' : Nat) (l m : List Int) (w : World) (hn : n ≤ 1048576) (hn' : n' ≤ 1048576) (hl : l.length = n) (hm : m.length = n')
    (h1 : Lies w lo hi A (ncells l)) (h2 : Lies w lo' hi' B (ncells m)) :
    Calls Tryz.prog 43 #[.slice A n c, .slice B n' d] w (SameP w l m) := by
  have H1 := Lib.hid h1
  have H2 := Lib.hid h2
  have HL := Lib.hid hl
  have HM := Lib.hid hm
  clear h1 h2 hl hm
  by_cases hnn : n = n'
  · subst hnn
    go_enter Tryz.func43, Tryz.ntmps43
    go_wp2
    go_loopw [5] (fun  i wr => ∃ (k q : Nat), k ≤ n ∧ i = .int .i64 k ∧ l.take k = m.take k ∧ wr = w.drewN q) (fun  i _ => n - (intOf i).toNat)
    case atStart => exact ⟨0, 0, Nat.zero_le _, rfl, rfl, rfl⟩
    case round =>
      obtain ⟨k, q, hk, rfl, ht, rfl⟩ := hrel
      have HT := Lib.hid ht
      clear ht
      by_cases hlt : k < n
      · have hkl : k < l.length := by have := HL.out; omega
        have hkm : k < m.length := by have := HM.out; omega
        obtain ⟨b, off, rfl, _, hbw, c1⟩ := int_at H1.out k hkl
        obtain ⟨b', off', rfl, _, hbw', c2⟩ := int_at H2.out k hkm
        have hi0 : (0 : Int) ≤ (k : Int) := Int.natCast_nonneg _
        have hi1 : (k : Int) < (n : Int) := by omega
        have HP := Lib.hid (same_step hkl hkm HT.out)
        generalize l[k] = x at c1 HP
        generalize m[k] = y at c2 HP
        by_cases hx : x = y
        · subst hx
          go_wp2
          go_quiet (fail)
          go_wp2
          go_roundw
          case rel => exact ⟨k + 1, _, by omega, by go_num, HP.out.1 (by simp), rfl⟩
          case measure => simp [intOf]; omega
        · have hx' : (x == y) = false := by simpa using hx
          have hx2 : (x != y) = true := by simpa using hx
          go_wp2
          go_quiet (fail)
          go_wp2
          go_ret
          exact same_no2 _ _ (HP.out.2 hx)
      · have hkn : k = n := by omega
        subst hkn
        go_wp2
        go_ret
        exact same_yes _ HT.out HL.out HM.out
  · have hd : (n == n') = false := by simpa using hnn
    have hd' : ((n : Int) == (n' : Int)) = false := by simp; omega
    go_enter Tryz.func43, Tryz.ntmps43
    go_wp2
    go_ret
    exact same_no 0 (fun e => hnn (by rw [← HL.out, ← HM.out, e]))
end Go.Proofs.YteopkcndkcciaaaGreat.Grid
namespace Go.Proofs.YteopkcndkcciaaaGreat.Sx
set_option maxRecDepth 100000
open Go.ChangeShapes Go.WideShapes Go.ChangeAt Go.RowKit Go.Deep
set_option linter.unusedVariables false
theorem run_eqs {P : Program} {ρ : Operand → Value} {o : Oper} {op : BinOp} {t t' : TypeId} {x y : Operand} {xs ys : Array Value} {v : Value} (hop : o.op = .binOp op t x y t') (hx : ρ x = .agg xs) (hy : ρ y = .agg ys) (hm : P.eqGuardType P.depth t = false)
    (he : ∀ w, (binOp op t (.agg xs) (.agg ys)).run P w = .ok v w) (w : World) : (execOp ρ o).run P w = .ok (.value v) w := by
  unfold execOp
  simp only [hop, hx, hy, Sem.run_bind, run_eqGuard_agg _ _ _ _ _ _ _ hm, he, Sem.run_pure, Result.andThen_ok]
end Go.Proofs.YteopkcndkcciaaaGreat.Sx
