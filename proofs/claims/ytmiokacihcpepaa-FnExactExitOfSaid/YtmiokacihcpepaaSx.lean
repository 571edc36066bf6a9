/-
  A walk of its own: the slots that are known as a short list, the memory as a list of claims (XSt), each operation one lemma with closed side conditions. No statement about the program stands here. No condition.
-/
import Derived.Test.YtmiokacihcpepaaStOp
import Derived.Test.YtmiokacihcpepaaOrdT
namespace Go.Proofs.Ytmiokacihcpepaa.Sx
set_option maxRecDepth 100000
open Go.ChangeShapes Go.WideShapes Go.ChangeAt Go.RowKit Go.Deep
open Go.Proofs.Ytmiokacihcpepaa.Base Go.Proofs.Ytmiokacihcpepaa.Mem Go.Proofs.Ytmiokacihcpepaa.Data Go.Proofs.Ytmiokacihcpepaa.Stt
set_option linter.unusedVariables false
set_option linter.unusedSimpArgs false

abbrev Tl := List (Nat × Value)
/-- The value of a slot: the last that was put. -/
def look : Tl → Nat → Option Value
  | [], _ => none
  | (k, v) :: r, s => bif Nat.beq k s then some v else look r s
def ev (T : Tl) : Operand → Value
  | .tmp t => (look T t).getD undef
  | .const v => v
  | .global g => .pointer (some ⟨g, 0, none⟩)
  | .func f => .func (.func f) #[] #[]
def known (T : Tl) : Operand → Bool
  | .tmp t => (look T t).isSome
  | _ => true
def up (d : Option Tmp) (v : Value) (T : Tl) : Tl := match d with | some d => (d, v) :: T | none => T
def okDst (n : Nat) : Option Tmp → Bool
  | some d => Nat.blt d n
  | none => true
structure Ag (n : Nat) (T : Tl) (a : Act) : Prop where
  size : a.tmps.size = n
  defers : a.defers = []
  at_ : ∀ s v, look T s = some v → a.tmps[s]? = some v
section
variable {n : Nat} {T : Tl} {a : Act}
theorem Ag.put (h : Ag n T a) {d : Option Tmp} (hd : okDst n d = true) (v : Value) : Ag n (up d v T) (a.put d v) := by
  cases d with
  | none => exact h
  | some d =>
    have hd' : d < n := Nat.le_of_ble_eq_true hd
    refine ⟨by simp [Act.put, h.size], by simp [Act.put, h.defers], fun s u hs => ?_⟩
    simp only [up, look] at hs
    simp only [Act.put]
    by_cases e : d = s
    · subst e
      rw [Nat.beq_refl, cond_true] at hs
      cases hs
      rw [Array.getElem?_setIfInBounds_self_of_lt (by rw [h.size]; exact hd')]
    · have hb : Nat.beq d s = false := by rw [← Bool.not_eq_true, Nat.beq_eq]; exact e
      rw [hb, cond_false] at hs
      rw [Array.getElem?_setIfInBounds_ne e]
      exact h.at_ s u hs
theorem Ag.value (h : Ag n T a) {x : Operand} (hx : known T x = true) : a.eval x = ev T x := by
  cases x with
  | tmp t =>
    cases hl : look T t with
    | none => rw [known, hl] at hx; cases hx
    | some v =>
      show a.tmps.getD t undef = (look T t).getD undef
      rw [hl, Array.getD_eq_getD_getElem?, h.at_ t v hl]
  | _ => rfl
end
/-- Neither select. -/
def plainOp (o : Oper) : Bool := match o.op with | .select _ _ => false | _ => true
def opsKnown (T : Tl) (o : Oper) : Bool := o.op.operands.toList.all (known T)
theorem Ag.exec {n : Nat} {T : Tl} {a : Act} (h : Ag n T a) {o : Oper} (hp : plainOp o = true) (hk : opsKnown T o = true) : execOp a.eval o = execOp (ev T) o :=
  execOp_congr o (fun cs b e => by simp [plainOp, e] at hp) fun x hx => h.value (List.all_eq_true.1 hk x (by simpa using hx))
/-- Is the guard's slot known as a boolean; is the operation wanted? -/
def gval (T : Tl) (ops : Array Oper) (j : Nat) : Option Bool :=
  match (ops[j]?).bind (·.dst) with
  | some d => (match look T d with | some (.bool b) => some b | _ => none)
  | none => none
def gk (T : Tl) (ops : Array Oper) (o : Oper) : Bool := match o.guard with | none => true | some (j, _) => (match (ops[j]?).bind (·.dst) with | some d => (look T d).isSome | none => false)
def wt (T : Tl) (ops : Array Oper) (o : Oper) : Bool := match o.guard with | none => true | some (j, b) => gval T ops j == some b
theorem Ag.want {n : Nat} {T : Tl} {a : Act} (h : Ag n T a) {ops : Array Oper} {o : Oper} (hk : gk T ops o = true) : Region.wanted o (yielded ops a.tmps) = wt T ops o := by
  unfold Region.wanted wt
  unfold gk at hk
  cases hg : o.guard with
  | none => rfl
  | some p =>
    obtain ⟨j, b⟩ := p
    rw [hg] at hk
    simp only at hk ⊢
    have key : yielded ops a.tmps j = gval T ops j := by
      unfold gval
      unfold yielded
      cases hd : (ops[j]?).bind (·.dst) with
      | none => rw [hd] at hk; cases hk
      | some d =>
        rw [hd] at hk
        simp only at hk ⊢
        cases hl : look T d with
        | none => rw [hl] at hk; cases hk
        | some v =>
          rw [hl] at hk
          simp only [Option.bind_some, h.at_ d v hl]
          cases v <;> simp_all
    rw [key]
/-- What an operation wants. -/
def chk (n : Nat) (T : Tl) (ops : Array Oper) (o : Oper) : Bool := gk T ops o && wt T ops o && plainOp o && opsKnown T o && okDst n o.dst
def chkNo (n : Nat) (T : Tl) (ops : Array Oper) (o : Oper) : Bool := gk T ops o && !wt T ops o && okDst n o.dst
structure Chk (n : Nat) (T : Tl) (ops : Array Oper) (o : Oper) (a : Act) : Prop where
  want : Region.wanted o (yielded ops a.tmps) = true
  exec : execOp a.eval o = execOp (ev T) o
  ok : okDst n o.dst = true
theorem Ag.takes {n : Nat} {T : Tl} {a : Act} (h : Ag n T a) {ops : Array Oper} {o : Oper} (hc : chk n T ops o = true) : Chk n T ops o a := by
  unfold chk at hc
  simp only [Bool.and_eq_true] at hc
  exact ⟨(h.want hc.1.1.1.1).trans hc.1.1.1.2, h.exec hc.1.1.2 hc.1.2, hc.2⟩

/-- Is the type's value a row of cells, or one cell? -/
def isRow (P : Program) (t : TypeId) : Bool := match P.underlying t with | some d => d.isRow | none => false
def isCell (P : Program) (t : TypeId) : Bool := match P.underlying t with | some d => !d.isRow | none => false
theorem isRow_spec {P : Program} {t : TypeId} (h : isRow P t = true) : ∃ d, P.underlying t = some d ∧ d.isRow = true := by
  unfold isRow at h
  cases hu : P.underlying t with
  | none => rw [hu] at h; cases h
  | some d => rw [hu] at h; exact ⟨d, rfl, h⟩
theorem isCell_spec {P : Program} {t : TypeId} (h : isCell P t = true) : ∃ d, P.underlying t = some d ∧ d.isRow = false := by
  unfold isCell at h
  cases hu : P.underlying t with
  | none => rw [hu] at h; cases h
  | some d => rw [hu] at h; exact ⟨d, rfl, by simpa using h⟩

/-! ### The judgements -/
def G (P : Program) (n : Nat) (ops : Array Oper) (Q : Exit → Act → World → Prop) (w0 : World) (T : Tl) (L : List Res) (rest : List Oper) : Prop := ∀ a w, Ag n T a → St w0 w L → wpList P ops Q rest a w
def C (P : Program) (n : Nat) (Q : Exit → Act → World → Prop) (w0 : World) (T : Tl) (L : List Res) (c : Code) : Prop := ∀ a w, Ag n T a → St w0 w L → c.wp P Q a w
def E (n : Nat) (Q : Exit → Act → World → Prop) (w0 : World) (T : Tl) (L : List Res) (e : Exit) : Prop := ∀ a w, Ag n T a → St w0 w L → Q e a w

section
variable {P : Program} {n : Nat} {ops : Array Oper} {Q : Exit → Act → World → Prop} {w0 : World} {T : Tl} {L : List Res} {rest : List Oper} {o : Oper}
theorem G.nil (k : E n Q w0 T L .normal) : G P n ops Q w0 T L [] := fun a w hA S => wpList_nil (k a w hA S)
theorem wpList_takes {a : Act} {w : World} (hw : Region.wanted o (yielded ops a.tmps) = true) (h : o.wp P a w (wpList P ops Q rest) Q) : wpList P ops Q (o :: rest) a w := by
  unfold wpList
  rw [if_pos hw]
  exact .inl h
theorem upon_ok {a : Act} {v : Value} {w : World} {K : Act → World → Prop} (h : K (a.put o.dst v) w) : o.upon P a K Q (.ok (.value v) w) := h
/-- A value is computed. -/
theorem G.pure (v : Value) (hc : chk n T ops o = true) (hv : ∀ w, (execOp (ev T) o).run P w = .ok (.value v) w) (k : G P n ops Q w0 (up o.dst v T) L rest) : G P n ops Q w0 T L (o :: rest) := fun a w hA S => by
  have c := hA.takes hc
  refine wpList_takes c.want ?_
  unfold Oper.wp
  rw [c.exec, hv w]
  exact k _ _ (hA.put c.ok v) S
theorem G.pureq (v0 v : Value) (hc : chk n T ops o = true) (hv : ∀ w, (execOp (ev T) o).run P w = .ok (.value v0) w) (he : v0 = v) (k : G P n ops Q w0 (up o.dst v T) L rest) : G P n ops Q w0 T L (o :: rest) := G.pure v hc (fun w => he ▸ hv w) k
/-- .. in the worlds that hold the claims. -/
theorem G.reads (v : Value) (hc : chk n T ops o = true) (hv : ∀ w, St w0 w L → (execOp (ev T) o).run P w = .ok (.value v) w) (k : G P n ops Q w0 (up o.dst v T) L rest) : G P n ops Q w0 T L (o :: rest) := fun a w hA S => by
  have c := hA.takes hc
  refine wpList_takes c.want ?_
  unfold Oper.wp
  rw [c.exec, hv w S]
  exact k _ _ (hA.put c.ok v) S
/-- .. whatever the world becomes. -/
theorem G.turns (hc : chk n T ops o = true) (hv : ∀ w, St w0 w L → ∃ v w' L', (execOp (ev T) o).run P w = .ok (.value v) w' ∧ St w0 w' L' ∧ G P n ops Q w0 (up o.dst v T) L' rest) : G P n ops Q w0 T L (o :: rest) := fun a w hA S => by
  have c := hA.takes hc
  obtain ⟨v, w', L', h1, h2, h3⟩ := hv w S
  refine wpList_takes c.want ?_
  unfold Oper.wp
  rw [c.exec, h1]
  exact h3 _ _ (hA.put c.ok v) h2
theorem G.acts (hc : chk n T ops o = true) (hv : ∀ w, St w0 w L → ∃ w' L', (execOp (ev T) o).run P w = .ok .skip w' ∧ St w0 w' L' ∧ G P n ops Q w0 (up o.dst undef T) L' rest) : G P n ops Q w0 T L (o :: rest) := fun a w hA S => by
  have c := hA.takes hc
  obtain ⟨w', L', h1, h2, h3⟩ := hv w S
  refine wpList_takes c.want ?_
  unfold Oper.wp
  rw [c.exec, h1]
  exact h3 _ _ (hA.put c.ok undef) h2
theorem G.skip (hc : chkNo n T ops o = true) (k : G P n ops Q w0 (up o.dst undef T) L rest) : G P n ops Q w0 T L (o :: rest) := fun a w hA S => by
  unfold chkNo at hc
  simp only [Bool.and_eq_true, Bool.not_eq_true'] at hc
  unfold wpList
  rw [if_neg (by rw [hA.want hc.1.1, hc.1.2]; decide)]
  exact k _ _ (hA.put hc.2 undef) S
/-- A call. -/
theorem G.call (f : FuncId) (args : Array Value) (hc : chk n T ops o = true) (hf : ∀ w, (execOp (ev T) o).run P w = .ok (.enter f args) w)
    (h : ∀ w, St w0 w L → Calls P f args w fun e w' => ∃ v L', e = .returned v ∧ St w0 w' L' ∧ G P n ops Q w0 (up o.dst v T) L' rest) : G P n ops Q w0 T L (o :: rest) := fun a w hA S => by
  have c := hA.takes hc
  refine wpList_takes c.want ?_
  unfold Oper.wp
  rw [c.exec, hf w]
  refine (h w S).mono ?_
  rintro e w' ⟨v, L', rfl, h1, h2⟩
  exact h2 _ _ (hA.put c.ok v) h1
/-- .. that hands back plain values and leaves the old as it was. -/
theorem G.plain (f : FuncId) (args : Array Value) (v : Value) (hc : chk n T ops o = true) (hf : ∀ w, (execOp (ev T) o).run P w = .ok (.enter f args) w)
    (h : ∀ w, St w0 w L → Calls P f args w fun e w' => e = .returned v ∧ Below w.heap.size w w') (k : G P n ops Q w0 (up o.dst v T) L rest) : G P n ops Q w0 T L (o :: rest) :=
  G.call f args hc hf fun w S => (h w S).mono fun e w' ⟨he, hb⟩ => ⟨v, L, he, S.call hb, k⟩
/-- A variable. -/
theorem G.box (t : TypeId) (x : Operand) (vs : List Value) (hop : o.op = .box t x) (hc : chk n T ops o = true) (hx : (ev T x).cells = vs.toArray)
    (k : ∀ b, G P n ops Q w0 (up o.dst (.pointer (some ⟨b, 0, none⟩)) T) (vr b vs :: L) rest) : G P n ops Q w0 T L (o :: rest) :=
  G.turns hc fun w S => ⟨_, _, _, by
    unfold execOp
    simp only [hop, Sem.run_bind, Instr.box, newVar, newRow, run_newObj_alloc, Sem.run_pure, Result.andThen_ok, hx], S.alloc vs t, k _⟩
/-- A struct, or a part of one, is loaded. -/
theorem G.ld (t : TypeId) (x : Operand) (b off i : Nat) (vs cs : List Value) (hop : o.op = .load t x) (hc : chk n T ops o = true) (hx : ev T x = .pointer (some ⟨b, off, none⟩)) (hL : L[i]? = some (vr b vs)) (hcs : (vs.drop off).take cs.length = cs)
    (hr : isRow P t = true) (hi : (P.info? t).map (·.size) = some cs.length) (k : G P n ops Q w0 (up o.dst (.agg cs.toArray) T) L rest) : G P n ops Q w0 T L (o :: rest) :=
  G.reads _ hc (fun w S => by
    obtain ⟨d, hu, hd⟩ := isRow_spec hr
    unfold execOp
    have h := run_loadAt_mid (P := P) w b off t cs d (fun j v hv => S.cell i hL (off + j) (by
      rw [← hcs] at hv
      have hj : j < cs.length := by have := (List.getElem?_eq_some_iff.1 hv).1; rw [List.length_take] at this; omega
      rwa [List.getElem?_take, if_pos hj, List.getElem?_drop] at hv)) hu hd hi
    simp only [hop, hx, Sem.run_bind, h, Sem.run_pure, Result.andThen_ok]) k
/-- One cell. -/
theorem G.ld1 (t : TypeId) (x : Operand) (b off i : Nat) (vs : List Value) (v : Value) (hop : o.op = .load t x) (hc : chk n T ops o = true) (hx : ev T x = .pointer (some ⟨b, off, none⟩)) (hL : L[i]? = some (vr b vs)) (hv : vs[off]? = some v)
    (hr : isCell P t = true) (k : G P n ops Q w0 (up o.dst v T) L rest) : G P n ops Q w0 T L (o :: rest) :=
  G.reads v hc (fun w S => by
    obtain ⟨d, hu, hd⟩ := isCell_spec hr
    unfold execOp
    have h : (Instr.loadAt t (.pointer (some ⟨b, off, none⟩))).run P w = .ok v w := by
      have hcell := S.cell i hL off hv
      have hagg : (isAgg t).run P w = .ok false w := by
        unfold isAgg
        rw [Sem.run_bind, run_underlying hu w]
        cases d <;> simp_all
      simp only [Instr.loadAt, Instr.sureAddr, loadVar, Sem.run_bind, Sem.run_pure, Result.andThen_ok, hagg, Bool.false_eq_true, if_false, run_load, hcell]
    simp only [hop, hx, Sem.run_bind, h, Sem.run_pure, Result.andThen_ok]) k
theorem G.alloc (t : TypeId) (z : Value) (vs : List Value) (hop : o.op = .alloc t) (hc : chk n T ops o = true) (hz : ∀ w, (zeroValue t).run P w = .ok z w) (hx : z.cells = vs.toArray)
    (k : ∀ b, G P n ops Q w0 (up o.dst (.pointer (some ⟨b, 0, none⟩)) T) (vr b vs :: L) rest) : G P n ops Q w0 T L (o :: rest) :=
  G.turns hc fun w S => ⟨_, _, _, by
    unfold execOp
    simp only [hop, Sem.run_bind, Instr.alloc, newVar, newRow, hz, run_newObj_alloc, Sem.run_pure, Result.andThen_ok, hx], S.alloc vs t, k _⟩
/-- A value is stored into a variable, or into a part of it. -/
theorem G.sto (t : TypeId) (x y : Operand) (b off i : Nat) (vs us vs' : List Value) (L' : List Res) (hop : o.op = .store t x y) (hc : chk n T ops o = true) (hx : ev T x = .pointer (some ⟨b, off, none⟩)) (hy : (ev T y).cells = us.toArray) (hL : L[i]? = some (vr b vs))
    (hvs : (us.foldl (fun (p : List Value × Nat) u => (p.1.set p.2 u, p.2 + 1)) (vs, off)).1 = vs') (hL' : L.set i (vr b vs') = L') (hl : Nat.ble (off + us.length) vs.length = true) (hi : (P.info? t).map (·.size) = some us.length) (h1 : us.all (·.oneCell') = true)
    (k : G P n ops Q w0 (up o.dst undef T) L' rest) : G P n ops Q w0 T L (o :: rest) :=
  G.acts hc fun w S => by
    have hl' : off + us.length ≤ vs.length := Nat.le_of_ble_eq_true hl
    have ht : w.there b off us.toArray.size := fun j hj => by
      have hj' : off + j < vs.length := by simp at hj; omega
      exact ⟨by rw [S.cell i hL (off + j) (List.getElem?_eq_getElem hj')]; rfl, S.loose i hL (off + j) (List.getElem?_eq_getElem hj')⟩
    refine ⟨w.setCells b off us, L', ?_, ?_, k⟩
    · unfold execOp
      have hcells : (storeVar t ⟨b, off, none⟩ (ev T y)).run P w = (storeVar t ⟨b, off, none⟩ (.agg us.toArray)).run P w := by
        unfold storeVar
        rw [hy]
        rfl
      have hs := run_storeVar_mid (P := P) w b off t us.toArray ht (by simpa using hi) (by simpa using h1)
      simp only [hop, Sem.run_bind, Instr.storeAt, Instr.sureAddr, hx, Sem.run_pure, Result.andThen_ok, hcells, hs]
    · subst hvs hL'
      exact S.turn i hL (vr b _) (Only.setCells (show (vr b vs).foot b from rfl) us off w) (Var.setCells us vs off w (S.at_ i hL)) (fun k hk => .inl hk) (show w0.heap.size ≤ b from S.lo i (vr b vs) hL) (by rw [setCells_size]; have := S.hi i (vr b vs) hL; simpa [vr] using this)

/-! ### Slices -/
def elemB (P : Program) (t e : TypeId) (size bytes : Nat) : Bool :=
  match P.underlying t, P.info? e with
  | some (.slice e'), some i => Nat.beq e' e && Nat.beq i.size size && Nat.beq i.bytes bytes && Nat.blt 0 size && (match i.zero with | some z => Nat.beq z.cells.size size | none => false)
  | _, _ => false
theorem elemB_spec {t e : TypeId} {size bytes : Nat} (h : elemB P t e size bytes = true) : P.underlying t = some (.slice e) ∧ 0 < size ∧ ∃ i z, P.info? e = some i ∧ i.zero = some z ∧ i.size = size ∧ i.bytes = bytes ∧ z.cells.size = size := by
  unfold elemB at h
  cases hu : P.underlying t with
  | none => rw [hu] at h; cases h
  | some d =>
    rw [hu] at h
    cases d with
    | slice e' =>
      cases hi : P.info? e with
      | none => rw [hi] at h; cases h
      | some i =>
        rw [hi] at h
        simp only [Bool.and_eq_true, Nat.beq_eq] at h
        obtain ⟨⟨⟨⟨h1, h2⟩, h3⟩, h4⟩, h5⟩ := h
        subst h1
        cases hz : i.zero with
        | none => rw [hz] at h5; cases h5
        | some z => rw [hz] at h5; exact ⟨rfl, Nat.le_of_ble_eq_true h4, i, z, rfl, hz, h2, h3, by simpa using h5⟩
    | _ => cases h
/-- A slice made of nothing. -/
theorem G.fresh {α : Type} (e : TypeId) (r : Rp α) (hc : chk n T ops o = true) (hr : ∀ w : World, (execOp (ev T) o).run P w = .ok (.value (.slice (some ⟨w.heap.size, 0, none⟩) 0 0)) (w.alloc (.cells #[] e)))
    (k : ∀ b hi, G P n ops Q w0 (up o.dst (.slice (some ⟨b, 0, none⟩) 0 0) T) (ow (rLst e r) b hi [] [.slice (some ⟨b, 0, none⟩) 0 0] [b] :: L) rest) : G P n ops Q w0 T L (o :: rest) :=
  G.turns hc fun w S => ⟨_, _, _, hr w, S.fresh e r, k _ _⟩
/-- .. and of something: a variable of its own. -/
theorem G.made (e : TypeId) (vs : List Value) (m : Nat) (hc : chk n T ops o = true) (hr : ∀ w : World, (execOp (ev T) o).run P w = .ok (.value (.slice (some ⟨w.heap.size, 0, none⟩) m m)) (w.alloc (.cells vs.toArray e)))
    (k : ∀ b, G P n ops Q w0 (up o.dst (.slice (some ⟨b, 0, none⟩) m m) T) (vr b vs :: L) rest) : G P n ops Q w0 T L (o :: rest) :=
  G.turns hc fun w S => ⟨_, _, _, hr w, S.alloc vs e, k _⟩
/-- What 'append' does (XStOp's law, as a run). -/
theorem apps_run {α : Type} {r : Rp α} {e : TypeId} {o : Oper} {ρ : Operand → Value} {w : World} (S : St w0 w L) (k : Nat) {lo hi : Nat} {xs : List α} {v : Value} {F : List Nat} (hk : L[k]? = some (ow (rLst e r) lo hi xs [v] F))
    {ys zs : List α} {vx : Value} (hxs : rdLst r w 0 w.heap.size ys [vx]) (hzz : xs ++ ys = zs) (m : Nat) (hm : zs.length = m) (hf : Flat r)
    (s x : Operand) (t : TypeId) (ho : o.op = .call { callee := .builtin .append, args := #[s, x], argTypes := #[t, t] })
    (i : TypeInfo) (z : Value) (size bytes : Nat) (ht : P.underlying t = some (.slice e)) (hi' : P.info? e = some i) (hz : i.zero = some z) (hsize : i.size = size) (hby : i.bytes = bytes) (hzs : z.cells.size = size) (hsz : 0 < size) (hr : r.sz = size)
    (hs : ρ s = v) (hx : ρ x = vx) (h63 : xs.length + ys.length ≤ maxLen) (hbytes : (xs.length + ys.length) * bytes ≤ 140737488355328) :
    ∃ A c F' w', m ≤ c ∧ (execOp ρ o).run P w = .ok (.value (.slice A m c)) w' ∧ St w0 w' (L.set k (ow (rLst e r) w0.heap.size w'.heap.size zs [.slice A m c] F')) := by
  subst hm
  obtain ⟨⟨v', ds0, F1, e1, hF, hall, hrow, hhi⟩, hnd⟩ := S.at_ k hk
  cases e1
  have hlo' : w0.heap.size ≤ lo := S.lo k _ hk
  have hhi' : hi ≤ w.heap.size := S.hi k _ hk
  obtain ⟨A, c, ds, e2, hc, hrd, hl⟩ := hxs
  cases e2
  have hlen := rdAll_len hrd
  subst hr hzz
  obtain ⟨v', w', hrun, hown, hgr, hat⟩ := run_app (P := P) w w0.heap.size t o.type e i z r.sz bytes ht hi' hz hsize hby hzs hsz v xs.length ds0 (ownsRow_low hrow hlo') A ys.length c ds hlen (fun j u hu => by
    obtain ⟨b, off, e, _, _, hcell⟩ := hl j u hu
    exact ⟨_, e, by rw [Addr.add_lit]; exact hcell⟩) (flat_ones hf hrd) h63 hbytes S.below.size
  have hx1 : (execOp ρ o).run P w = .ok (.value v') w' := by
    unfold execOp
    simp only [ho, resolve, invoke, builtin, Sem.run_bind, Sem.run_pure, Result.andThen_ok, List.map_toArray, List.map_cons, List.map_nil, hs, hx, hrun]
  have hcl := app_claim (b0 := w0.heap.size) hnd hlo' hhi' hF hall hrow (flat_all hf w w0.heap.size w.heap.size hrd) (by simp) (fun q _ => by simp) (Nat.le_refl _) (Nat.le_refl _) hown hgr hat
  obtain ⟨A', c', rfl, hc'⟩ := row_form hown
  rw [← List.length_append] at hcl hc'
  have hfoot : ∀ q, v.ownBlock = some q → (ow (rLst e r) lo hi xs [v] F).foot q := fun q hq => ⟨by rw [hF]; simp [hq], (hrow.lt q hq).1, hhi q hq⟩
  refine ⟨A', c', _, w', hc', by rw [← List.length_append] at hx1; exact hx1, S.turn k hk _ (Only.of_grown hgr hfoot) hcl (fun q hq => ?_) (Nat.le_refl _) (Nat.le_refl _)⟩
  obtain ⟨hq, _, hq2⟩ := hq
  rw [List.append_nil] at hq
  rcases List.mem_append.1 hq with hq | hq
  · have hq' : (Value.slice A' (xs.length + ys.length) c').ownBlock = some q := by rw [← List.length_append]; simpa using hq
    rcases hat with h5 | h5
    · exact .inl (hfoot q (h5.symm.trans hq'))
    · rw [h5] at hq'; cases hq'; right; exact Nat.le_refl _
  · have := ownAll_inF hall q hq
    exact .inl ⟨by rw [hF]; simp [hq], this⟩
/-- 'append(x, ys...)' onto a row of the call's own. -/
theorem G.apps {α : Type} {r : Rp α} {e : TypeId} (j : Nat) {lo hi : Nat} {xs : List α} {v : Value} {F : List Nat} (hk : L[j]? = some (ow (rLst e r) lo hi xs [v] F)) {ys : List α} (zs : List α) {vx : Value} (hxs : ∀ w, St w0 w L → rdLst r w 0 w.heap.size ys [vx]) (hzz : xs ++ ys = zs) (m : Nat) (hm : zs.length = m) (hf : Flat r)
    (s x : Operand) (t : TypeId) (size bytes : Nat) (hg : o.guard = none) (hop : o.op = .call { callee := .builtin .append, args := #[s, x], argTypes := #[t, t] }) (hc : chk n T ops o = true) (he : elemB P t e size bytes = true) (hr : r.sz = size)
    (hs : ev T s = v) (hx : ev T x = vx) (h63 : xs.length + ys.length ≤ maxLen) (hbytes : (xs.length + ys.length) * bytes ≤ 140737488355328)
    (k : ∀ A c F' hi', m ≤ c → G P n ops Q w0 (up o.dst (.slice A m c) T) (L.set j (ow (rLst e r) w0.heap.size hi' zs [.slice A m c] F')) rest) : G P n ops Q w0 T L (o :: rest) := fun a w hA S => by
  obtain ⟨ht, hsz, i, z, hi', hz, hsize, hby, hzs⟩ := elemB_spec he
  have hkn : opsKnown T o = true := by unfold chk at hc; simp only [Bool.and_eq_true] at hc; exact hc.1.2
  have hkk : ∀ y ∈ o.op.operands, a.eval y = ev T y := fun y hy => hA.value (List.all_eq_true.1 hkn y (by simpa using hy))
  have hops : o.op.operands = #[s, x] := by rw [hop]; simp [Op.operands, Call.operands]
  refine wpList_apps S j hk (hxs w S) hzz m hm hf hg s x t hop i z size bytes ht hi' hz hsize hby hzs hsz hr ?_ ?_ h63 hbytes fun A c F' w' hmc S' => k A c F' _ hmc _ _ (hA.put (hA.takes hc).ok _) S'
  · rw [hkk s (by rw [hops]; simp), hs]
  · rw [hkk x (by rw [hops]; simp), hx]

/-- An element of a slice: its address. -/
theorem run_elem {t e : TypeId} {size bytes : Nat} (he : elemB P t e size bytes = true) (b off m c k : Nat) (hk : k < m) (w : World) :
    (Instr.indexAt t (.slice (some ⟨b, off, none⟩) m c) (.int .i64 (k : Int))).run P w = .ok (.pointer (some ⟨b, off + k * size, none⟩)) w := by
  obtain ⟨ht, hsz, i, z, hi, hz, hsize, hby, hzs⟩ := elemB_spec he
  have hel : P.elem t = e := by simp [Program.elem, ht]
  rw [run_indexAt_slice w t _ m c .i64 k (by rw [hel]; exact ht), if_pos ⟨by omega, by omega⟩, hel]
  have hso : (sizeOf e).run P w = .ok size w := by simp [sizeOf, typeInfo, hi, hsize]
  rw [hso]
  simp [Addr.add_mid]
theorem G.elem (t e : TypeId) (x y : Operand) (size bytes b off m c k : Nat) (hop : o.op = .indexAddr t x y) (hc : chk n T ops o = true) (he : elemB P t e size bytes = true) (hx : ev T x = .slice (some ⟨b, off, none⟩) m c) (hy : ev T y = .int .i64 (k : Int)) (hk : k < m)
    (h : G P n ops Q w0 (up o.dst (.pointer (some ⟨b, off + k * size, none⟩)) T) L rest) : G P n ops Q w0 T L (o :: rest) :=
  G.pure _ hc (fun w => by
    unfold execOp
    simp only [hop, hx, hy, Sem.run_bind, run_elem he b off m c k hk w, Sem.run_pure, Result.andThen_ok]) h
/-- What lies somewhere is loaded. -/
theorem G.ldr (t : TypeId) (x : Operand) (b off : Nat) (cs : List Value) (hop : o.op = .load t x) (hc : chk n T ops o = true) (hx : ev T x = .pointer (some ⟨b, off, none⟩)) (hrd : ∀ w, St w0 w L → w.rangeAt b off cs) (hr : isRow P t = true) (hi : (P.info? t).map (·.size) = some cs.length)
    (k : G P n ops Q w0 (up o.dst (.agg cs.toArray) T) L rest) : G P n ops Q w0 T L (o :: rest) :=
  G.reads _ hc (fun w S => by
    obtain ⟨d, hu, hd⟩ := isRow_spec hr
    unfold execOp
    have h := run_loadAt_mid (P := P) w b off t cs d (hrd w S) hu hd hi
    simp only [hop, hx, Sem.run_bind, h, Sem.run_pure, Result.andThen_ok]) k
theorem run_cell {t : TypeId} {b off : Nat} {v : Value} {w : World} (hr : isCell P t = true) (hcell : w.cell? ⟨b, off, none⟩ = some v) : (Instr.loadAt t (.pointer (some ⟨b, off, none⟩))).run P w = .ok v w := by
  obtain ⟨d, hu, hd⟩ := isCell_spec hr
  have hagg : (isAgg t).run P w = .ok false w := by
    unfold isAgg
    rw [Sem.run_bind, run_underlying hu w]
    cases d <;> simp_all
  simp only [Instr.loadAt, Instr.sureAddr, loadVar, Sem.run_bind, Sem.run_pure, Result.andThen_ok, hagg, Bool.false_eq_true, if_false, run_load, hcell]
theorem G.ldr1 (t : TypeId) (x : Operand) (b off : Nat) (v : Value) (hop : o.op = .load t x) (hc : chk n T ops o = true) (hx : ev T x = .pointer (some ⟨b, off, none⟩)) (hrd : ∀ w, St w0 w L → w.cell? ⟨b, off, none⟩ = some v) (hr : isCell P t = true)
    (k : G P n ops Q w0 (up o.dst v T) L rest) : G P n ops Q w0 T L (o :: rest) :=
  G.reads v hc (fun w S => by
    unfold execOp
    simp only [hop, hx, Sem.run_bind, run_cell hr (hrd w S), Sem.run_pure, Result.andThen_ok]) k
/-- An element of a list that was there at the start. -/
theorem old_elem {α : Type} {r : Rp α} {w0 : World} {xs : List α} {A : Option Addr} {m c : Nat} (hs : 0 < r.sz) (h : rdLst r w0 0 w0.heap.size xs [.slice A m c]) (k : Nat) (hk : k < xs.length) :
    ∃ b off es, A = some ⟨b, off, none⟩ ∧ r.rd w0 0 w0.heap.size xs[k] es ∧ es.length = r.sz ∧ ∀ w L, St w0 w L → w.rangeAt b (off + k * r.sz) es := by
  obtain ⟨A', c', ds, e, hc, h1, h2⟩ := h
  cases e
  obtain ⟨b, off, es, rfl, hlo, hhi, h3, h4, h5⟩ := list_at hs h1 h2 k hk
  exact ⟨b, off, es, rfl, h3, h4, fun w L S j v hv => by rw [Nat.add_assoc]; exact (S.below.cell (p := ⟨b, off + (k * r.sz + j), none⟩) hhi).trans (h5 j v hv)⟩
theorem wrap_up (k : Nat) (h : k ≤ 9223372036854775806) : IntKind.i64.wrap ((k : Int) + 1) = ((k + 1 : Nat) : Int) := by rw [IntKind.wrap_i64]; omega

/-! ### Code -/
theorem C.seq {x y : Code} (h : C P n (Exit.then (fun a w => y.wp P Q a w) Q) w0 T L x) : C P n Q w0 T L (.seq x y) := fun a w hA S => wp_seq (h a w hA S)
theorem C.region {id : Nat} {l : List Oper} (h : G P n l.toArray Q w0 T L l) : C P n Q w0 T L (.region id l.toArray false) := fun a w hA S => wp_region_lit (h a w hA S)
theorem C.block {id : Nat} {c : Code} (h : C P n (Exit.inBlock id Q) w0 T L c) : C P n Q w0 T L (.block id c) := fun a w hA S => wp_block (h a w hA S)
theorem C.exit {id : Nat} (h : E n Q w0 T L (.exit id)) : C P n Q w0 T L (.exit id) := fun a w hA S => wp_exit (h a w hA S)
theorem C.ret (h : E n Q w0 T L .ret) : C P n Q w0 T L .ret := fun a w hA S => wp_ret (h a w hA S)
theorem C.skip (h : E n Q w0 T L .normal) : C P n Q w0 T L .skip := fun a w hA S => wp_skip (h a w hA S)
theorem C.yes {c : Operand} {x y : Code} (hk : known T c = true) (hc : ev T c = .bool true) (h : C P n Q w0 T L x) : C P n Q w0 T L (.cond c x y) := fun a w hA S => wp_cond_true ((hA.value hk).trans hc) (h a w hA S)
theorem C.no {c : Operand} {x y : Code} (hk : known T c = true) (hc : ev T c = .bool false) (h : C P n Q w0 T L y) : C P n Q w0 T L (.cond c x y) := fun a w hA S => wp_cond_false ((hA.value hk).trans hc) (h a w hA S)
theorem E.out {e : Exit} {a : Act} {w : World} (h : E n Q w0 T L e) (hA : Ag n T a) (S : St w0 w L) : Q e a w := h a w hA S
theorem E.next {c : Code} {P' : Program} {Q' : Exit → Act → World → Prop} (h : C P' n Q' w0 T L c) : E n (Exit.then (fun a w => c.wp P' Q' a w) Q) w0 T L .normal := h
theorem E.then_ret {N : Act → World → Prop} (h : E n Q w0 T L .ret) : E n (Exit.then N Q) w0 T L .ret := h
theorem E.then_exit {N : Act → World → Prop} {id : Nat} (h : E n Q w0 T L (.exit id)) : E n (Exit.then N Q) w0 T L (.exit id) := h
theorem E.block_ret {id : Nat} (h : E n Q w0 T L .ret) : E n (Exit.inBlock id Q) w0 T L .ret := h
theorem E.block_normal {id : Nat} (h : E n Q w0 T L .normal) : E n (Exit.inBlock id Q) w0 T L .normal := h
theorem E.block_hit {id : Nat} (h : E n Q w0 T L .normal) : E n (Exit.inBlock id Q) w0 T L (.exit id) := fun a w hA S => by
  show if id = id then Q .normal a w else Q (.exit id) a w
  rw [if_pos rfl]
  exact h a w hA S
theorem E.block_on {id id' : Nat} (hne : Nat.beq id' id = false) (h : E n Q w0 T L (.exit id')) : E n (Exit.inBlock id Q) w0 T L (.exit id') := fun a w hA S => by
  show if id' = id then Q .normal a w else Q (.exit id') a w
  rw [if_neg (fun e => by rw [e, Nat.beq_refl] at hne; cases hne)]
  exact h a w hA S
/-! ### Loops -/
noncomputable def leastOf (S : Nat → Prop) : Nat := Classical.epsilon fun m => S m ∧ ∀ k, S k → m ≤ k
theorem leastOf_spec {S : Nat → Prop} (h : ∃ m, S m) : S (leastOf S) ∧ ∀ k, S k → leastOf S ≤ k := by
  refine Classical.epsilon_spec (p := fun m => S m ∧ ∀ k, S k → m ≤ k) ?_
  obtain ⟨m, hm⟩ := h
  induction m using Nat.strongRecOn with
  | _ m ih =>
    by_cases h : ∃ k, k < m ∧ S k
    · obtain ⟨k, hk, hs⟩ := h
      exact ih k hk hs
    · exact ⟨m, hm, fun k hs => Nat.le_of_not_lt fun hk => h ⟨k, hk, hs⟩⟩
/-- What a round leaves behind. -/
def Again {α : Type} (n : Nat) (w0 : World) (p : α → Prop) (T : α → Tl) (L : α → List Res) (μ : α → Nat) (m : Nat) (a : Act) (w : World) : Prop := ∃ y, p y ∧ μ y < m ∧ Ag n (T y) a ∧ St w0 w (L y)
theorem C.loop {α : Type} {body : Code} (p : α → Prop) (T' : α → Tl) (L' : α → List Res) (μ : α → Nat) (x0 : α) (hp : p x0) (hT : ∀ a, Ag n T a → Ag n (T' x0) a) (hL : ∀ w, St w0 w L → St w0 w (L' x0))
    (round : ∀ x, p x → C P n (Exit.then (Again n w0 p T' L' μ (μ x)) Q) w0 (T' x) (L' x) body) : C P n Q w0 T L (.loop body) := fun a w hA S => by
  let I : Act → World → α → Prop := fun a w x => p x ∧ Ag n (T' x) a ∧ St w0 w (L' x)
  let M : Act → World → Nat := fun a w => leastOf fun m => ∃ x, I a w x ∧ μ x = m
  refine wp_loop (fun a w => ∃ x, I a w x) M ⟨x0, hp, hT a hA, hL w S⟩ fun a w ⟨x1, h1⟩ => ?_
  obtain ⟨⟨x, ⟨h2, h3, h4⟩, h5⟩, _⟩ := leastOf_spec (S := fun m => ∃ x, I a w x ∧ μ x = m) ⟨μ x1, x1, h1, rfl⟩
  refine wp_mono (round x h2 a w h3 h4) fun e a' w' hq => ?_
  cases e with
  | normal =>
    obtain ⟨y, hy1, hy2, hy3, hy4⟩ := hq
    refine ⟨⟨y, hy1, hy3, hy4⟩, ?_⟩
    have := (leastOf_spec (S := fun m => ∃ x, I a' w' x ∧ μ x = m) ⟨μ y, y, ⟨hy1, hy3, hy4⟩, rfl⟩).2 (μ y) ⟨y, ⟨hy1, hy3, hy4⟩, rfl⟩
    have hM : M a w = μ x := h5.symm
    show M a' w' < M a w
    rw [hM]
    exact Nat.lt_of_le_of_lt this hy2
  | _ => exact hq
theorem E.again {α : Type} {p : α → Prop} {T' : α → Tl} {L' : α → List Res} {μ : α → Nat} {m : Nat} (y : α) (hp : p y) (hμ : μ y < m) (hT : ∀ a, Ag n T a → Ag n (T' y) a) (hL : ∀ w, St w0 w L → St w0 w (L' y)) : E n (Exit.then (Again n w0 p T' L' μ m) Q) w0 T L .normal :=
  fun a w hA S => ⟨y, hp, hμ, hT a hA, hL w S⟩
/-- The function is left: its results. -/
theorem E.ret1 {fn : Func} {R : Ending → World → Prop} {t : Tmp} (v : Value) (hr : fn.results = #[.tmp t]) (ht : look T t = some v) (h : ∀ w, St w0 w L → R (.returned v) w) : E n (bodyPost P fn R) w0 T L .ret := fun a w hA S =>
  bodyPost_ret (v := v) (by rw [results_tmp hr, Array.getD_eq_getD_getElem?, hA.at_ t v ht]; rfl) hA.defers (h w S)
end

/-! ### Regions that draw their order -/
theorem St.tail {w0 w : World} {r : Res} {L : List Res} (S : St w0 w (r :: L)) : St w0 w L :=
  ⟨S.below, fun i s h => S.says (i + 1) s h, fun i s h => S.lo (i + 1) s h, fun i s h => S.hi (i + 1) s h, fun i j s t h1 h2 hne => S.apart (i + 1) (j + 1) s t h1 h2 (by omega)⟩
def GT (P : Program) (n : Nat) (ops : Array Oper) (Q : Exit → Act → World → Prop) (Z : World → Prop) (w0 : World) (T : Tl) (L : List Res) (t : Ord.Ot) : Prop := ∀ a w, Ag n T a → St w0 w L → Ord.wpOt P ops Q Z t a w
section
variable {P : Program} {n : Nat} {l : List Oper} {ops : Array Oper} {Q : Exit → Act → World → Prop} {w0 : World} {T : Tl} {L : List Res} {o : Oper} {Z : World → Prop} {t r : Ord.Ot}
theorem C.draw {id : Nat} {l : List Oper} (t : Ord.Ot) (Lz : List Res) (hZ : ∀ w, St w0 w L → St w0 w Lz) (hm : P.follows .mixedOrders = true) (hs : Region.noSelect l.toArray = true) (hB : Ord.ordT l.toArray l.toArray.size t (Array.replicate l.toArray.size false) = true)
    (h : GT P n l.toArray (NoPanic Q) (fun w => St w0 w Lz) w0 T L t) : C P n Q w0 T L (.region id l.toArray true) := fun a w hA S =>
  Ord.wp_region_tree (fun w => St w0 w Lz) t hm hs hB (hZ _ S.drew) (h a _ hA S.drew)
theorem GT.nil (k : E n Q w0 T L .normal) : GT P n ops (NoPanic Q) Z w0 T L .nil := fun a w hA S => Ord.ot_nil (k a w hA S)
theorem at_list {i : Nat} (h : l[i]? = some o) : l.toArray[i]? = some o := by simpa using h
theorem GT.pure (v : Value) (i : Nat) (ho : l[i]? = some o) (hc : chk n T l.toArray o = true) (hv : ∀ w, (execOp (ev T) o).run P w = .ok (.value v) w) (k : GT P n l.toArray Q Z w0 (up o.dst v T) L r) : GT P n l.toArray Q Z w0 T L (.take i r) := fun a w hA S => by
  have c := hA.takes hc
  exact Ord.ot_take (at_list ho) c.want (fun w' _ => by rw [c.exec]; exact hv w') (k _ _ (hA.put c.ok v) S)
theorem GT.pureq (v0 v : Value) (i : Nat) (ho : l[i]? = some o) (hc : chk n T l.toArray o = true) (hv : ∀ w, (execOp (ev T) o).run P w = .ok (.value v0) w) (he : v0 = v) (k : GT P n l.toArray Q Z w0 (up o.dst v T) L r) : GT P n l.toArray Q Z w0 T L (.take i r) := GT.pure v i ho hc (fun w => he ▸ hv w) k
theorem GT.reads (v : Value) (i : Nat) (ho : l[i]? = some o) (hc : chk n T l.toArray o = true) (hv : ∀ w, Z w → (execOp (ev T) o).run P w = .ok (.value v) w) (k : GT P n l.toArray Q Z w0 (up o.dst v T) L r) : GT P n l.toArray Q Z w0 T L (.take i r) := fun a w hA S => by
  have c := hA.takes hc
  exact Ord.ot_take (at_list ho) c.want (fun w' hZ => by rw [c.exec]; exact hv w' hZ) (k _ _ (hA.put c.ok v) S)
theorem GT.skip (i : Nat) (ho : l[i]? = some o) (hc : chkNo n T l.toArray o = true) (k : GT P n l.toArray Q Z w0 (up o.dst undef T) L r) : GT P n l.toArray Q Z w0 T L (.take i r) := fun a w hA S => by
  unfold chkNo at hc
  simp only [Bool.and_eq_true, Bool.not_eq_true'] at hc
  exact Ord.ot_skip (at_list ho) ((hA.want hc.1.1).trans hc.1.2) (k _ _ (hA.put hc.2 undef) S)
/-- A struct, or a part of one, of the claims that the region began with. -/
theorem GT.ld {L0 : List Res} (t : TypeId) (x : Operand) (b off j : Nat) (vs cs : List Value) (i : Nat) (ho : l[i]? = some o) (hop : o.op = .load t x) (hc : chk n T l.toArray o = true) (hx : ev T x = .pointer (some ⟨b, off, none⟩)) (hL : L0[j]? = some (vr b vs)) (hcs : (vs.drop off).take cs.length = cs)
    (hr : isRow P t = true) (hi : (P.info? t).map (·.size) = some cs.length) (k : GT P n l.toArray Q (fun w => St w0 w L0) w0 (up o.dst (.agg cs.toArray) T) L r) : GT P n l.toArray Q (fun w => St w0 w L0) w0 T L (.take i r) :=
  GT.reads _ i ho hc (fun w S => by
    obtain ⟨d, hu, hd⟩ := isRow_spec hr
    unfold execOp
    have h := run_loadAt_mid (P := P) w b off t cs d (fun j' v hv => S.cell j hL (off + j') (by
      rw [← hcs] at hv
      have hj : j' < cs.length := by have := (List.getElem?_eq_some_iff.1 hv).1; rw [List.length_take] at this; omega
      rwa [List.getElem?_take, if_pos hj, List.getElem?_drop] at hv)) hu hd hi
    simp only [hop, hx, Sem.run_bind, h, Sem.run_pure, Result.andThen_ok]) k
theorem GT.ld1 {L0 : List Res} (t : TypeId) (x : Operand) (b off j : Nat) (vs : List Value) (v : Value) (i : Nat) (ho : l[i]? = some o) (hop : o.op = .load t x) (hc : chk n T l.toArray o = true) (hx : ev T x = .pointer (some ⟨b, off, none⟩)) (hL : L0[j]? = some (vr b vs)) (hv : vs[off]? = some v)
    (hr : isCell P t = true) (k : GT P n l.toArray Q (fun w => St w0 w L0) w0 (up o.dst v T) L r) : GT P n l.toArray Q (fun w => St w0 w L0) w0 T L (.take i r) :=
  GT.reads v i ho hc (fun w S => by
    obtain ⟨d, hu, hd⟩ := isCell_spec hr
    unfold execOp
    have h : (Instr.loadAt t (.pointer (some ⟨b, off, none⟩))).run P w = .ok v w := by
      have hcell := S.cell j hL off hv
      have hagg : (isAgg t).run P w = .ok false w := by
        unfold isAgg
        rw [Sem.run_bind, run_underlying hu w]
        cases d <;> simp_all
      simp only [Instr.loadAt, Instr.sureAddr, loadVar, Sem.run_bind, Sem.run_pure, Result.andThen_ok, hagg, Bool.false_eq_true, if_false, run_load, hcell]
    simp only [hop, hx, Sem.run_bind, h, Sem.run_pure, Result.andThen_ok]) k
/-- What stands alone. -/
theorem ot_one {i : Nat} {a : Act} {w : World} {n : Nat} (ho : ops[i]? = some o) (hA : Ag n T a) (hc : chk n T ops o = true) (h : ∀ K' : Act → World → Prop, Shut (∀ a w, Z w → Ord.wpOt P ops Q Z r a w → K' a w) → o.upon P a K' Q ((execOp (ev T) o).run P w)) :
    ∀ K' : Act → World → Prop, Shut (∀ a w, Z w → Ord.wpOt P ops Q Z r a w → K' a w) → if Region.wanted o (yielded ops a.tmps) = true then Oper.wp P o a w K' Q else K' (a.put o.dst undef) w := fun K' hK => by
  have c := hA.takes hc
  rw [if_pos c.want]
  unfold Oper.wp
  rw [c.exec]
  exact h K' hK
def Alone (P : Program) (n : Nat) (ops : Array Oper) (Q : Exit → Act → World → Prop) (Z : World → Prop) (w0 : World) (T : Tl) (L : List Res) (i : Nat) (r : Ord.Ot) : Prop := ∀ a w, Ag n T a → St w0 w L → ∃ o, ops[i]? = some o ∧ ∀ K' : Act → World → Prop, Shut (∀ a w, Z w → Ord.wpOt P ops Q Z r a w → K' a w) → if Region.wanted o (yielded ops a.tmps) = true then Oper.wp P o a w K' Q else K' (a.put o.dst undef) w
theorem GT.alone {i : Nat} (h : Alone P n ops Q Z w0 T L i r) : GT P n ops Q Z w0 T L (.alone i r) := fun a w hA S => by
  obtain ⟨o, ho, h⟩ := h a w hA S
  exact Ord.ot_alone ho h
theorem GT.two {i j : Nat} {s : Ord.Ot} (h : Alone P n ops Q Z w0 T L i r) (h' : Alone P n ops Q Z w0 T L j s) : GT P n ops Q Z w0 T L (.two i r j s) := fun a w hA S => by
  obtain ⟨o, ho, h⟩ := h a w hA S
  obtain ⟨o', ho', h'⟩ := h' a w hA S
  exact Ord.ot_two ho ho' h h'
theorem Alone.call {i : Nat} (f : FuncId) (args : Array Value) (ho : l[i]? = some o) (hc : chk n T l.toArray o = true) (hf : ∀ w, (execOp (ev T) o).run P w = .ok (.enter f args) w)
    (h : ∀ w, St w0 w L → Calls P f args w fun e w' => ∃ v L', e = .returned v ∧ St w0 w' L' ∧ (∀ w, St w0 w L' → Z w) ∧ GT P n l.toArray Q Z w0 (up o.dst v T) L' r) : Alone P n l.toArray Q Z w0 T L i r := fun a w hA S =>
  ⟨o, at_list ho, ot_one (at_list ho) hA hc fun K' hK => by
    rw [hf w]
    refine (h w S).mono ?_
    rintro e w' ⟨v, L', rfl, h1, h2, h3⟩
    exact hK.out _ _ (h2 _ h1) (h3 _ _ (hA.put (hA.takes hc).ok v) h1)⟩
theorem Alone.plain {i : Nat} (f : FuncId) (args : Array Value) (v : Value) (ho : l[i]? = some o) (hc : chk n T l.toArray o = true) (hf : ∀ w, (execOp (ev T) o).run P w = .ok (.enter f args) w)
    (h : ∀ w, St w0 w L → Calls P f args w fun e w' => e = .returned v ∧ Below w.heap.size w w') (hz : ∀ w, St w0 w L → Z w) (k : GT P n l.toArray Q Z w0 (up o.dst v T) L r) : Alone P n l.toArray Q Z w0 T L i r :=
  Alone.call f args ho hc hf fun w S => (h w S).mono fun e w' ⟨he, hb⟩ => ⟨v, L, he, S.call hb, hz, k⟩
theorem Alone.skip {i : Nat} (ho : l[i]? = some o) (hc : chkNo n T l.toArray o = true) (hz : ∀ w, St w0 w L → Z w) (k : GT P n l.toArray Q Z w0 (up o.dst undef T) L r) : Alone P n l.toArray Q Z w0 T L i r := fun a w hA S => by
  unfold chkNo at hc
  simp only [Bool.and_eq_true, Bool.not_eq_true'] at hc
  exact ⟨o, at_list ho, fun K' hK => by
    rw [if_neg (by rw [hA.want hc.1.1, hc.1.2]; decide)]
    exact hK.out _ _ (hz w S) (k _ _ (hA.put hc.2 undef) S)⟩
theorem Alone.turns {i : Nat} (ho : l[i]? = some o) (hc : chk n T l.toArray o = true) (hv : ∀ w, St w0 w L → ∃ v w' L', (execOp (ev T) o).run P w = .ok (.value v) w' ∧ St w0 w' L' ∧ (∀ w, St w0 w L' → Z w) ∧ GT P n l.toArray Q Z w0 (up o.dst v T) L' r) : Alone P n l.toArray Q Z w0 T L i r := fun a w hA S =>
  ⟨o, at_list ho, ot_one (at_list ho) hA hc fun K' hK => by
    obtain ⟨v, w', L', h1, h2, h3, h4⟩ := hv w S
    rw [h1]
    exact hK.out _ _ (h3 _ h2) (h4 _ _ (hA.put (hA.takes hc).ok v) h2)⟩
theorem Alone.acts {i : Nat} (ho : l[i]? = some o) (hc : chk n T l.toArray o = true) (hv : ∀ w, St w0 w L → ∃ w' L', (execOp (ev T) o).run P w = .ok .skip w' ∧ St w0 w' L' ∧ (∀ w, St w0 w L' → Z w) ∧ GT P n l.toArray Q Z w0 (up o.dst undef T) L' r) : Alone P n l.toArray Q Z w0 T L i r := fun a w hA S =>
  ⟨o, at_list ho, ot_one (at_list ho) hA hc fun K' hK => by
    obtain ⟨w', L', h1, h2, h3, h4⟩ := hv w S
    rw [h1]
    exact hK.out _ _ (h3 _ h2) (h4 _ _ (hA.put (hA.takes hc).ok undef) h2)⟩
theorem Alone.reads {i : Nat} (v : Value) (ho : l[i]? = some o) (hc : chk n T l.toArray o = true) (hv : ∀ w, St w0 w L → (execOp (ev T) o).run P w = .ok (.value v) w) (hz : ∀ w, St w0 w L → Z w) (k : GT P n l.toArray Q Z w0 (up o.dst v T) L r) : Alone P n l.toArray Q Z w0 T L i r :=
  Alone.turns ho hc fun w S => ⟨v, w, L, hv w S, S, hz, k⟩
theorem Alone.ld {i : Nat} (t : TypeId) (x : Operand) (b off j : Nat) (vs cs : List Value) (ho : l[i]? = some o) (hop : o.op = .load t x) (hc : chk n T l.toArray o = true) (hx : ev T x = .pointer (some ⟨b, off, none⟩)) (hL : L[j]? = some (vr b vs)) (hcs : (vs.drop off).take cs.length = cs)
    (hr : isRow P t = true) (hi : (P.info? t).map (·.size) = some cs.length) (hz : ∀ w, St w0 w L → Z w) (k : GT P n l.toArray Q Z w0 (up o.dst (.agg cs.toArray) T) L r) : Alone P n l.toArray Q Z w0 T L i r :=
  Alone.reads _ ho hc (fun w S => by
    obtain ⟨d, hu, hd⟩ := isRow_spec hr
    unfold execOp
    have h := run_loadAt_mid (P := P) w b off t cs d (fun j' v hv => S.cell j hL (off + j') (by
      rw [← hcs] at hv
      have hj : j' < cs.length := by have := (List.getElem?_eq_some_iff.1 hv).1; rw [List.length_take] at this; omega
      rwa [List.getElem?_take, if_pos hj, List.getElem?_drop] at hv)) hu hd hi
    simp only [hop, hx, Sem.run_bind, h, Sem.run_pure, Result.andThen_ok]) hz k
theorem Alone.ld1 {i : Nat} (t : TypeId) (x : Operand) (b off j : Nat) (vs : List Value) (v : Value) (ho : l[i]? = some o) (hop : o.op = .load t x) (hc : chk n T l.toArray o = true) (hx : ev T x = .pointer (some ⟨b, off, none⟩)) (hL : L[j]? = some (vr b vs)) (hv : vs[off]? = some v)
    (hr : isCell P t = true) (hz : ∀ w, St w0 w L → Z w) (k : GT P n l.toArray Q Z w0 (up o.dst v T) L r) : Alone P n l.toArray Q Z w0 T L i r :=
  Alone.reads v ho hc (fun w S => by
    unfold execOp
    simp only [hop, hx, Sem.run_bind, run_cell hr (S.cell j hL off hv), Sem.run_pure, Result.andThen_ok]) hz k
theorem Alone.alloc {i : Nat} (t : TypeId) (z : Value) (vs : List Value) (ho : l[i]? = some o) (hop : o.op = .alloc t) (hc : chk n T l.toArray o = true) (hz : ∀ w, (zeroValue t).run P w = .ok z w) (hx : z.cells = vs.toArray) (hZ : ∀ w, St w0 w L → Z w)
    (k : ∀ b, GT P n l.toArray Q Z w0 (up o.dst (.pointer (some ⟨b, 0, none⟩)) T) (vr b vs :: L) r) : Alone P n l.toArray Q Z w0 T L i r :=
  Alone.turns ho hc fun w S => ⟨_, _, _, by
    unfold execOp
    simp only [hop, Sem.run_bind, Instr.alloc, newVar, newRow, hz, run_newObj_alloc, Sem.run_pure, Result.andThen_ok, hx], S.alloc vs t, fun w S => hZ w (St.tail S), k _⟩
theorem Alone.sto {i : Nat} (t : TypeId) (x y : Operand) (b off j : Nat) (vs us vs' : List Value) (L' : List Res) (ho : l[i]? = some o) (hop : o.op = .store t x y) (hc : chk n T l.toArray o = true) (hx : ev T x = .pointer (some ⟨b, off, none⟩)) (hy : (ev T y).cells = us.toArray) (hL : L[j]? = some (vr b vs))
    (hvs : (us.foldl (fun (p : List Value × Nat) u => (p.1.set p.2 u, p.2 + 1)) (vs, off)).1 = vs') (hL' : L.set j (vr b vs') = L') (hl : Nat.ble (off + us.length) vs.length = true) (hi : (P.info? t).map (·.size) = some us.length) (h1 : us.all (·.oneCell') = true)
    (hZ : ∀ w, St w0 w L' → Z w) (k : GT P n l.toArray Q Z w0 (up o.dst undef T) L' r) : Alone P n l.toArray Q Z w0 T L i r :=
  Alone.acts ho hc fun w S => by
    have hl' : off + us.length ≤ vs.length := Nat.le_of_ble_eq_true hl
    have ht : w.there b off us.toArray.size := fun j' hj => by
      have hj' : off + j' < vs.length := by simp at hj; omega
      exact ⟨by rw [S.cell j hL (off + j') (List.getElem?_eq_getElem hj')]; rfl, S.loose j hL (off + j') (List.getElem?_eq_getElem hj')⟩
    refine ⟨w.setCells b off us, L', ?_, ?_, hZ, k⟩
    · unfold execOp
      have hcells : (storeVar t ⟨b, off, none⟩ (ev T y)).run P w = (storeVar t ⟨b, off, none⟩ (.agg us.toArray)).run P w := by
        unfold storeVar
        rw [hy]
        rfl
      have hs := run_storeVar_mid (P := P) w b off t us.toArray ht (by simpa using hi) (by simpa using h1)
      simp only [hop, Sem.run_bind, Instr.storeAt, Instr.sureAddr, hx, Sem.run_pure, Result.andThen_ok, hcells, hs]
    · subst hvs hL'
      exact S.turn j hL (vr b _) (Only.setCells (show (vr b vs).foot b from rfl) us off w) (Var.setCells us vs off w (S.at_ j hL)) (fun k hk => .inl hk) (show w0.heap.size ≤ b from S.lo j (vr b vs) hL) (by rw [setCells_size]; have := S.hi j (vr b vs) hL; simpa [vr] using this)
theorem Alone.made {i : Nat} (e : TypeId) (vs : List Value) (m : Nat) (ho : l[i]? = some o) (hc : chk n T l.toArray o = true) (hr : ∀ w : World, (execOp (ev T) o).run P w = .ok (.value (.slice (some ⟨w.heap.size, 0, none⟩) m m)) (w.alloc (.cells vs.toArray e))) (hZ : ∀ w, St w0 w L → Z w)
    (k : ∀ b, GT P n l.toArray Q Z w0 (up o.dst (.slice (some ⟨b, 0, none⟩) m m) T) (vr b vs :: L) r) : Alone P n l.toArray Q Z w0 T L i r :=
  Alone.turns ho hc fun w S => ⟨_, _, _, hr w, S.alloc vs e, fun w S => hZ w (St.tail S), k _⟩
theorem Alone.apps {i : Nat} {α : Type} {q : Rp α} {e : TypeId} (j : Nat) {lo hi : Nat} {xs : List α} {v : Value} {F : List Nat} (hk : L[j]? = some (ow (rLst e q) lo hi xs [v] F)) {ys : List α} (zs : List α) {vx : Value} (hxs : ∀ w, St w0 w L → rdLst q w 0 w.heap.size ys [vx]) (hzz : xs ++ ys = zs) (m : Nat) (hm : zs.length = m) (hf : Flat q)
    (s x : Operand) (t : TypeId) (size bytes : Nat) (ho : l[i]? = some o) (hop : o.op = .call { callee := .builtin .append, args := #[s, x], argTypes := #[t, t] }) (hc : chk n T l.toArray o = true) (he : elemB P t e size bytes = true) (hr : q.sz = size)
    (hs : ev T s = v) (hx : ev T x = vx) (h63 : xs.length + ys.length ≤ maxLen) (hbytes : (xs.length + ys.length) * bytes ≤ 140737488355328)
    (hZ : ∀ A c F' hi', ∀ w, St w0 w (L.set j (ow (rLst e q) w0.heap.size hi' zs [.slice A m c] F')) → Z w)
    (k : ∀ A c F' hi', m ≤ c → GT P n l.toArray Q Z w0 (up o.dst (.slice A m c) T) (L.set j (ow (rLst e q) w0.heap.size hi' zs [.slice A m c] F')) r) : Alone P n l.toArray Q Z w0 T L i r :=
  Alone.turns ho hc fun w S => by
    obtain ⟨ht, hsz, y, z, hi', hz, hsize, hby, hzs⟩ := elemB_spec he
    obtain ⟨A, c, F', w', hmc, h1, h2⟩ := apps_run S j hk (hxs w S) hzz m hm hf s x t hop y z size bytes ht hi' hz hsize hby hzs hsz hr hs hx h63 hbytes
    exact ⟨_, w', _, h1, h2, hZ A c F' _, k A c F' _ hmc⟩
/-- A region's end under a name of one's own: whatever way it took, this stands. -/
theorem C.cut {c : Code} (R : Exit → Act → World → Prop) (h : C P n R w0 T L c) (k : ∀ e a w, R e a w → Q e a w) : C P n Q w0 T L c := fun a w hA S => wp_mono (h a w hA S) k
theorem Ag.none {n : Nat} {T : Tl} {a : Act} (h : Ag n T a) : Ag n [] a := ⟨h.size, h.defers, fun s v hs => by cases hs⟩
theorem Ag.and {n : Nat} {T T' : Tl} {a : Act} (h : Ag n T a) (h' : Ag n T' a) (s : Nat) (v : Value) (hv : look T s = some v) : Ag n ((s, v) :: T') a :=
  ⟨h.size, h.defers, fun q u hq => by
    simp only [look] at hq
    by_cases e : s = q
    · subst e
      rw [Nat.beq_refl, cond_true] at hq
      cases hq
      exact h.at_ s v hv
    · have hb : Nat.beq s q = false := by rw [← Bool.not_eq_true, Nat.beq_eq]; exact e
      rw [hb, cond_false] at hq
      exact h'.at_ q u hq⟩
theorem E.retc {fn : Func} {R : Ending → World → Prop} {t : Tmp} {ty : TypeId} (b i : Nat) (vs : List Value) (hr : fn.results = #[.cell t ty]) (ht : look T t = some (.pointer (some ⟨b, 0, none⟩))) (hL : L[i]? = some (vr b vs)) (hrow : isRow P ty = true) (hi : (P.info? ty).map (·.size) = some vs.length)
    (h : ∀ w, St w0 w L → R (.returned (.agg vs.toArray)) w) : E n (bodyPost P fn R) w0 T L .ret := fun a w hA S => by
  obtain ⟨d, hu, hd⟩ := isRow_spec hrow
  have hl := run_loadVar_mid (P := P) w b 0 ty vs d (S.range i hL) hu hd hi
  have hg : a.tmps[t]?.getD undef = .pointer (some ⟨b, 0, none⟩) := by rw [hA.at_ t _ ht]; rfl
  exact bodyPost_ret (v := .agg vs.toArray) (by simp [results, hr, hg, asAddr, hl]) hA.defers (h w S)
theorem E.ret2 {fn : Func} {R : Ending → World → Prop} {t u : Tmp} (v x : Value) (hr : fn.results = #[.tmp t, .tmp u]) (ht : look T t = some v) (hu : look T u = some x) (h : ∀ w, St w0 w L → R (.returned (.tuple #[v, x])) w) : E n (bodyPost P fn R) w0 T L .ret := fun a w hA S =>
  bodyPost_ret (v := .tuple #[v, x]) (by rw [results_tmp2 hr, Array.getD_eq_getD_getElem?, Array.getD_eq_getD_getElem?, hA.at_ t v ht, hA.at_ u x hu]; rfl) hA.defers (h w S)
theorem E.end_ {fn : Func} {R : Ending → World → Prop} (h : E n (bodyPost P fn R) w0 T L .ret) : E n (bodyPost P fn R) w0 T L .normal := h
end
/-- The arguments lie in the first slots. -/
def slots : Nat → List Value → Tl
  | _, [] => []
  | k, v :: r => (k, v) :: slots (k + 1) r
theorem look_slots : ∀ (l : List Value) (k s : Nat) (v : Value), look (slots k l) s = some v → k ≤ s ∧ l[s - k]? = some v
  | [], k, s, v, h => by cases h
  | u :: l, k, s, v, h => by
    simp only [slots, look] at h
    by_cases e : k = s
    · subst e
      rw [Nat.beq_refl, cond_true] at h
      cases h
      exact ⟨Nat.le_refl _, by simp⟩
    · have hb : Nat.beq k s = false := by rw [← Bool.not_eq_true, Nat.beq_eq]; exact e
      rw [hb, cond_false] at h
      obtain ⟨h1, h2⟩ := look_slots l (k + 1) s v h
      refine ⟨by omega, ?_⟩
      rw [show s - k = (s - (k + 1)) + 1 by omega, List.getElem?_cons_succ]
      exact h2
theorem enter {P : Program} {f : FuncId} {fn : Func} {c : Code} {args : List Value} {w : World} {R : Ending → World → Prop} {n : Nat} (hf : P.funcs[f]? = some fn) (hb : fn.body = some c) (hn : fn.ntmps = n) (hl : Nat.ble args.length n = true)
    (h : C P n (bodyPost P fn R) w (slots 0 args) [] c) : Calls P f args.toArray w R :=
  calls_of_wp hf hb (h _ w ⟨by
    have := Nat.le_of_ble_eq_true hl
    simp [hn]; omega, rfl, fun s v hs => by
    obtain ⟨_, h2⟩ := look_slots args 0 s v hs
    have hlt : s < args.length := by have := (List.getElem?_eq_some_iff.1 h2).1; simpa using this
    rw [Array.getElem?_append_left (by simpa using hlt)]
    simpa using h2⟩ (St.start w))
/-- A call that hands back claims of its own: its contract says 'e = .returned v ∧ St w w' M'. -/
theorem St.join {w0 w w' : World} {L M : List Res} (S : St w0 w L) (U : St w w' M) : St w0 w' (M ++ L) := by
  have T := S.call U.below
  have key : ∀ (i : Nat) (s : Res), (M ++ L)[i]? = some s → (i < M.length ∧ M[i]? = some s) ∨ (M.length ≤ i ∧ L[i - M.length]? = some s) := fun i s h => by
    by_cases hi : i < M.length
    · rw [List.getElem?_append_left hi] at h; exact .inl ⟨hi, h⟩
    · rw [List.getElem?_append_right (by omega)] at h; exact .inr ⟨by omega, h⟩
  refine ⟨T.below, fun i s h => ?_, fun i s h => ?_, fun i s h => ?_, fun i j s t h1 h2 hne k hk hk' => ?_⟩
  · rcases key i s h with ⟨_, h⟩ | ⟨_, h⟩
    · exact U.says i s h
    · exact T.says _ s h
  · rcases key i s h with ⟨_, h⟩ | ⟨_, h⟩
    · exact Nat.le_trans S.below.size (U.lo i s h)
    · exact T.lo _ s h
  · rcases key i s h with ⟨_, h⟩ | ⟨_, h⟩
    · exact U.hi i s h
    · exact T.hi _ s h
  · rcases key i s h1 with ⟨a1, h1⟩ | ⟨a1, h1⟩
    · rcases key j t h2 with ⟨a2, h2⟩ | ⟨a2, h2⟩
      · exact U.apart i j s t h1 h2 hne k hk hk'
      · have e1 := (U.footlt h1 hk).1; have e2 := (S.footlt h2 hk').2; omega
    · rcases key j t h2 with ⟨a2, h2⟩ | ⟨a2, h2⟩
      · have e1 := (U.footlt h2 hk').1; have e2 := (S.footlt h1 hk).2; omega
      · exact T.apart _ _ s t h1 h2 (by omega) k hk hk'
end Go.Proofs.Ytmiokacihcpepaa.Sx
