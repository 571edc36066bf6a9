/-
  A struct with memory of its own is appended to a list of the call's own: the list takes it over. Claims taken in another order. No statement about the project's code stands here. No condition.
-/
import Derived.Test.YtmiokacihcpepaaHole
namespace Go.Proofs.Ytmiokacihcpepaa.Sx
set_option maxRecDepth 100000
open Go.ChangeShapes Go.WideShapes Go.ChangeAt Go.RowKit Go.Deep
open Go.Proofs.Ytmiokacihcpepaa.Base Go.Proofs.Ytmiokacihcpepaa.Mem Go.Proofs.Ytmiokacihcpepaa.Data Go.Proofs.Ytmiokacihcpepaa.Stt
set_option linter.unusedVariables false
set_option linter.unusedSimpArgs false
section
variable {α : Type} {r : Rp α} {P : Program} {n : Nat} {ops : Array Oper} {Q : Exit → Act → World → Prop} {Z : World → Prop} {w0 : World} {T : Tl} {L L' : List Res} {rest : List Oper} {l : List Oper} {o : Oper} {t : Ord.Ot} {w : World}
theorem G.claims (h : ∀ w, St w0 w L → St w0 w L') (k : G P n ops Q w0 T L' rest) : G P n ops Q w0 T L rest := fun a w hA S => k a w hA (h w S)
theorem GT.claims (h : ∀ w, St w0 w L → St w0 w L') (k : GT P n ops Q Z w0 T L' t) : GT P n ops Q Z w0 T L t := fun a w hA S => k a w hA (h w S)
theorem Alone.claims {i : Nat} (h : ∀ w, St w0 w L → St w0 w L') (k : Alone P n ops Q Z w0 T L' i t) : Alone P n ops Q Z w0 T L i t := fun a w hA S => k a w hA (h w S)
theorem C.claims {c : Code} (h : ∀ w, St w0 w L → St w0 w L') (k : C P n Q w0 T L' c) : C P n Q w0 T L c := fun a w hA S => k a w hA (h w S)
theorem G.turn {ι : Type} {p : ι → Prop} (L' : ι → List Res) (h : ∀ w, St w0 w L → ∃ x, p x ∧ St w0 w (L' x)) (k : ∀ x, p x → G P n ops Q w0 T (L' x) rest) : G P n ops Q w0 T L rest := fun a w hA S => by
  obtain ⟨x, hp, S'⟩ := h w S
  exact k x hp a w hA S'
theorem GT.turn {ι : Type} {p : ι → Prop} (L' : ι → List Res) (h : ∀ w, St w0 w L → ∃ x, p x ∧ St w0 w (L' x)) (k : ∀ x, p x → GT P n ops Q Z w0 T (L' x) t) : GT P n ops Q Z w0 T L t := fun a w hA S => by
  obtain ⟨x, hp, S'⟩ := h w S
  exact k x hp a w hA S'
theorem G.know {p : Prop} (h : ∀ w, St w0 w L → p) (k : p → G P n ops Q w0 T L rest) : G P n ops Q w0 T L rest := fun a w hA S => k (h w S) a w hA S
theorem GT.know {p : Prop} (h : ∀ w, St w0 w L → p) (k : p → GT P n ops Q Z w0 T L t) : GT P n ops Q Z w0 T L t := fun a w hA S => k (h w S) a w hA S
theorem Alone.fresh {β : Type} {i : Nat} (e : TypeId) (q : Rp β) (ho : l[i]? = some o) (hc : chk n T l.toArray o = true) (hr : ∀ w : World, (execOp (ev T) o).run P w = .ok (.value (.slice (some ⟨w.heap.size, 0, none⟩) 0 0)) (w.alloc (.cells #[] e))) (hZ : ∀ w, St w0 w L → Z w)
    (k : ∀ b hi, GT P n l.toArray Q Z w0 (up o.dst (.slice (some ⟨b, 0, none⟩) 0 0) T) (ow (rLst e q) b hi [] [.slice (some ⟨b, 0, none⟩) 0 0] [b] :: L) t) : Alone P n l.toArray Q Z w0 T L i t :=
  Alone.turns ho hc fun w S => ⟨_, _, _, hr w, S.fresh e q, fun w S => hZ w (St.tail S), k _ _⟩
theorem appr_run {e : TypeId} {ρ : Operand → Value} {lo hi lo2 hi2 : Nat} {xs : List α} {v : Value} {F F2 : List Nat} {y : α} {cs : List Value} {bn : Nat} {M : List Res}
    (S : St w0 w (ow (rLst e r) lo hi xs [v] F :: ow r lo2 hi2 y cs F2 :: vr bn cs :: M)) (s x : Operand) (ty : TypeId) (ho : o.op = .call { callee := .builtin .append, args := #[s, x], argTypes := #[ty, ty] })
    (i : TypeInfo) (z : Value) (size bytes : Nat) (ht : P.underlying ty = some (.slice e)) (hi' : P.info? e = some i) (hz : i.zero = some z) (hsize : i.size = size) (hby : i.bytes = bytes) (hzs : z.cells.size = size) (hsz : 0 < size) (hr : r.sz = size)
    (hs : ρ s = v) (c : Nat) (hx : ρ x = .slice (some ⟨bn, 0, none⟩) 1 c) (h1 : cs.all (·.oneCell') = true) (h63 : xs.length + 1 ≤ maxLen) (hbytes : (xs.length + 1) * bytes ≤ 140737488355328) :
    ∃ A c F' w', xs.length + 1 ≤ c ∧ (execOp ρ o).run P w = .ok (.value (.slice A (xs.length + 1) c)) w' ∧ St w0 w' (ow (rLst e r) w0.heap.size w'.heap.size (xs ++ [y]) [.slice A (xs.length + 1) c] F' :: M) := by
  obtain ⟨⟨v', ds0, F1, e1, hF, hall, hrow, hhi⟩, hnd⟩ := S.at_ 0 rfl
  cases e1
  have hlo' : w0.heap.size ≤ lo := S.lo 0 _ rfl
  have hhi' : hi ≤ w.heap.size := S.hi 0 _ rfl
  have hlo2 : w0.heap.size ≤ lo2 := S.lo 1 _ rfl
  have hhi2 : hi2 ≤ w.heap.size := S.hi 1 _ rfl
  obtain ⟨hy, hG⟩ := S.at_ 1 rfl
  have hV := S.at_ 2 rfl
  have hlen : cs.length = 1 * r.sz := by rw [Nat.one_mul]; exact r.len (r.reads hy)
  have hFG := S.disj 0 1 rfl rfl (by decide)
  subst hr
  obtain ⟨v', w', hrun, hown, hgr, hat⟩ := run_app (P := P) w w0.heap.size ty o.type e i z r.sz bytes ht hi' hz hsize hby hzs hsz v xs.length ds0 (ownsRow_low hrow hlo') (some ⟨bn, 0, none⟩) 1 c cs hlen (fun q u hu => ⟨_, rfl, by rw [Addr.add_lit, Nat.zero_add]; exact hV.cell q hu⟩) (fun u hu => List.all_eq_true.1 h1 u hu) h63 hbytes S.below.size
  have hx1 : (execOp ρ o).run P w = .ok (.value v') w' := by
    unfold execOp
    simp only [ho, resolve, invoke, builtin, Sem.run_bind, Sem.run_pure, Result.andThen_ok, List.map_toArray, List.map_cons, List.map_nil, hs, hx, hrun]
  have hcl := app_claim (b0 := w0.heap.size) hnd hlo' hhi' hF hall hrow (ownAll_one hy) hG hFG hlo2 hhi2 hown hgr hat
  obtain ⟨A', c', rfl, hc'⟩ := row_form hown
  have hfoot : ∀ q, v.ownBlock = some q → (ow (rLst e r) lo hi xs [v] F).foot q := fun q hq => ⟨by rw [hF]; simp [hq], (hrow.lt q hq).1, hhi q hq⟩
  let big : Res := ⟨fun _ => True, fun q => (ow (rLst e r) lo hi xs [v] F).foot q ∨ (ow r lo2 hi2 y cs F2).foot q, w0.heap.size, w.heap.size, fun q hq => by
    rcases hq with hq | hq
    · exact S.footlt (i := 0) rfl hq
    · exact S.footlt (i := 1) rfl hq, fun _ _ => trivial⟩
  have S1 : St w0 w (big :: vr bn cs :: M) := St.merge (rs := [_, _]) S big trivial (fun q hq => hq.elim (fun h => ⟨_, List.mem_cons_self, h⟩) (fun h => ⟨_, List.mem_cons_of_mem _ List.mem_cons_self, h⟩)) (Nat.le_refl _) (Nat.le_refl _)
  have S2 := S1.turn 0 rfl (ow (rLst e r) w0.heap.size w'.heap.size (xs ++ [y]) [.slice A' (xs.length + 1) c'] ((Value.slice A' (xs.length + 1) c').ownBlock.toList ++ (F1 ++ F2))) (Only.of_grown hgr fun q hq => .inl (hfoot q hq)) hcl (fun q hq => by
    obtain ⟨hq, _, hq2⟩ := hq
    rcases List.mem_append.1 hq with hq | hq
    · have hq' : (Value.slice A' (xs.length + 1) c').ownBlock = some q := by simpa using hq
      rcases hat with h5 | h5
      · exact .inl (.inl (hfoot q (h5.symm.trans hq')))
      · have h6 := h5.symm.trans hq'
        cases h6; right; exact Nat.le_refl _
    · rcases List.mem_append.1 hq with hq | hq
      · have := ownAll_inF hall q hq
        exact .inl (.inl ⟨by rw [hF]; simp [hq], this⟩)
      · have := r.inF hy q hq
        exact .inl (.inr ⟨hq, this⟩)) (Nat.le_refl _) (Nat.le_refl _)
  exact ⟨A', c', _, w', hc', hx1, St.tail (St.front S2 1 rfl)⟩
theorem G.appr {e : TypeId} {lo hi lo2 hi2 : Nat} {xs : List α} {v : Value} {F F2 : List Nat} {y : α} {cs : List Value} {bn : Nat} {M : List Res} (s x : Operand) (ty : TypeId) (size bytes c : Nat) (hop : o.op = .call { callee := .builtin .append, args := #[s, x], argTypes := #[ty, ty] })
    (hc : chk n T ops o = true) (he : elemB P ty e size bytes = true) (hr : r.sz = size) (hs : ev T s = v) (hx : ev T x = .slice (some ⟨bn, 0, none⟩) 1 c) (h1 : cs.all (·.oneCell') = true) (h63 : xs.length + 1 ≤ maxLen) (hbytes : (xs.length + 1) * bytes ≤ 140737488355328)
    (zs : List α) (hzz : xs ++ [y] = zs) (m : Nat) (hm : xs.length + 1 = m)
    (k : ∀ A c F' hi', m ≤ c → G P n ops Q w0 (up o.dst (.slice A m c) T) (ow (rLst e r) w0.heap.size hi' zs [.slice A m c] F' :: M) rest) :
    G P n ops Q w0 T (ow (rLst e r) lo hi xs [v] F :: ow r lo2 hi2 y cs F2 :: vr bn cs :: M) (o :: rest) :=
  G.turns hc fun w S => by
    subst hzz hm
    obtain ⟨ht, hsz, i, z, hi', hz, hsize, hby, hzs⟩ := elemB_spec he
    obtain ⟨A, c', F', w', h2, h3, h4⟩ := appr_run (P := P) (o := o) (ρ := ev T) S s x ty hop i z size bytes ht hi' hz hsize hby hzs hsz hr hs c hx h1 h63 hbytes
    exact ⟨_, w', _, h3, h4, k A c' F' _ h2⟩
theorem Alone.appr {j : Nat} {e : TypeId} {lo hi lo2 hi2 : Nat} {xs : List α} {v : Value} {F F2 : List Nat} {y : α} {cs : List Value} {bn : Nat} {M : List Res} (s x : Operand) (ty : TypeId) (size bytes c : Nat) (hj : l[j]? = some o) (hop : o.op = .call { callee := .builtin .append, args := #[s, x], argTypes := #[ty, ty] })
    (hc : chk n T l.toArray o = true) (he : elemB P ty e size bytes = true) (hr : r.sz = size) (hs : ev T s = v) (hx : ev T x = .slice (some ⟨bn, 0, none⟩) 1 c) (h1 : cs.all (·.oneCell') = true) (h63 : xs.length + 1 ≤ maxLen) (hbytes : (xs.length + 1) * bytes ≤ 140737488355328)
    (zs : List α) (hzz : xs ++ [y] = zs) (m : Nat) (hm : xs.length + 1 = m) (hZ : ∀ A c F' hi' w, St w0 w (ow (rLst e r) w0.heap.size hi' zs [.slice A m c] F' :: M) → Z w)
    (k : ∀ A c F' hi', m ≤ c → GT P n l.toArray Q Z w0 (up o.dst (.slice A m c) T) (ow (rLst e r) w0.heap.size hi' zs [.slice A m c] F' :: M) t) :
    Alone P n l.toArray Q Z w0 T (ow (rLst e r) lo hi xs [v] F :: ow r lo2 hi2 y cs F2 :: vr bn cs :: M) j t :=
  Alone.turns hj hc fun w S => by
    subst hzz hm
    obtain ⟨ht, hsz, i, z, hi', hz, hsize, hby, hzs⟩ := elemB_spec he
    obtain ⟨A, c', F', w', h2, h3, h4⟩ := appr_run (P := P) (o := o) (ρ := ev T) S s x ty hop i z size bytes ht hi' hz hsize hby hzs hsz hr hs c hx h1 h63 hbytes
    exact ⟨_, w', _, h3, h4, fun w S => hZ A c' F' _ w S, k A c' F' _ h2⟩
theorem Alone.hsto {j' : Nat} {off lo hi k size : Nat} {pre post : List α} {es : List Value} {F1 F2 : List Nat} (ty : TypeId) (x y : Operand) (b p j i : Nat) (us es' : List Value) (L' : List Res) (ho : l[j']? = some o) (hop : o.op = .store ty x y) (hc : chk n T l.toArray o = true) (hx : ev T x = .pointer (some ⟨b, p, none⟩)) (hy : (ev T y).cells = us.toArray) (hL : L[i]? = some (hole r b off lo hi pre post es F1 F2)) (hk : pre.length = k) (hz : r.sz = size) (hp : p = off + k * size + j)
    (hes : (us.foldl (fun (p : List Value × Nat) u => (p.1.set p.2 u, p.2 + 1)) (es, j)).1 = es') (hL' : L.set i (hole r b off lo hi pre post es' F1 F2) = L') (hl : Nat.ble (j + us.length) es.length = true) (hi' : (P.info? ty).map (·.size) = some us.length) (h1 : us.all (·.oneCell') = true)
    (hZ : ∀ w, St w0 w L' → Z w) (kk : GT P n l.toArray Q Z w0 (up o.dst undef T) L' t) : Alone P n l.toArray Q Z w0 T L j' t :=
  Alone.acts ho hc fun w S => by
    have hl' : j + us.length ≤ es.length := Nat.le_of_ble_eq_true hl
    have ht : w.there b p us.toArray.size := fun q hq => by
      have hq' : j + q < es.length := by simp at hq; omega
      have := hole_cell (S.at_ i hL) hk hz (j + q) (List.getElem?_eq_getElem hq')
      rw [← Nat.add_assoc, ← hp] at this
      exact ⟨by rw [this.1]; rfl, this.2⟩
    refine ⟨w.setCells b p us, L', ?_, ?_, hZ, kk⟩
    · unfold execOp
      have hcells : (storeVar ty ⟨b, p, none⟩ (ev T y)).run P w = (storeVar ty ⟨b, p, none⟩ (.agg us.toArray)).run P w := by
        unfold storeVar
        rw [hy]
        rfl
      have hs := run_storeVar_mid (P := P) w b p ty us.toArray ht (by simpa using hi') (by simpa using h1)
      simp only [hop, Sem.run_bind, Instr.storeAt, Instr.sureAddr, hx, Sem.run_pure, Result.andThen_ok, hcells, hs]
    · subst hL' hp
      exact St.holeSets S i hL hk hz j us es' hes hl'
/-- The empty list, as a row that begins nowhere. -/
theorem St.nil0 (S : St w0 w L) (e : TypeId) (r : Rp α) : St w0 w (ow (rLst e r) w0.heap.size w0.heap.size [] [.slice none 0 0] [] :: L) :=
  (St.nil S e r).turn 0 rfl (ow (rLst e r) w0.heap.size w0.heap.size [] [.slice none 0 0] []) (Only.refl _ _) ⟨⟨.slice none 0 0, [], [], rfl, rfl, ⟨rfl, rfl⟩, World.ownsRow_nil _ _ _ _, fun k hk => by cases hk⟩, by simp⟩ (fun k hk => absurd hk.1 (by simp)) (Nat.le_refl _) S.below.size
/-- A list of plain values is written down: a row of the call's own. -/
theorem G.rowm {e : TypeId} (hf : Flat r) (xs : List α) (vs : List Value) (m : Nat) (hc : chk n T ops o = true) (hr : ∀ w : World, (execOp (ev T) o).run P w = .ok (.value (.slice (some ⟨w.heap.size, 0, none⟩) m m)) (w.alloc (.cells vs.toArray e))) (hrd : ∀ w lo hi, rdAll r w lo hi xs vs) (hm : xs.length = m) (hmax : m ≤ maxLen)
    (k : ∀ b hi, G P n ops Q w0 (up o.dst (.slice (some ⟨b, 0, none⟩) m m) T) (ow (rLst e r) b hi xs [.slice (some ⟨b, 0, none⟩) m m] [b] :: L) rest) : G P n ops Q w0 T L (o :: rest) :=
  G.turns hc fun w S => by
    have hlen : vs.length = m * r.sz := by rw [rdAll_len (hrd w 0 0), hm]
    have hb : Below w.heap.size w (w.alloc (.cells vs.toArray e)) := (Below.refl _ _).alloc (Nat.le_refl _) _
    have hrow : (w.alloc (.cells vs.toArray e)).ownsRow w.heap.size e r.sz (.slice (some ⟨w.heap.size, 0, none⟩) m m) m vs := ⟨hlen, .inr ⟨w.heap.size, m, vs.toArray, rfl, Nat.le_refl _, heap_alloc_new w _, Nat.le_refl _, hmax, by simpa using hlen, by simp [← hlen]⟩⟩
    refine ⟨_, _, _, hr w, S.add hb (ow (rLst e r) w.heap.size (w.alloc (.cells vs.toArray e)).heap.size xs [.slice (some ⟨w.heap.size, 0, none⟩) m m] [w.heap.size]) ⟨⟨_, vs, [], rfl, rfl, flat_all hf _ _ _ (hrd w 0 0), by rw [hm]; exact hrow, fun q hq => ?_⟩, by simp⟩ (Nat.le_refl _) (Nat.le_refl _), k _ _⟩
    cases hq
    simp
end
end Go.Proofs.Ytmiokacihcpepaa.Sx
