/-
  Operations at what a call holds: whole structs loaded and stored, one element appended. No statement about the program stands here. No condition.
-/
import Derived.Test.YtmiokacihcpepaaSt
import Derived.Deep.MidRow
import Derived.Deep.AppendLies
import Derived.Test.YtmiokacihcpepaaAppend
namespace Go.Proofs.Ytmiokacihcpepaa.Stt
set_option maxRecDepth 100000
open Go.ChangeShapes Go.WideShapes Go.ChangeAt Go.RowKit Go.Deep
open Go.Proofs.Ytmiokacihcpepaa.Base Go.Proofs.Ytmiokacihcpepaa.Mem Go.Proofs.Ytmiokacihcpepaa.Data
set_option linter.unusedVariables false

section
variable {P : Program} {w0 w w' : World} {L : List Res}
/-- A struct, or a part of one, is loaded. -/
theorem wpList_ld {ops : Array Oper} {rest : List Oper} {op : Oper} {a : Act} {Q : Exit → Act → World → Prop} (S : St w0 w L) (i : Nat) {b : Nat} {vs : List Value} (h : L[i]? = some (vr b vs)) (off n : Nat) (cs : List Value)
    (hcs : (vs.drop off).take n = cs) (hgd : op.guard = none) (ty : TypeId) (x : Operand) (ho : op.op = .load ty x) (hx : a.eval x = .pointer (some ⟨b, off, none⟩)) (d : TypeDesc) (hu : P.underlying ty = some d) (hd : d.isRow = true)
    (hi : (P.info? ty).map (·.size) = some cs.length) (hK : wpList P ops Q rest (a.put op.dst (.agg cs.toArray)) w) : wpList P ops Q (op :: rest) a w :=
  wpList_load_mid hgd ty x ho b off hx cs d (fun j v hv => by
    subst hcs
    have hj : j < n := by have := (List.getElem?_eq_some_iff.1 hv).1; rw [List.length_take] at this; omega
    rw [List.getElem?_take, if_pos hj, List.getElem?_drop] at hv
    exact S.cell i h (off + j) hv) hu hd hi hK
theorem Var.setCells {b : Nat} : ∀ (us vs : List Value) (o : Nat) (w : World), Var w b vs → Var (w.setCells b o us) b (us.foldl (fun (p : List Value × Nat) u => (p.1.set p.2 u, p.2 + 1)) (vs, o)).1
  | [], vs, o, w, h => h
  | u :: us, vs, o, w, h => by
    rw [World.setCells, List.foldl_cons]
    exact Var.setCells us (vs.set o u) (o + 1) _ (h.set o u)
theorem Only.setCells {f : Nat → Prop} {b : Nat} (hf : f b) : ∀ (us : List Value) (o : Nat) (w : World), Only f w (w.setCells b o us)
  | [], o, w => Only.refl _ _
  | u :: us, o, w => by
    rw [World.setCells]
    exact (Only.set w hf o u).trans (Only.setCells hf us (o + 1) _)
theorem setCells_size {b : Nat} : ∀ (us : List Value) (o : Nat) (w : World), (w.setCells b o us).heap.size = w.heap.size
  | [], o, w => rfl
  | u :: us, o, w => by rw [World.setCells, setCells_size us]; simp
/-- A struct, or a part of one, is stored into a variable: the world behind it is any that holds the rest. -/
theorem wpList_sto {ops : Array Oper} {rest : List Oper} {op : Oper} {a : Act} {Q : Exit → Act → World → Prop} (S : St w0 w L) (i : Nat) {b : Nat} {vs : List Value} (h : L[i]? = some (vr b vs)) (off : Nat) (us : List Value) (vs' : List Value) (L' : List Res)
    (hvs : (us.foldl (fun (p : List Value × Nat) u => (p.1.set p.2 u, p.2 + 1)) (vs, off)).1 = vs') (hL : L.set i (vr b vs') = L') (hl : off + us.length ≤ vs.length) (hgd : op.guard = none) (ty : TypeId) (x y : Operand) (ho : op.op = .store ty x y) (hx : a.eval x = .pointer (some ⟨b, off, none⟩)) (hy : a.eval y = .agg us.toArray)
    (hi : (P.info? ty).map (·.size) = some us.length) (h1 : us.all (·.oneCell') = true) (hK : ∀ w', St w0 w' L' → wpList P ops Q rest (a.put op.dst undef) w') : wpList P ops Q (op :: rest) a w :=
  wpList_store_mid hgd ty x y ho b off us.toArray hx hy (fun j hj => by
    have hj' : off + j < vs.length := by simp at hj; omega
    exact ⟨by rw [S.cell i h (off + j) (List.getElem?_eq_getElem hj')]; rfl, S.loose i h (off + j) (List.getElem?_eq_getElem hj')⟩) (by simpa using hi) (by simpa using h1) (by
    subst hvs hL
    exact hK _ (S.turn i h (vr b _) (Only.setCells (show (vr b vs).foot b from rfl) us off w) (Var.setCells us vs off w (S.at_ i h)) (fun k hk => .inl hk) (show w0.heap.size ≤ b from S.lo i (vr b vs) h) (by rw [setCells_size]; have := S.hi i (vr b vs) h; simpa [vr] using this)))

/-- Values that are cells and no more. -/
structure Flat {α : Type} (r : Rp α) : Prop where
  own : ∀ {w : World} {lo hi : Nat} {x : α} {cs : List Value} (w' : World) (lo' hi' : Nat), r.rd w lo hi x cs → r.own w' lo' hi' x cs []
  one : ∀ {w : World} {lo hi : Nat} {x : α} {cs : List Value}, r.rd w lo hi x cs → ∀ u ∈ cs, u.oneCell' = true
theorem flat_int : Flat rInt := ⟨fun w' lo' hi' h => ⟨h, rfl⟩, fun h u hu => by rw [show _ = _ from h] at hu; simp at hu; subst hu; rfl⟩
theorem flat_bool : Flat rBool := ⟨fun w' lo' hi' h => ⟨h, rfl⟩, fun h u hu => by rw [show _ = _ from h] at hu; simp at hu; subst hu; rfl⟩
theorem flat_pair {α β : Type} {r : Rp α} {q : Rp β} (hr : Flat r) (hq : Flat q) : Flat (rPair r q) :=
  ⟨fun w' lo' hi' h => by
    obtain ⟨c1, c2, e, h1, h2⟩ := h
    exact ⟨c1, c2, [], [], e, rfl, hr.own w' lo' hi' h1, hq.own w' lo' hi' h2⟩, fun h u hu => by
    obtain ⟨c1, c2, e, h1, h2⟩ := h
    rw [e] at hu
    exact (List.mem_append.1 hu).elim (hr.one h1 u) (hq.one h2 u)⟩
theorem flat_P2 : Flat (rPair rInt rInt) := flat_pair flat_int flat_int
theorem flat_all {α : Type} {r : Rp α} (hf : Flat r) {w : World} {lo hi : Nat} (w' : World) (lo' hi' : Nat) : ∀ {xs : List α} {ds : List Value}, rdAll r w lo hi xs ds → ownAll r w' lo' hi' xs ds []
  | [], ds, h => ⟨h, rfl⟩
  | x :: xs, ds, h => by
    obtain ⟨c1, c2, e, h1, h2⟩ := h
    exact ⟨c1, c2, [], [], e, rfl, hf.own w' lo' hi' h1, flat_all hf w' lo' hi' h2⟩
theorem flat_ones {α : Type} {r : Rp α} (hf : Flat r) {w : World} {lo hi : Nat} : ∀ {xs : List α} {ds : List Value}, rdAll r w lo hi xs ds → ∀ u ∈ ds, u.oneCell' = true
  | [], ds, h, u, hu => by rw [show ds = [] from h] at hu; cases hu
  | x :: xs, ds, h, u, hu => by
    obtain ⟨c1, c2, e, h1, h2⟩ := h
    rw [e] at hu
    exact (List.mem_append.1 hu).elim (hf.one h1 u) (flat_ones hf h2 u)
/-- A fresh slice without an element. -/
theorem St.fresh {α : Type} (S : St w0 w L) (e : TypeId) (r : Rp α) : St w0 (w.alloc (.cells #[] e)) (ow (rLst e r) w.heap.size (w.alloc (.cells #[] e)).heap.size [] [.slice (some ⟨w.heap.size, 0, none⟩) 0 0] [w.heap.size] :: L) :=
  S.add ((Below.refl _ _).alloc (Nat.le_refl _) _) _ ⟨⟨_, [], [], rfl, rfl, ⟨rfl, rfl⟩, World.ownsRow_made w #[] 0 (Nat.le_refl _) (Nat.zero_le _) (by simp), fun k hk => by cases hk; simp⟩, by simp⟩ (Nat.le_refl _) (Nat.le_refl _)
/-- 'append' onto a row of the call's own, from whatever source (nil, empty or not). -/
theorem run_app (w : World) (base : Nat) (t ty e : TypeId) (i : TypeInfo) (z : Value) (size bytes : Nat) (ht : P.underlying t = some (.slice e)) (hi : P.info? e = some i) (hz : i.zero = some z)
    (hsize : i.size = size) (hby : i.bytes = bytes) (hzs : z.cells.size = size) (hsz : 0 < size) (v : Value) (n : Nat) (xs : List Value) (hown : w.ownsRow base e size v n xs)
    (A : Option Addr) (m c : Nat) (news : List Value) (hl : news.length = m * size) (hsrc : ∀ j u, news[j]? = some u → ∃ ad, A = some ad ∧ w.cell? (ad.add j) = some u) (h1 : ∀ u ∈ news, u.oneCell' = true)
    (h63 : n + m ≤ maxLen) (hbytes : (n + m) * bytes ≤ 140737488355328) (hbase : base ≤ w.heap.size) :
    ∃ v' w', (Builtin.append_ #[t, t] ty #[v, .slice A m c]).run P w = .ok v' w' ∧ w'.ownsRow base e size v' (n + m) (xs ++ news) ∧ w.grownBy w' v.ownBlock ∧ (v'.ownBlock = v.ownBlock ∨ v'.ownBlock = some w.heap.size) := by
  rcases A with _ | ad
  · have hn : news = [] := by
      rcases news with _ | ⟨u, r⟩
      · rfl
      · obtain ⟨ad, h, _⟩ := hsrc 0 u rfl
        cases h
    subst hn
    have hm : m = 0 := by
      rcases Nat.eq_zero_or_pos m with h | h
      · exact h
      · have := Nat.mul_pos h hsz
        simp at hl
        omega
    subst hm
    obtain ⟨A', c', rfl, hc⟩ := row_form hown
    refine ⟨_, w, ?_, by simpa using hown, World.grownBy.refl w _, .inl rfl⟩
    simp [Builtin.append_, run_underlying ht, sizeOf, typeInfo, hi, Builtin.lenOf, Builtin.firstCells, storeCells, hc]
    cases A' <;> rfl
  · obtain ⟨v', w', hr, h2, h3, _, h5⟩ := run_append_own_at (P := P) w base t ty e i z size bytes ht hi hz hsize hby hzs hsz v n xs hown ad m c news hl
      (fun j u hu => by
        obtain ⟨ad', h, hc⟩ := hsrc j u hu
        cases h
        exact hc) h1 h63 hbytes hbase
    exact ⟨v', w', hr, h2, h3, h5⟩
/-- What an append leaves, as a claim: the old elements' memory and that of the new ones (G) is as it was. -/
theorem app_claim {α : Type} {r : Rp α} {e : TypeId} {w w' : World} {b0 lo hi : Nat} {xs ys : List α} {v v' : Value} {F G : List Nat} {news : List Value} (hnd : F.Nodup) (hb : b0 ≤ lo) (hb2 : hi ≤ w.heap.size)
    {ds : List Value} {F1 : List Nat} (hF : F = v.ownBlock.toList ++ F1) (hall : ownAll r w lo hi xs ds F1) (hrow : w.ownsRow lo e r.sz v xs.length ds)
    {lo2 hi2 : Nat} (hnew : ownAll r w lo2 hi2 ys news G) (hG : G.Nodup) (hFG : ∀ q ∈ F, q ∉ G) (hb3 : b0 ≤ lo2) (hb4 : hi2 ≤ w.heap.size)
    (hown : w'.ownsRow b0 e r.sz v' (xs.length + ys.length) (ds ++ news)) (hgr : w.grownBy w' v.ownBlock) (hat : v'.ownBlock = v.ownBlock ∨ v'.ownBlock = some w.heap.size) :
    (rLst e r).own w' b0 w'.heap.size (xs ++ ys) [v'] (v'.ownBlock.toList ++ (F1 ++ G)) ∧ (v'.ownBlock.toList ++ (F1 ++ G)).Nodup := by
  subst hF
  obtain ⟨_, n1, n2⟩ := List.nodup_append.1 hnd
  have hF1 : ∀ q ∈ F1, lo ≤ q ∧ q < hi := fun q hq => ownAll_inF hall q hq
  have hG1 : ∀ q ∈ G, lo2 ≤ q ∧ q < hi2 := fun q hq => ownAll_inF hnew q hq
  have k1 : ∀ q ∈ F1, w'.heap[q]? = w.heap[q]? := fun q hq => hgr.block q (by have := hF1 q hq; omega) (fun e => n2 q (by simp [← e]) q hq rfl)
  have k2 : ∀ q ∈ G, w'.heap[q]? = w.heap[q]? := fun q hq => hgr.block q (by have := hG1 q hq; omega) (fun e => hFG q (by simp [← e]) hq)
  refine ⟨⟨v', ds ++ news, F1 ++ G, rfl, rfl, ownAll_append (ownAll_wide hb (Nat.le_trans hb2 hgr.size) (ownAll_kept hall k1)) (ownAll_wide hb3 (Nat.le_trans hb4 hgr.size) (ownAll_kept hnew k2)), by simpa using hown, fun q hq => (hown.lt q hq).2⟩, nodup_app ?_ (nodup_app n1 hG fun q hq => hFG q (by simp [hq])) fun q hq => ?_⟩
  · cases v'.ownBlock <;> simp
  · have hq' : v'.ownBlock = some q := by simpa using hq
    rcases hat with h | h
    · rw [h] at hq'
      exact not_app (fun h' => n2 q (by simp [hq']) q h' rfl) (hFG q (by simp [hq']))
    · rw [h] at hq'
      cases hq'
      exact not_app (fun h' => by have := hF1 _ h'; omega) (fun h' => by have := hG1 _ h'; omega)
/-- 'append(x, ys...)' where the call holds x and the ys are plain values; with no x: a copy. -/
theorem wpList_apps {α : Type} {r : Rp α} {e : TypeId} {ops : Array Oper} {rest : List Oper} {o : Oper} {a : Act} {Q : Exit → Act → World → Prop} (S : St w0 w L) (k : Nat) {lo hi : Nat} {xs : List α} {v : Value} {F : List Nat} (hk : L[k]? = some (ow (rLst e r) lo hi xs [v] F))
    {ys zs : List α} {vx : Value} (hxs : rdLst r w 0 w.heap.size ys [vx]) (hzz : xs ++ ys = zs) (m : Nat) (hm : zs.length = m) (hf : Flat r)
    (hgd : o.guard = none) (s x : Operand) (t : TypeId) (ho : o.op = .call { callee := .builtin .append, args := #[s, x], argTypes := #[t, t] })
    (i : TypeInfo) (z : Value) (size bytes : Nat) (ht : P.underlying t = some (.slice e)) (hi' : P.info? e = some i) (hz : i.zero = some z) (hsize : i.size = size) (hby : i.bytes = bytes) (hzs : z.cells.size = size) (hsz : 0 < size) (hr : r.sz = size)
    (hs : a.eval s = v) (hx : a.eval x = vx) (h63 : xs.length + ys.length ≤ maxLen) (hbytes : (xs.length + ys.length) * bytes ≤ 140737488355328)
    (h : ∀ A c F' w', m ≤ c → St w0 w' (L.set k (ow (rLst e r) w0.heap.size w'.heap.size zs [.slice A m c] F')) → wpList P ops Q rest (a.put o.dst (.slice A m c)) w') : wpList P ops Q (o :: rest) a w := by
  subst hm
  obtain ⟨⟨v', ds0, F1, e1, hF, hall, hrow, hhi⟩, hnd⟩ := S.at_ k hk
  cases e1
  have hlo' : w0.heap.size ≤ lo := S.lo k _ hk
  have hhi' : hi ≤ w.heap.size := S.hi k _ hk
  obtain ⟨A, c, ds, e2, hc, hrd, hl⟩ := hxs
  cases e2
  have hlen := rdAll_len hrd
  subst hr hzz
  refine wpList_plain hgd fun K hK => ?_
  obtain ⟨v', w', hrun, hown, hgr, hat⟩ := run_app (P := P) w w0.heap.size t o.type e i z r.sz bytes ht hi' hz hsize hby hzs hsz v xs.length ds0 (ownsRow_low hrow hlo') A ys.length c ds hlen (fun j u hu => by
    obtain ⟨b, off, e, _, _, hcell⟩ := hl j u hu
    exact ⟨_, e, by rw [Addr.add_lit]; exact hcell⟩) (flat_ones hf hrd) h63 hbytes S.below.size
  unfold Oper.wp execOp
  simp only [ho, resolve, invoke, builtin, Sem.run_bind, Sem.run_pure, Result.andThen_ok, List.map_toArray, List.map_cons, List.map_nil, hs, hx, hrun]
  have hcl := app_claim (b0 := w0.heap.size) hnd hlo' hhi' hF hall hrow (flat_all hf w w0.heap.size w.heap.size hrd) (by simp) (fun q _ => by simp) (Nat.le_refl _) (Nat.le_refl _) hown hgr hat
  obtain ⟨A', c', rfl, hc'⟩ := row_form hown
  rw [← List.length_append] at hcl hc' ⊢
  have hfoot : ∀ q, v.ownBlock = some q → (ow (rLst e r) lo hi xs [v] F).foot q := fun q hq => ⟨by rw [hF]; simp [hq], (hrow.lt q hq).1, hhi q hq⟩
  refine hK _ _ (h A' c' _ w' hc' (S.turn k hk _ (Only.of_grown hgr hfoot) hcl (fun q hq => ?_) (Nat.le_refl _) (Nat.le_refl _)))
  obtain ⟨hq, _, hq2⟩ := hq
  rw [List.append_nil] at hq
  rcases List.mem_append.1 hq with hq | hq
  · have hq' : (Value.slice A' (xs.length + ys.length) c').ownBlock = some q := by rw [← List.length_append]; simpa using hq
    rcases hat with h5 | h5
    · exact .inl (hfoot q (h5.symm.trans hq'))
    · rw [h5] at hq'; cases hq'; right; exact Nat.le_refl _
  · have := ownAll_inF hall q hq
    exact .inl ⟨by rw [hF]; simp [hq], this⟩
/-- 'append(x, y)' where the call holds x and y (a struct with memory of its own, boxed at bn): the list takes y over. -/
theorem wpList_appr {α : Type} {r : Rp α} {e : TypeId} {ops : Array Oper} {rest : List Oper} {o : Oper} {a : Act} {Q : Exit → Act → World → Prop} (S : St w0 w L) (k : Nat) {lo hi : Nat} {xs : List α} {v : Value} {F : List Nat} (hk : L[k]? = some (ow (rLst e r) lo hi xs [v] F))
    (j : Nat) {lo2 hi2 : Nat} {y : α} {cs : List Value} {G : List Nat} (hj : L[j]? = some (ow r lo2 hi2 y cs G)) (hkj : k ≠ j) (k0 : Nat) {bn : Nat} (hk0 : L[k0]? = some (vr bn cs))
    (hgd : o.guard = none) (s x : Operand) (t : TypeId) (ho : o.op = .call { callee := .builtin .append, args := #[s, x], argTypes := #[t, t] })
    (i : TypeInfo) (z : Value) (size bytes : Nat) (ht : P.underlying t = some (.slice e)) (hi' : P.info? e = some i) (hz : i.zero = some z) (hsize : i.size = size) (hby : i.bytes = bytes) (hzs : z.cells.size = size) (hsz : 0 < size) (hr : r.sz = size)
    (hs : a.eval s = v) (c : Nat) (hx : a.eval x = .slice (some ⟨bn, 0, none⟩) 1 c) (h1 : cs.all (·.oneCell') = true) (h63 : xs.length + 1 ≤ maxLen) (hbytes : (xs.length + 1) * bytes ≤ 140737488355328)
    (nul : Res) (hnul : ∀ k, ¬ nul.foot k) (hsay : ∀ w, nul.says w) (hlo0 : w0.heap.size ≤ nul.lo) (hhi0 : nul.hi ≤ w.heap.size)
    (h : ∀ A c F' w', xs.length + 1 ≤ c → St w0 w' ((L.set j nul).set k (ow (rLst e r) w0.heap.size w'.heap.size (xs ++ [y]) [.slice A (xs.length + 1) c] F')) → wpList P ops Q rest (a.put o.dst (.slice A (xs.length + 1) c)) w') : wpList P ops Q (o :: rest) a w := by
  obtain ⟨⟨v', ds0, F1, e1, hF, hall, hrow, hhi⟩, hnd⟩ := S.at_ k hk
  cases e1
  have hlo' : w0.heap.size ≤ lo := S.lo k _ hk
  have hhi' : hi ≤ w.heap.size := S.hi k _ hk
  have hlo2 : w0.heap.size ≤ lo2 := S.lo j _ hj
  have hhi2 : hi2 ≤ w.heap.size := S.hi j _ hj
  obtain ⟨hy, hG⟩ := S.at_ j hj
  have hV := S.at_ k0 hk0
  have hlen : cs.length = 1 * r.sz := by rw [Nat.one_mul]; exact r.len (r.reads hy)
  have hFG := S.disj k j hk hj hkj
  subst hr
  refine wpList_plain hgd fun K hK => ?_
  obtain ⟨v', w', hrun, hown, hgr, hat⟩ := run_app (P := P) w w0.heap.size t o.type e i z r.sz bytes ht hi' hz hsize hby hzs hsz v xs.length ds0 (ownsRow_low hrow hlo') (some ⟨bn, 0, none⟩) 1 c cs hlen (fun q u hu => ⟨_, rfl, by rw [Addr.add_lit, Nat.zero_add]; exact hV.cell q hu⟩) (fun u hu => List.all_eq_true.1 h1 u hu) h63 hbytes S.below.size
  unfold Oper.wp execOp
  simp only [ho, resolve, invoke, builtin, Sem.run_bind, Sem.run_pure, Result.andThen_ok, List.map_toArray, List.map_cons, List.map_nil, hs, hx, hrun]
  have hcl := app_claim (b0 := w0.heap.size) hnd hlo' hhi' hF hall hrow (ownAll_one hy) hG hFG hlo2 hhi2 hown hgr hat
  obtain ⟨A', c', rfl, hc'⟩ := row_form hown
  have hfoot : ∀ q, v.ownBlock = some q → (ow (rLst e r) lo hi xs [v] F).foot q := fun q hq => ⟨by rw [hF]; simp [hq], (hrow.lt q hq).1, hhi q hq⟩
  have hjl : j < L.length := (List.getElem?_eq_some_iff.1 hj).1
  -- first y's claim goes over to the list's, then the list turns
  have T := S.turn j hj nul (Only.refl _ _) (hsay w) (fun q hq => absurd hq (hnul q)) hlo0 hhi0
  have hk1 : (L.set j nul)[k]? = some (ow (rLst e r) lo hi xs [v] F) := by rw [List.getElem?_set_ne (Ne.symm hkj)]; exact hk
  let big : Res := ⟨fun _ => True, fun q => (ow (rLst e r) lo hi xs [v] F).foot q ∨ (ow r lo2 hi2 y cs G).foot q, w0.heap.size, w.heap.size, fun q hq => by
    rcases hq with hq | hq
    · exact S.footlt hk hq
    · exact S.footlt hj hq, fun _ _ => trivial⟩
  have T2 : St w0 w ((L.set j nul).set k big) := by
    refine ⟨T.below, fun p s hp => ?_, fun p s hp => ?_, fun p s hp => ?_, fun p p' s u hp hp' hne q hq hq' => ?_⟩
    all_goals
      have hkl : k < (L.set j nul).length := (List.getElem?_eq_some_iff.1 hk1).1
      have key : ∀ (p : Nat) (s : Res), ((L.set j nul).set k big)[p]? = some s → (p = k ∧ s = big) ∨ (p ≠ k ∧ (L.set j nul)[p]? = some s) := fun p s hp => by
        by_cases e : p = k
        · subst e; rw [List.getElem?_set_self hkl] at hp; exact .inl ⟨rfl, (Option.some.inj hp).symm⟩
        · rw [List.getElem?_set_ne (fun e' => e e'.symm)] at hp; exact .inr ⟨e, hp⟩
    · rcases key p s hp with ⟨_, e⟩ | ⟨_, hp⟩
      · rw [e]; trivial
      · exact T.says p s hp
    · rcases key p s hp with ⟨_, e⟩ | ⟨_, hp⟩
      · rw [e]; exact Nat.le_refl _
      · exact T.lo p s hp
    · rcases key p s hp with ⟨_, e⟩ | ⟨_, hp⟩
      · rw [e]; exact Nat.le_refl _
      · exact T.hi p s hp
    · have far : ∀ (p : Nat) (s : Res), p ≠ k → (L.set j nul)[p]? = some s → ∀ q, big.foot q → ¬ s.foot q := fun p s hpk hp q hb hs => by
        rcases hb with hb | hb
        · exact T.apart k p _ s hk1 hp (fun e => hpk e.symm) q hb hs
        · by_cases e : p = j
          · subst e
            rw [List.getElem?_set_self hjl] at hp
            cases hp
            exact hnul q hs
          · rw [List.getElem?_set_ne (fun e' => e e'.symm)] at hp
            exact S.apart j p _ s hj hp (fun e' => e e'.symm) q hb hs
      rcases key p s hp with ⟨e1, e2⟩ | ⟨e1, hp⟩
      · rcases key p' u hp' with ⟨e3, e4⟩ | ⟨e3, hp'⟩
        · exact hne (e1.trans e3.symm)
        · rw [e2] at hq; exact far p' u e3 hp' q hq hq'
      · rcases key p' u hp' with ⟨e3, e4⟩ | ⟨e3, hp'⟩
        · rw [e4] at hq'; exact far p s e1 hp q hq' hq
        · exact T.apart p p' s u hp hp' hne q hq hq'
  have hkb : ((L.set j nul).set k big)[k]? = some big := List.getElem?_set_self (by rw [List.length_set]; exact (List.getElem?_eq_some_iff.1 hk).1)
  have T3 := T2.turn k hkb (ow (rLst e r) w0.heap.size w'.heap.size (xs ++ [y]) [.slice A' (xs.length + 1) c'] ((Value.slice A' (xs.length + 1) c').ownBlock.toList ++ (F1 ++ G))) (Only.of_grown hgr fun q hq => .inl (hfoot q hq)) hcl (fun q hq => by
    obtain ⟨hq, _, hq2⟩ := hq
    rcases List.mem_append.1 hq with hq | hq
    · have hq' : (Value.slice A' (xs.length + 1) c').ownBlock = some q := by simpa using hq
      rcases hat with h5 | h5
      · exact .inl (.inl (hfoot q (h5.symm.trans hq')))
      · have h6 := h5.symm.trans hq'
        cases h6; right; exact Nat.le_refl _
    · rcases List.mem_append.1 hq with hq | hq
      · have := ownAll_inF hall q hq
        exact .inl (.inl ⟨by rw [hF]; simp [hq], this⟩)
      · have := r.inF hy q hq
        exact .inl (.inr ⟨hq, this⟩)) (Nat.le_refl _) (Nat.le_refl _)
  rw [List.set_set] at T3
  exact hK _ _ (h A' c' _ w' hc' T3)
/-- One element in a block of its own, as a slice that is read. -/
theorem St.box {α : Type} {r : Rp α} (S : St w0 w L) (i : Nat) {b : Nat} {vs : List Value} (h : L[i]? = some (vr b vs)) {x : α} (hx : r.rd w 0 w.heap.size x vs) (c : Nat) (hc : 1 ≤ c) : rdLst r w 0 w.heap.size [x] [.slice (some ⟨b, 0, none⟩) 1 c] :=
  ⟨_, c, vs, rfl, hc, rdAll_one hx, fun j u hu => ⟨b, 0, rfl, Nat.zero_le _, (S.at_ i h).2, by rw [Nat.zero_add]; exact S.cell i h j hu⟩⟩
/-- The nil slice is a list of one's own. -/
theorem St.nil {α : Type} (S : St w0 w L) (e : TypeId) (r : Rp α) : St w0 w (ow (rLst e r) w.heap.size w.heap.size [] [.slice none 0 0] [] :: L) :=
  S.add (Below.refl _ _) _ ⟨⟨.slice none 0 0, [], [], rfl, rfl, ⟨rfl, rfl⟩, World.ownsRow_nil _ _ _ _, fun k hk => by cases hk⟩, by simp⟩ (Nat.le_refl _) (Nat.le_refl _)
theorem St.nilw {α : Type} (S : St w0 w L) (r : Rp α) : St w0 w (ow (rLsw r) w.heap.size w.heap.size [] [.slice none 0 0] [] :: L) :=
  S.add (Below.refl _ _) _ ⟨⟨none, 0, [], [], rfl, Nat.le_refl _, rfl, ⟨rfl, rfl⟩, ⟨Lies.nil, fun b off e => by cases e⟩⟩, by simp⟩ (Nat.le_refl _) (Nat.le_refl _)
/-- A call hands back a list of pairs of its own, as the contracts of chapter 3 say it. -/
theorem St.gotp {A : Option Addr} {l : List (Int × Int)} {c : Nat} (S : St w0 w L) (hb : Below w.heap.size w w') (hc : l.length ≤ c) (h : Owned w' w.heap.size w'.heap.size A (pcells l)) : St w0 w' (ow (rLsw (rPair rInt rInt)) w.heap.size w'.heap.size l [.slice A l.length c] (blks A (pcells l)) :: L) :=
  S.got hb (p2_own hc h).1 (p2_own hc h).2
/-- A struct's load at a step of a region that draws its order. -/
theorem run_ld {op : Oper} {a : Act} {w : World} {b : Nat} {cs : List Value} (hc : w.rangeAt b 0 cs) (ty : TypeId) (x : Operand) (ho : op.op = .load ty x) (hx : a.eval x = .pointer (some ⟨b, 0, none⟩)) (d : TypeDesc) (hu : P.underlying ty = some d) (hd : d.isRow = true)
    (hi : (P.info? ty).map (·.size) = some cs.length) : (execOp a.eval op).run P w = .ok (.value (.agg cs.toArray)) w := by
  unfold execOp
  simp only [ho, hx, Instr.loadAt, Instr.sureAddr, Sem.run_bind, Sem.run_pure, Result.andThen_ok, run_loadVar_mid w b 0 ty cs d hc hu hd hi]
theorem St.range (S : St w0 w L) (i : Nat) {b : Nat} {vs : List Value} (h : L[i]? = some (vr b vs)) : w.rangeAt b 0 vs := fun j v hv => by rw [Nat.zero_add]; exact S.cell i h j hv
theorem Only.of_turned {lo hi : Nat} {f : Nat → Prop} (h : Turned lo hi w w') (hf : ∀ k, lo ≤ k → k < hi → f k) : Only f w w' :=
  ⟨h.os, h.tape, h.output, h.size, fun k hk hn => h.block k hk (by
    rcases Nat.lt_or_ge k lo with h1 | h1
    · exact .inl h1
    · rcases Nat.lt_or_ge k hi with h2 | h2
      · exact absurd (hf k h1 h2) hn
      · exact .inr h2)⟩
/-- A struct's load that hangs on a guard which is met. -/
theorem wpList_ldw {ops : Array Oper} {rest : List Oper} {op : Oper} {a : Act} {Q : Exit → Act → World → Prop} (S : St w0 w L) (i : Nat) {b : Nat} {vs : List Value} (h : L[i]? = some (vr b vs)) (ty : TypeId) (x : Operand) (ho : op.op = .load ty x) (hw : Region.wanted op (yielded ops a.tmps) = true)
    (hx : a.eval x = .pointer (some ⟨b, 0, none⟩)) (d : TypeDesc) (hu : P.underlying ty = some d) (hd : d.isRow = true)
    (hi : (P.info? ty).map (·.size) = some vs.length) (hK : wpList P ops Q rest (a.put op.dst (.agg vs.toArray)) w) : wpList P ops Q (op :: rest) a w := by
  unfold wpList
  rw [if_pos hw]
  exact .inl (wp_load_mid ty x ho b 0 hx vs d (S.range i h) hu hd hi hK)
end
end Go.Proofs.Ytmiokacihcpepaa.Stt
