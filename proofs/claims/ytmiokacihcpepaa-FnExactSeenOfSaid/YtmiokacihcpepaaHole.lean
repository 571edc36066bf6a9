/-
  Lists of one's own opened at an element: the list but for that element is a claim, the element another; loads and stores there; the list shut again. No statement about the project's code stands here. No condition.
-/
import Derived.Test.YtmiokacihcpepaaSxM
import Derived.Test.YtmiokacihcpepaaSxRd
namespace Go.Proofs.Ytmiokacihcpepaa.Sx
set_option maxRecDepth 100000
open Go.ChangeShapes Go.WideShapes Go.ChangeAt Go.RowKit Go.Deep
open Go.Proofs.Ytmiokacihcpepaa.Base Go.Proofs.Ytmiokacihcpepaa.Mem Go.Proofs.Ytmiokacihcpepaa.Data Go.Proofs.Ytmiokacihcpepaa.Stt
set_option linter.unusedVariables false
set_option linter.unusedSimpArgs false
set_option linter.unnecessarySimpa false
section
variable {α : Type} {r : Rp α} {w0 w w' : World} {L T : List Res} {lo hi : Nat}
theorem ownAll_split : ∀ {xs : List α} {ds : List Value} {F : List Nat} (i : Nat) (h : i < xs.length), ownAll r w lo hi xs ds F → ∃ d1 es d2 F1 Fi F2, ds = d1 ++ (es ++ d2) ∧ F = F1 ++ (Fi ++ F2) ∧ ownAll r w lo hi (xs.take i) d1 F1 ∧ r.own w lo hi xs[i] es Fi ∧ ownAll r w lo hi (xs.drop (i + 1)) d2 F2
  | x :: xs, ds, F, 0, _, h => by
    obtain ⟨c1, c2, G1, G2, rfl, rfl, h1, h2⟩ := h
    exact ⟨[], c1, c2, [], G1, G2, rfl, rfl, ⟨rfl, rfl⟩, h1, h2⟩
  | x :: xs, ds, F, i + 1, hi', h => by
    obtain ⟨c1, c2, G1, G2, rfl, rfl, h1, h2⟩ := h
    obtain ⟨d1, es, d2, F1, Fi, F2, rfl, rfl, k1, k2, k3⟩ := ownAll_split i (by simpa using hi') h2
    exact ⟨c1 ++ d1, es, d2, G1 ++ F1, Fi, F2, by simp, by simp, ⟨c1, d1, G1, F1, rfl, rfl, h1, k1⟩, k2, k3⟩
/-- All of a list but one element; the element's own cells are told. -/
def hole (r : Rp α) (b off lo hi : Nat) (pre post : List α) (es : List Value) (F1 F2 : List Nat) : Res where
  says w := (b :: (F1 ++ F2)).Nodup ∧ (lo ≤ b ∧ b < hi) ∧ ∃ d1 d2, ownAll r w lo hi pre d1 F1 ∧ ownAll r w lo hi post d2 F2 ∧ es.length = r.sz ∧ Owned w lo hi (some ⟨b, off, none⟩) (d1 ++ (es ++ d2))
  foot k := k ∈ b :: (F1 ++ F2) ∧ lo ≤ k ∧ k < hi
  lo := lo
  hi := hi
  inn k h := h.2
  kept h hk := by
    obtain ⟨hn, hb, d1, d2, h1, h2, h3, h4⟩ := h
    refine ⟨hn, hb, d1, d2, ownAll_kept h1 fun k hk' => hk k ⟨by simp [hk'], ownAll_inF h1 k hk'⟩, ownAll_kept h2 fun k hk' => hk k ⟨by simp [hk'], ownAll_inF h2 k hk'⟩, h3, owned_agree h4 fun k hk' => ?_⟩
    have e : k = b := by
      unfold blks at hk'
      split at hk'
      · cases hk'
      · simpa using hk'
    subst e
    exact hk k ⟨by simp, hb⟩
theorem own_nodup4 {b : Nat} {F1 Fi F2 : List Nat} (h : (b :: (F1 ++ (Fi ++ F2))).Nodup) : (b :: (F1 ++ F2)).Nodup ∧ Fi.Nodup ∧ ∀ k ∈ Fi, k ∉ b :: (F1 ++ F2) := by
  simp only [List.nodup_cons, List.nodup_append, List.mem_append, List.mem_cons, not_or] at h ⊢
  obtain ⟨⟨a1, a2, a3⟩, n1, ⟨ni, n2, d2⟩, d1⟩ := h
  refine ⟨⟨⟨a1, a3⟩, n1, n2, fun x hx y hy => d1 x hx y (.inr hy)⟩, ni, fun k hk => ⟨fun e => a2 (e ▸ hk), fun hk1 => d1 k hk1 k (.inl hk) rfl, fun hk2 => d2 k hk k hk2 rfl⟩⟩
theorem own_nodup4' {b : Nat} {F1 Fi F2 : List Nat} (h : (b :: (F1 ++ F2)).Nodup) (hi : Fi.Nodup) (hd : ∀ k ∈ Fi, k ∉ b :: (F1 ++ F2)) : (b :: (F1 ++ (Fi ++ F2))).Nodup := by
  simp only [List.nodup_cons, List.nodup_append, List.mem_append, List.mem_cons, not_or] at h hd ⊢
  obtain ⟨⟨a1, a3⟩, n1, n2, d⟩ := h
  exact ⟨⟨a1, fun hk => (hd b hk).1 rfl, a3⟩, n1, ⟨hi, n2, fun x hx y hy e => (hd x hx).2.2 (e ▸ hy)⟩, fun x hx y hy e => hy.elim (fun q => (hd y q).2.1 (e ▸ hx)) (fun q => d x hx y q e)⟩
/-- A list is opened at an element. -/
theorem St.open_ {xs : List α} {A : Option Addr} {n c : Nat} {F : List Nat} (S : St w0 w (ow (rLsw r) lo hi xs [.slice A n c] F :: T)) (hs : 0 < r.sz) (i : Nat) (hi' : i < xs.length) :
    ∃ b off es F1 Fi F2, A = some ⟨b, off, none⟩ ∧ n = xs.length ∧ xs.length ≤ c ∧ F = b :: (F1 ++ (Fi ++ F2)) ∧ es.length = r.sz ∧ St w0 w (hole r b off lo hi (xs.take i) (xs.drop (i + 1)) es F1 F2 :: ow r lo hi xs[i] es Fi :: T) := by
  obtain ⟨⟨A', c', ds, G, e, hc, rfl, hall, hown⟩, hnd⟩ := S.at_ 0 rfl
  cases e
  obtain ⟨d1, es, d2, F1, Fi, F2, rfl, rfl, k1, k2, k3⟩ := ownAll_split i hi' hall
  have hes : es.length = r.sz := r.len (r.reads k2)
  have hne : d1 ++ (es ++ d2) ≠ [] := fun e => by simp at e; rw [e.2.1] at hes; simp at hes; omega
  obtain ⟨b, off, rfl, x, y, _⟩ := hown.1.at_ (List.length_pos_iff.2 hne)
  have hb : blks (some ⟨b, off, none⟩) (d1 ++ (es ++ d2)) = [b] := by unfold blks; rw [if_neg hne]; rfl
  rw [hb] at hnd
  have hnd' : (b :: (F1 ++ (Fi ++ F2))).Nodup := hnd
  obtain ⟨n1, n2, n3⟩ := own_nodup4 hnd'
  refine ⟨b, off, es, F1, Fi, F2, rfl, rfl, hc, by rw [hb]; rfl, hes, ?_⟩
  have hlo := S.lo 0 _ rfl
  have hhi := S.hi 0 _ rfl
  refine S.parts [hole r b off lo hi (xs.take i) (xs.drop (i + 1)) es F1 F2, ow r lo hi xs[i] es Fi] ?_ ?_
  · intro s hs'
    simp only [List.mem_cons, List.not_mem_nil, or_false] at hs'
    rcases hs' with rfl | rfl
    · refine ⟨⟨n1, ⟨x, y⟩, d1, d2, k1, k3, hes, hown⟩, fun k hk => ⟨?_, hk.2⟩, hlo, hhi⟩
      rw [hb]
      have := hk.1
      simp only [List.mem_cons, List.mem_append] at this ⊢
      rcases this with h | h | h
      · exact .inl (.inl h)
      · exact .inr (.inl h)
      · exact .inr (.inr (.inr h))
    · exact ⟨⟨k2, n2⟩, fun k hk => ⟨by simp [hk.1], hk.2⟩, hlo, hhi⟩
  · simp only [List.pairwise_cons, List.mem_cons, List.not_mem_nil, or_false, forall_eq, List.Pairwise.nil, and_true, false_implies, implies_true]
    exact fun k hk hk' => n3 k hk'.1 hk.1
/-- Claims become one. -/
theorem St.merge {rs : List Res} (S : St w0 w (rs ++ T)) (r' : Res) (hs : r'.says w) (hf : ∀ k, r'.foot k → ∃ s ∈ rs, s.foot k) (hlo : w0.heap.size ≤ r'.lo) (hhi : r'.hi ≤ w.heap.size) : St w0 w (r' :: T) := by
  have key : ∀ (j : Nat) (s : Res), T[j]? = some s → (rs ++ T)[rs.length + j]? = some s := fun j s h => by rw [List.getElem?_append_right (by omega)]; simpa using h
  have mem : ∀ s ∈ rs, ∃ i, i < rs.length ∧ (rs ++ T)[i]? = some s := fun s h => by
    obtain ⟨i, hi, e⟩ := List.getElem_of_mem h
    exact ⟨i, hi, by rw [List.getElem?_append_left hi, List.getElem?_eq_getElem hi, e]⟩
  refine ⟨S.below, fun j s hj => ?_, fun j s hj => ?_, fun j s hj => ?_, fun j j' s t hj hj' hne k hk hk' => ?_⟩
  · cases j with
    | zero => cases hj; exact hs
    | succ j => exact S.says _ s (key j s hj)
  · cases j with
    | zero => cases hj; exact hlo
    | succ j => exact S.lo _ s (key j s hj)
  · cases j with
    | zero => cases hj; exact hhi
    | succ j => exact S.hi _ s (key j s hj)
  · cases j with
    | zero =>
      cases hj
      cases j' with
      | zero => exact hne rfl
      | succ j' =>
        obtain ⟨u, hu, hfu⟩ := hf k hk
        obtain ⟨i, hi, e⟩ := mem u hu
        exact S.apart i _ u t e (key j' t hj') (by omega) k hfu hk'
    | succ j =>
      cases j' with
      | zero =>
        cases hj'
        obtain ⟨u, hu, hfu⟩ := hf k hk'
        obtain ⟨i, hi, e⟩ := mem u hu
        exact S.apart _ i s u (key j s hj) e (by omega) k hk hfu
      | succ j' => exact S.apart _ _ s t (key j s hj) (key j' t hj') (by omega) k hk hk'
/-- A claim is brought to the front, and back. -/
theorem St.front (S : St w0 w L) (i : Nat) {q : Res} (h : L[i]? = some q) : St w0 w (q :: L.eraseIdx i) := by
  have hi : i < L.length := (List.getElem?_eq_some_iff.1 h).1
  have key : ∀ (j : Nat) (s : Res), (L.eraseIdx i)[j]? = some s → ∃ j', j' ≠ i ∧ (j' = if j < i then j else j + 1) ∧ L[j']? = some s := fun j s hj => by
    rw [List.getElem?_eraseIdx] at hj
    split at hj
    · exact ⟨j, by omega, by rw [if_pos (by omega)], hj⟩
    · exact ⟨j + 1, by omega, by rw [if_neg (by omega)], hj⟩
  refine ⟨S.below, fun j s hj => ?_, fun j s hj => ?_, fun j s hj => ?_, fun j j' s t hj hj' hne k hk hk' => ?_⟩
  · cases j with
    | zero => cases hj; exact S.says _ _ h
    | succ j => obtain ⟨j', _, _, e⟩ := key j s hj; exact S.says _ s e
  · cases j with
    | zero => cases hj; exact S.lo _ _ h
    | succ j => obtain ⟨j', _, _, e⟩ := key j s hj; exact S.lo _ s e
  · cases j with
    | zero => cases hj; exact S.hi _ _ h
    | succ j => obtain ⟨j', _, _, e⟩ := key j s hj; exact S.hi _ s e
  · cases j with
    | zero =>
      cases hj
      cases j' with
      | zero => exact hne rfl
      | succ j' => obtain ⟨m, hm, _, e⟩ := key j' t hj'; exact S.apart i m _ t h e hm.symm k hk hk'
    | succ j =>
      obtain ⟨m, hm, em, e⟩ := key j s hj
      cases j' with
      | zero => cases hj'; exact S.apart m i s _ e h hm k hk hk'
      | succ j' =>
        obtain ⟨m', hm', em', e'⟩ := key j' t hj'
        refine S.apart m m' s t e e' (fun x => hne ?_) k hk hk'
        rw [em, em'] at x
        split at x <;> split at x <;> omega
theorem St.back {q : Res} {i : Nat} (S : St w0 w (q :: L.eraseIdx i)) (hi : i < L.length) : St w0 w (L.set i q) := by
  have key : ∀ (j : Nat) (s : Res), (L.set i q)[j]? = some s → ∃ j', (j' = if j = i then 0 else if j < i then j + 1 else j) ∧ (q :: L.eraseIdx i)[j']? = some s := fun j s hj => by
    by_cases e : j = i
    · subst e
      rw [List.getElem?_set_self hi] at hj
      exact ⟨0, by rw [if_pos rfl], hj⟩
    · rw [List.getElem?_set_ne (fun x => e x.symm)] at hj
      by_cases h : j < i
      · exact ⟨j + 1, by rw [if_neg e, if_pos h], by rw [List.getElem?_cons_succ, List.getElem?_eraseIdx, if_pos h]; exact hj⟩
      · refine ⟨j, by rw [if_neg e, if_neg h], ?_⟩
        obtain ⟨m, rfl⟩ : ∃ m, j = m + 1 := ⟨j - 1, by omega⟩
        rw [List.getElem?_cons_succ, List.getElem?_eraseIdx, if_neg (by omega)]; exact hj
  refine ⟨S.below, fun j s hj => ?_, fun j s hj => ?_, fun j s hj => ?_, fun j j' s t hj hj' hne k hk hk' => ?_⟩
  · obtain ⟨m, _, e⟩ := key j s hj; exact S.says m s e
  · obtain ⟨m, _, e⟩ := key j s hj; exact S.lo m s e
  · obtain ⟨m, _, e⟩ := key j s hj; exact S.hi m s e
  · obtain ⟨m, em, e⟩ := key j s hj
    obtain ⟨m', em', e'⟩ := key j' t hj'
    refine S.apart m m' s t e e' (fun x => hne ?_) k hk hk'
    rw [em, em'] at x
    split at x <;> split at x <;> (try split at x) <;> (try split at x) <;> omega
theorem St.openAt {pre post : List α} {x : α} {A : Option Addr} {n c : Nat} {F : List Nat} (S : St w0 w (ow (rLsw r) lo hi (pre ++ x :: post) [.slice A n c] F :: T)) (hs : 0 < r.sz) :
    ∃ b off es F1 Fi F2, A = some ⟨b, off, none⟩ ∧ F = b :: (F1 ++ (Fi ++ F2)) ∧ es.length = r.sz ∧ n = (pre ++ x :: post).length ∧ n ≤ c ∧ St w0 w (hole r b off lo hi pre post es F1 F2 :: ow r lo hi x es Fi :: T) := by
  obtain ⟨b, off, es, F1, Fi, F2, h1, h2, h3, h4, h5, h6⟩ := St.open_ S hs pre.length (by simp)
  refine ⟨b, off, es, F1, Fi, F2, h1, h4, h5, h2, by omega, ?_⟩
  have e1 : (pre ++ x :: post).take pre.length = pre := by simp
  have e2 : (pre ++ x :: post).drop (pre.length + 1) = post := by clear S h1 h2 h3 h4 h5 h6; induction pre with
    | nil => rfl
    | cons a l ih => simpa using ih
  have e3 : ∀ h, (pre ++ x :: post)[pre.length]'h = x := fun h => by rw [List.getElem_append_right (Nat.le_refl _)]; simp
  rwa [e1, e2, e3] at h6
theorem St.close {b off : Nat} {pre post : List α} {x : α} {es : List Value} {F1 F2 Fi : List Nat} (S : St w0 w (hole r b off lo hi pre post es F1 F2 :: ow r lo hi x es Fi :: T)) (hs : 0 < r.sz) (n c : Nat) (hn : (pre ++ x :: post).length = n) (hc : n ≤ c) :
    St w0 w (ow (rLsw r) lo hi (pre ++ x :: post) [.slice (some ⟨b, off, none⟩) n c] (b :: (F1 ++ (Fi ++ F2))) :: T) := by
  obtain ⟨n1, ⟨x1, y1⟩, d1, d2, h1, h2, h3, h4⟩ := S.at_ 0 rfl
  obtain ⟨k1, k2⟩ := S.at_ 1 rfl
  subst hn
  have hne : d1 ++ (es ++ d2) ≠ [] := fun e => by simp at e; rw [e.2.1] at h3; simp at h3; omega
  have hb : blks (some ⟨b, off, none⟩) (d1 ++ (es ++ d2)) = [b] := by unfold blks; rw [if_neg hne]; rfl
  have hd : ∀ k ∈ Fi, k ∉ b :: (F1 ++ F2) := fun k hk hk' => S.apart 0 1 _ _ rfl rfl (by decide) k ⟨hk', by
    rcases List.mem_cons.1 hk' with rfl | hk'
    · exact ⟨x1, y1⟩
    · exact (List.mem_append.1 hk').elim (ownAll_inF h1 k) (ownAll_inF h2 k)⟩ ⟨hk, r.inF k1 k hk⟩
  have hall : ownAll r w lo hi (pre ++ x :: post) (d1 ++ (es ++ d2)) (F1 ++ (Fi ++ F2)) := ownAll_append h1 ⟨es, d2, Fi, F2, rfl, rfl, k1, h2⟩
  refine St.merge (rs := [_, _]) S (ow (rLsw r) lo hi _ _ _) ⟨⟨_, c, _, _, rfl, hc, by rw [hb]; rfl, hall, h4⟩, own_nodup4' n1 k2 hd⟩ (fun k hk => ?_) (show w0.heap.size ≤ lo from S.lo 0 _ rfl) (show hi ≤ w.heap.size from S.hi 0 _ rfl)
  have := hk.1
  simp only [List.mem_cons, List.mem_append] at this
  rcases this with h | h | h | h
  · exact ⟨_, List.mem_cons_self, by simp [h], hk.2⟩
  · exact ⟨_, List.mem_cons_self, by simp [h], hk.2⟩
  · exact ⟨_, List.mem_cons_of_mem _ List.mem_cons_self, h, hk.2⟩
  · exact ⟨_, List.mem_cons_self, by simp [h], hk.2⟩
/-- A claim's bounds are taken wider. -/
theorem St.widen {x : α} {cs : List Value} {F : List Nat} (S : St w0 w L) (i : Nat) (h : L[i]? = some (ow r lo hi x cs F)) {hi' : Nat} (hh : hi ≤ hi') (hw : hi' ≤ w.heap.size) : St w0 w (L.set i (ow r w0.heap.size hi' x cs F)) :=
  S.turn i h (ow r w0.heap.size hi' x cs F) (Only.refl _ _) ⟨r.owide (S.at_ i h).1 (S.lo i _ h) hh, (S.at_ i h).2⟩ (fun k hk => .inl ⟨hk.1, r.inF (S.at_ i h).1 k hk.1⟩) (Nat.le_refl _) hw
theorem St.holeWiden {b off : Nat} {pre post : List α} {es : List Value} {F1 F2 : List Nat} (S : St w0 w L) (i : Nat) (h : L[i]? = some (hole r b off lo hi pre post es F1 F2)) {hi' : Nat} (hh : hi ≤ hi') (hw : hi' ≤ w.heap.size) : St w0 w (L.set i (hole r b off w0.heap.size hi' pre post es F1 F2)) := by
  obtain ⟨n1, hb, d1, d2, h1, h2, h3, h4⟩ := S.at_ i h
  have hlo : w0.heap.size ≤ lo := S.lo i _ h
  refine S.turn i h (hole r b off w0.heap.size hi' pre post es F1 F2) (Only.refl _ _) ⟨n1, ⟨by omega, by omega⟩, d1, d2, ownAll_wide hlo hh h1, ownAll_wide hlo hh h2, h3, h4.wide hlo hh⟩ (fun k hk => .inl ⟨hk.1, ?_⟩) (Nat.le_refl _) hw
  rcases List.mem_cons.1 hk.1 with rfl | hk'
  · exact hb
  · exact (List.mem_append.1 hk').elim (ownAll_inF h1 k) (ownAll_inF h2 k)
/-- A flat value's claim, whatever the value. -/
theorem St.flat {x : α} {cs : List Value} (S : St w0 w L) (i : Nat) (h : L[i]? = some (ow r lo hi x cs [])) (y : α) (es : List Value) (hy : ∀ w, r.own w lo hi y es []) : St w0 w (L.set i (ow r lo hi y es [])) :=
  S.turn i h (ow r lo hi y es []) (Only.refl _ _) ⟨hy w, List.nodup_nil⟩ (fun k hk => absurd hk.1 (by simp)) (S.lo i (ow r lo hi x cs []) h) (S.hi i (ow r lo hi x cs []) h)
/-- .. shut, whatever the bounds. -/
theorem St.closeW {b off lo2 hi2 : Nat} {pre post : List α} {x : α} {es : List Value} {F1 F2 Fi : List Nat} (S : St w0 w (hole r b off lo hi pre post es F1 F2 :: ow r lo2 hi2 x es Fi :: T)) (hs : 0 < r.sz) (n c : Nat) (hn : (pre ++ x :: post).length = n) (hc : n ≤ c) :
    St w0 w (ow (rLsw r) w0.heap.size (max hi hi2) (pre ++ x :: post) [.slice (some ⟨b, off, none⟩) n c] (b :: (F1 ++ (Fi ++ F2))) :: T) := by
  have h1 : max hi hi2 ≤ w.heap.size := Nat.max_le.2 ⟨S.hi 0 _ rfl, S.hi 1 _ rfl⟩
  exact St.close (St.widen (St.holeWiden S 0 rfl (Nat.le_max_left hi hi2) h1) 1 rfl (Nat.le_max_right hi hi2) h1) hs n c hn hc
section
variable {b off k size : Nat} {pre post : List α} {es : List Value} {F1 F2 : List Nat}
theorem hole_cell (h : (hole r b off lo hi pre post es F1 F2).says w) (hk : pre.length = k) (hz : r.sz = size) (j : Nat) {v : Value} (hv : es[j]? = some v) : w.cell? ⟨b, off + k * size + j, none⟩ = some v ∧ w.frozen? ⟨b, off + k * size + j, none⟩ = false := by
  obtain ⟨_, _, d1, d2, h1, h2, h3, h4⟩ := h
  have hl : d1.length = k * size := by rw [rdAll_len (ownAll_reads h1), hk, hz]
  have hj := (List.getElem?_eq_some_iff.1 hv).1
  have hg : (d1 ++ (es ++ d2))[k * size + j]? = some v := by
    rw [List.getElem?_append_right (by omega), hl, Nat.add_sub_cancel_left, List.getElem?_append_left hj]; exact hv
  obtain ⟨b', off', e, _, _, hc⟩ := h4.1 _ v hg
  cases e
  refine ⟨by rw [Nat.add_assoc]; exact hc, h4.2 b off rfl (by have := (List.getElem?_eq_some_iff.1 hg).1; omega) _⟩
theorem foldl_set_len (us : List Value) : ∀ (vs : List Value) (o : Nat), (us.foldl (fun (p : List Value × Nat) u => (p.1.set p.2 u, p.2 + 1)) (vs, o)).1.length = vs.length := by
  induction us with
  | nil => intro vs o; rfl
  | cons u us ih => intro vs o; rw [List.foldl_cons, ih, List.length_set]
theorem owned_sets {b off lo hi : Nat} : ∀ (us ds : List Value) (o : Nat) (w : World), Owned w lo hi (some ⟨b, off, none⟩) ds → Owned (w.setCells b (off + o) us) lo hi (some ⟨b, off, none⟩) (us.foldl (fun (p : List Value × Nat) u => (p.1.set p.2 u, p.2 + 1)) (ds, o)).1
  | [], ds, o, w, h => h
  | u :: us, ds, o, w, h => by
    rw [World.setCells, List.foldl_cons]
    exact owned_sets us (ds.set o u) (o + 1) _ (h.set o u)
theorem foldl_mid : ∀ (us d1 es d2 : List Value) (o : Nat), o + us.length ≤ es.length → (us.foldl (fun (p : List Value × Nat) u => (p.1.set p.2 u, p.2 + 1)) (d1 ++ (es ++ d2), d1.length + o)).1 = d1 ++ ((us.foldl (fun (p : List Value × Nat) u => (p.1.set p.2 u, p.2 + 1)) (es, o)).1 ++ d2)
  | [], d1, es, d2, o, h => rfl
  | u :: us, d1, es, d2, o, h => by
    have h' : o + us.length + 1 ≤ es.length := by simpa [Nat.add_assoc] using h
    rw [List.foldl_cons, List.foldl_cons]
    simp only
    have e : (d1 ++ (es ++ d2)).set (d1.length + o) u = d1 ++ (es.set o u ++ d2) := by
      rw [List.set_append, if_neg (by omega), Nat.add_sub_cancel_left, List.set_append, if_pos (by omega)]
    rw [e, show d1.length + o + 1 = d1.length + (o + 1) by omega]
    exact foldl_mid us d1 (es.set o u) d2 (o + 1) (by rw [List.length_set]; omega)
/-- A store into the open element. -/
theorem St.holeSets (S : St w0 w L) (i : Nat) (h : L[i]? = some (hole r b off lo hi pre post es F1 F2)) (hk : pre.length = k) (hz : r.sz = size) (j : Nat) (us es' : List Value) (hes : (us.foldl (fun (p : List Value × Nat) u => (p.1.set p.2 u, p.2 + 1)) (es, j)).1 = es') (hl : j + us.length ≤ es.length) :
    St w0 (w.setCells b (off + k * size + j) us) (L.set i (hole r b off lo hi pre post es' F1 F2)) := by
  obtain ⟨n1, hb, d1, d2, h1, h2, h3, h4⟩ := S.at_ i h
  subst hes
  have hl1 : d1.length = k * size := by rw [rdAll_len (ownAll_reads h1), hk, hz]
  have hO : Only (hole r b off lo hi pre post es F1 F2).foot w (w.setCells b (off + k * size + j) us) := Only.setCells (show (hole r b off lo hi pre post es F1 F2).foot b from ⟨by simp, hb⟩) us _ w
  have hF : ∀ (G : List Nat), (∀ q ∈ G, q ≠ b) → (∀ q ∈ G, q < w.heap.size) → ∀ q ∈ G, (w.setCells b (off + k * size + j) us).heap[q]? = w.heap[q]? := fun G hG hG' q hq => (Only.setCells (f := fun x => x = b) rfl us _ w).block q (hG' q hq) (hG q hq)
  have hsz : ∀ q, lo ≤ q ∧ q < hi → q < w.heap.size := fun q hq => Nat.lt_of_lt_of_le hq.2 (S.hi i _ h)
  have nb : ∀ q ∈ F1 ++ F2, q ≠ b := fun q hq e => (List.nodup_cons.1 n1).1 (e ▸ hq)
  refine S.turn i h (hole r b off lo hi pre post _ F1 F2) hO ⟨n1, hb, d1, d2, ownAll_kept h1 (hF F1 (fun q hq => nb q (by simp [hq])) fun q hq => hsz q (ownAll_inF h1 q hq)), ownAll_kept h2 (hF F2 (fun q hq => nb q (by simp [hq])) fun q hq => hsz q (ownAll_inF h2 q hq)), by rw [foldl_set_len]; exact h3, ?_⟩ (fun q hq => .inl hq) (S.lo i (hole r b off lo hi pre post es F1 F2) h) (by rw [setCells_size]; exact S.hi i (hole r b off lo hi pre post es F1 F2) h)
  have := owned_sets us (d1 ++ (es ++ d2)) (k * size + j) w h4
  rw [show k * size + j = d1.length + j by omega, foldl_mid us d1 es d2 j hl] at this
  rwa [show off + k * size + j = off + (d1.length + j) by omega]
end
end
section
variable {α : Type} {r : Rp α} {P : Program} {n : Nat} {ops : Array Oper} {Q : Exit → Act → World → Prop} {w0 : World} {T : Tl} {L : List Res} {rest : List Oper} {o : Oper}
variable {off lo hi k size : Nat} {pre post : List α} {es : List Value} {F1 F2 : List Nat}
/-- One cell of the open element is loaded. -/
theorem G.hld1 (t : TypeId) (x : Operand) (b p j i : Nat) (v : Value) (hop : o.op = .load t x) (hc : chk n T ops o = true) (hx : ev T x = .pointer (some ⟨b, p, none⟩)) (hL : L[i]? = some (hole r b off lo hi pre post es F1 F2)) (hk : pre.length = k) (hz : r.sz = size) (hp : p = off + k * size + j) (hv : es[j]? = some v)
    (hr : isCell P t = true) (kk : G P n ops Q w0 (up o.dst v T) L rest) : G P n ops Q w0 T L (o :: rest) :=
  G.ldr1 t x b p v hop hc hx (fun w S => hp ▸ (hole_cell (S.at_ i hL) hk hz j hv).1) hr kk
/-- A struct, or a part of one, of the open element is loaded. -/
theorem G.hldr (t : TypeId) (x : Operand) (b p j i : Nat) (cs : List Value) (hop : o.op = .load t x) (hc : chk n T ops o = true) (hx : ev T x = .pointer (some ⟨b, p, none⟩)) (hL : L[i]? = some (hole r b off lo hi pre post es F1 F2)) (hk : pre.length = k) (hz : r.sz = size) (hp : p = off + k * size + j) (hcs : (es.drop j).take cs.length = cs)
    (hr : isRow P t = true) (hi : (P.info? t).map (·.size) = some cs.length) (kk : G P n ops Q w0 (up o.dst (.agg cs.toArray) T) L rest) : G P n ops Q w0 T L (o :: rest) :=
  G.ldr t x b p cs hop hc hx (fun w S q v hv => by
    have hq : q < cs.length := (List.getElem?_eq_some_iff.1 hv).1
    rw [← hcs, List.getElem?_take, if_pos hq, List.getElem?_drop] at hv
    have := (hole_cell (S.at_ i hL) hk hz (j + q) hv).1
    rw [hp, Nat.add_assoc]
    simpa [Nat.add_assoc] using this) hr hi kk
/-- A store into the open element. -/
theorem G.hsto (t : TypeId) (x y : Operand) (b p j i : Nat) (us es' : List Value) (L' : List Res) (hop : o.op = .store t x y) (hc : chk n T ops o = true) (hx : ev T x = .pointer (some ⟨b, p, none⟩)) (hy : (ev T y).cells = us.toArray) (hL : L[i]? = some (hole r b off lo hi pre post es F1 F2)) (hk : pre.length = k) (hz : r.sz = size) (hp : p = off + k * size + j)
    (hes : (us.foldl (fun (p : List Value × Nat) u => (p.1.set p.2 u, p.2 + 1)) (es, j)).1 = es') (hL' : L.set i (hole r b off lo hi pre post es' F1 F2) = L') (hl : Nat.ble (j + us.length) es.length = true) (hi' : (P.info? t).map (·.size) = some us.length) (h1 : us.all (·.oneCell') = true)
    (kk : G P n ops Q w0 (up o.dst undef T) L' rest) : G P n ops Q w0 T L (o :: rest) :=
  G.acts hc fun w S => by
    have hl' : j + us.length ≤ es.length := Nat.le_of_ble_eq_true hl
    have ht : w.there b p us.toArray.size := fun q hq => by
      have hq' : j + q < es.length := by simp at hq; omega
      have := hole_cell (S.at_ i hL) hk hz (j + q) (List.getElem?_eq_getElem hq')
      rw [← Nat.add_assoc, ← hp] at this
      exact ⟨by rw [this.1]; rfl, this.2⟩
    refine ⟨w.setCells b p us, L', ?_, ?_, kk⟩
    · unfold execOp
      have hcells : (storeVar t ⟨b, p, none⟩ (ev T y)).run P w = (storeVar t ⟨b, p, none⟩ (.agg us.toArray)).run P w := by
        unfold storeVar
        rw [hy]
        rfl
      have hs := run_storeVar_mid (P := P) w b p t us.toArray ht (by simpa using hi') (by simpa using h1)
      simp only [hop, Sem.run_bind, Instr.storeAt, Instr.sureAddr, hx, Sem.run_pure, Result.andThen_ok, hcells, hs]
    · subst hL' hp
      exact St.holeSets S i hL hk hz j us es' hes hl'
/-- The claims are taken otherwise. -/
theorem C.turn {ι : Type} {Q : Exit → Act → World → Prop} {c : Code} {p : ι → Prop} (L' : ι → List Res) (h : ∀ w, St w0 w L → ∃ x, p x ∧ St w0 w (L' x)) (kk : ∀ x, p x → C P n Q w0 T (L' x) c) : C P n Q w0 T L c := fun a w hA S => by
  obtain ⟨x, hp, S'⟩ := h w S
  exact kk x hp a w hA S'
/-- A list is opened at an element. -/
theorem C.open {Q : Exit → Act → World → Prop} {code : Code} {lo hi : Nat} {xs : List α} {x : α} {A : Option Addr} {m c : Nat} {F : List Nat} (hxs : xs = pre ++ x :: post) (hs : 0 < r.sz)
    (kk : ∀ b off es F1 Fi F2, A = some ⟨b, off, none⟩ → F = b :: (F1 ++ (Fi ++ F2)) → es.length = r.sz → m = xs.length → m ≤ c → C P n Q w0 T (hole r b off lo hi pre post es F1 F2 :: ow r lo hi x es Fi :: L) code) : C P n Q w0 T (ow (rLsw r) lo hi xs [.slice A m c] F :: L) code := fun a w hA S => by
  subst hxs
  obtain ⟨b, off, es, F1, Fi, F2, h1, h2, h3, h4, h5, S'⟩ := St.openAt S hs
  exact kk b off es F1 Fi F2 h1 h2 h3 h4 h5 a w hA S'
/-- A list is made. -/
theorem own_replicate {z : α} {zs : List Value} {w : World} {lo hi : Nat} (hz : r.own w lo hi z zs []) : ∀ m : Nat, ownAll r w lo hi (List.replicate m z) (List.replicate m zs).flatten []
  | 0 => ⟨rfl, rfl⟩
  | m + 1 => ⟨zs, _, [], [], rfl, rfl, hz, own_replicate hz m⟩
theorem made_flat {zs : List Value} (hz : 0 < zs.length) (m : Nat) : (madeCells zs.toArray (m * zs.length)).toList = (List.replicate m zs).flatten := by
  induction m with
  | zero => simp [madeCells]
  | succ m ih =>
    rw [List.replicate_succ, List.flatten_cons, ← ih]
    apply List.ext_getElem?
    intro j
    simp only [madeCells, Array.toList_map, Array.toList_range, List.getElem?_map]
    by_cases hj : j < zs.length
    · rw [List.getElem?_append_left hj, List.getElem?_range (by rw [Nat.add_mul]; omega)]
      simp [Nat.mod_eq_of_lt hj, hj]
    · rw [List.getElem?_append_right (by omega), List.getElem?_map]
      by_cases hm : j < (m + 1) * zs.length
      · rw [Nat.add_mul, Nat.one_mul] at hm
        rw [List.getElem?_range (by rw [Nat.add_mul, Nat.one_mul]; omega), List.getElem?_range (by omega)]
        have : j % zs.length = (j - zs.length) % zs.length := by rw [← Nat.mod_eq_sub_mod (by omega)]
        simp [this]
      · rw [Nat.add_mul, Nat.one_mul] at hm
        rw [List.getElem?_eq_none (by simp [Nat.add_mul]; omega), List.getElem?_eq_none (by simp; omega)]
theorem G.mks (z : α) (zs : List Value) (t e : TypeId) (x y : Operand) (size bytes m : Nat) (hop : o.op = .makeSlice t x y) (hc : chk n T ops o = true) (he : elemB P t e size bytes = true) (hi : (P.info? e).map (·.zero.map (·.cells)) = some (some zs.toArray)) (hr : r.sz = size) (hzl : zs.length = size) (hz : ∀ w lo hi, r.own w lo hi z zs [])
    (hx : ev T x = .int .i64 (m : Int)) (hy : ev T y = .int .i64 (m : Int)) (hm : m ≤ maxLen) (hb : bytes * m ≤ 281474976710656)
    (kk : ∀ b hi F, G P n ops Q w0 (up o.dst (.slice (some ⟨b, 0, none⟩) m m) T) (ow (rLsw r) b hi (List.replicate m z) [.slice (some ⟨b, 0, none⟩) m m] F :: L) rest) : G P n ops Q w0 T L (o :: rest) :=
  G.turns hc fun w S => by
    obtain ⟨ht, hsz, i, zz, hi', hz', hsize, hby, hzs⟩ := elemB_spec he
    have hzz : zz.cells = zs.toArray := by rw [hi', Option.map_some, hz'] at hi; simpa using hi
    obtain ⟨wm, hrun, hown, hg⟩ := run_make_full (P := P) w w.heap.size t e i zz size ht hi' hz' hsize .i64 .i64 m (by rw [hby]; exact hb) hm (Nat.le_refl _)
    have hbl : Below w.heap.size w wm := (Below.refl _ _).grown hg (Nat.le_refl _) (fun j hj => by cases hj)
    rw [hzz, ← hzl, made_flat (by omega)] at hown
    have hO : Owned wm w.heap.size wm.heap.size (some ⟨w.heap.size, 0, none⟩) (List.replicate m zs).flatten := (Owned.of_row hown).wide (Nat.le_refl _) (Nat.le_refl _)
    have hnd : (blks (some ⟨w.heap.size, 0, none⟩) (List.replicate m zs).flatten).Nodup := by unfold blks; split <;> simp
    refine ⟨_, wm, _, ?_, S.add hbl (ow (rLsw r) w.heap.size wm.heap.size (List.replicate m z) [.slice (some ⟨w.heap.size, 0, none⟩) m m] (blks (some ⟨w.heap.size, 0, none⟩) (List.replicate m zs).flatten ++ [])) ⟨⟨_, m, _, [], by rw [List.length_replicate], by rw [List.length_replicate]; exact Nat.le_refl _, rfl, own_replicate (hz _ _ _) m, hO⟩, by rw [List.append_nil]; exact hnd⟩ (Nat.le_refl _) (Nat.le_refl _), kk _ _ _⟩
    unfold execOp
    simp only [hop, hx, hy, Sem.run_bind, hrun, Sem.run_pure, Result.andThen_ok]
end
section
variable {P : Program} {n : Nat} {Q : Exit → Act → World → Prop} {w0 : World} {T : Tl} {Z : World → Prop} {L Lz : List Res} {l : List Oper} {o : Oper} {r : Ord.Ot}
theorem GT.elem (t e : TypeId) (x y : Operand) (size bytes b off m c k : Nat) (i : Nat) (ho : l[i]? = some o) (hop : o.op = .indexAddr t x y) (hc : chk n T l.toArray o = true) (he : elemB P t e size bytes = true) (hx : ev T x = .slice (some ⟨b, off, none⟩) m c) (hy : ev T y = .int .i64 (k : Int)) (hk : k < m)
    (h : GT P n l.toArray Q Z w0 (up o.dst (.pointer (some ⟨b, off + k * size, none⟩)) T) L r) : GT P n l.toArray Q Z w0 T L (.take i r) :=
  GT.pure _ i ho hc (fun w => by
    unfold execOp
    simp only [hop, hx, hy, Sem.run_bind, run_elem he b off m c k hk w, Sem.run_pure, Result.andThen_ok]) h
theorem GT.ldr (t : TypeId) (x : Operand) (b off : Nat) (cs : List Value) (i : Nat) (ho : l[i]? = some o) (hop : o.op = .load t x) (hc : chk n T l.toArray o = true) (hx : ev T x = .pointer (some ⟨b, off, none⟩)) (hrd : ∀ w, St w0 w Lz → w.rangeAt b off cs) (hr : isRow P t = true) (hi : (P.info? t).map (·.size) = some cs.length)
    (k : GT P n l.toArray Q (fun w => St w0 w Lz) w0 (up o.dst (.agg cs.toArray) T) L r) : GT P n l.toArray Q (fun w => St w0 w Lz) w0 T L (.take i r) :=
  GT.reads _ i ho hc (fun w S => by
    obtain ⟨d, hu, hd⟩ := isRow_spec hr
    unfold execOp
    have h := run_loadAt_mid (P := P) w b off t cs d (hrd w S) hu hd hi
    simp only [hop, hx, Sem.run_bind, h, Sem.run_pure, Result.andThen_ok]) k
theorem GT.ldr1 (t : TypeId) (x : Operand) (b off : Nat) (v : Value) (i : Nat) (ho : l[i]? = some o) (hop : o.op = .load t x) (hc : chk n T l.toArray o = true) (hx : ev T x = .pointer (some ⟨b, off, none⟩)) (hrd : ∀ w, St w0 w Lz → w.cell? ⟨b, off, none⟩ = some v) (hr : isCell P t = true)
    (k : GT P n l.toArray Q (fun w => St w0 w Lz) w0 (up o.dst v T) L r) : GT P n l.toArray Q (fun w => St w0 w Lz) w0 T L (.take i r) :=
  GT.reads _ i ho hc (fun w S => by
    unfold execOp
    simp only [hop, hx, Sem.run_bind, run_cell hr (hrd w S), Sem.run_pure, Result.andThen_ok]) k
end
end Go.Proofs.Ytmiokacihcpepaa.Sx
