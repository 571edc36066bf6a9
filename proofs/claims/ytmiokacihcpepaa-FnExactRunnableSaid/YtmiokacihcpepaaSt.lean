/-
  What a call holds of memory, as a list of claims that hang on blocks of their own: one fact for the whole of it, handed on from world to world; lists whose memory is a row of their own. No statement about the program stands here. No condition.
-/
import Derived.Test.YtmiokacihcpepaaVar
import Derived.Test.YtmiokacihcpepaaDataO
namespace Go.Proofs.Ytmiokacihcpepaa.Stt
set_option maxRecDepth 100000
open Go.ChangeShapes Go.WideShapes Go.ChangeAt Go.RowKit
open Go.Proofs.Ytmiokacihcpepaa.Base Go.Proofs.Ytmiokacihcpepaa.Mem Go.Proofs.Ytmiokacihcpepaa.Data
set_option linter.unusedVariables false

/-- The blocks of f alone have turned, and new ones have come. -/
structure Only (f : Nat → Prop) (w w' : World) : Prop where
  os : w'.os = w.os
  tape : w'.tape = w.tape
  output : w'.output = w.output
  size : w.heap.size ≤ w'.heap.size
  block : ∀ k, k < w.heap.size → ¬ f k → w'.heap[k]? = w.heap[k]?
theorem Only.refl (f : Nat → Prop) (w : World) : Only f w w := ⟨rfl, rfl, rfl, Nat.le_refl _, fun _ _ _ => rfl⟩
theorem Only.of_below {f : Nat → Prop} {w w' : World} (h : Below w.heap.size w w') : Only f w w' := ⟨h.os, h.tape, h.output, h.size, fun k hk _ => h.block k hk⟩
theorem Only.of_grown {f : Nat → Prop} {w w' : World} {row : Option Nat} (h : w.grownBy w' row) (hf : ∀ k, row = some k → f k) : Only f w w' :=
  ⟨h.os, h.tape, h.output, h.size, fun k hk hn => h.block k hk fun e => hn (hf k e.symm)⟩
theorem Only.trans {f : Nat → Prop} {a b c : World} (h : Only f a b) (k : Only f b c) : Only f a c :=
  ⟨k.os.trans h.os, k.tape.trans h.tape, k.output.trans h.output, Nat.le_trans h.size k.size, fun i hi hn => (k.block i (Nat.lt_of_lt_of_le hi h.size) hn).trans (h.block i hi hn)⟩
theorem Only.weak {f g : Nat → Prop} {w w' : World} (h : Only f w w') (hfg : ∀ k, f k → g k) : Only g w w' := ⟨h.os, h.tape, h.output, h.size, fun k hk hn => h.block k hk fun e => hn (hfg k e)⟩
theorem Only.set {f : Nat → Prop} (w : World) {b : Nat} (hf : f b) (i : Nat) (u : Value) : Only f w (w.setCell ⟨b, i, none⟩ u) :=
  ⟨rfl, rfl, rfl, by simp, fun k _ hn => Below.heap_setCell w ⟨b, i, none⟩ u k (by show k ≠ b; intro e; exact hn (e ▸ hf))⟩
theorem Only.below {f : Nat → Prop} {w w' : World} (h : Only f w w') {B : Nat} (hB : B ≤ w.heap.size) (hf : ∀ k, f k → B ≤ k) : Below B w w' :=
  ⟨h.os, h.tape, h.output, h.size, fun k hk => h.block k (Nat.lt_of_lt_of_le hk hB) fun e => by have := hf k e; omega⟩

/-- A claim on memory: what it says of a world, and the blocks that it hangs on. -/
structure Res where
  says : World → Prop
  foot : Nat → Prop
  lo : Nat
  hi : Nat
  inn : ∀ k, foot k → lo ≤ k ∧ k < hi
  kept : ∀ {w w' : World}, says w → (∀ k, foot k → w'.heap[k]? = w.heap[k]?) → says w'
/-- What a call holds: nothing of old has turned, and these claims of its own, no two on one block. -/
structure St (w0 w : World) (L : List Res) : Prop where
  below : Below w0.heap.size w0 w
  says : ∀ (i : Nat) (r : Res), L[i]? = some r → r.says w
  lo : ∀ (i : Nat) (r : Res), L[i]? = some r → w0.heap.size ≤ r.lo
  hi : ∀ (i : Nat) (r : Res), L[i]? = some r → r.hi ≤ w.heap.size
  apart : ∀ (i j : Nat) (r s : Res), L[i]? = some r → L[j]? = some s → i ≠ j → ∀ k, r.foot k → ¬ s.foot k

section
variable {w0 w w' : World} {L : List Res} {r : Res}
theorem St.start (w : World) : St w w [] := ⟨Below.refl _ _, fun i r h => by simp at h, fun i r h => by simp at h, fun i r h => by simp at h, fun i j r s h => by simp at h⟩
theorem St.at_ (S : St w0 w L) (i : Nat) (h : L[i]? = some r) : r.says w := S.says i r h
theorem St.footlt (S : St w0 w L) {i : Nat} (h : L[i]? = some r) {k : Nat} (hk : r.foot k) : w0.heap.size ≤ k ∧ k < w.heap.size := by
  have h1 := r.inn k hk
  have h2 := S.lo i r h
  have h3 := S.hi i r h
  omega
/-- A call, a draw, new blocks: whatever leaves the old alone. -/
theorem St.call (S : St w0 w L) (hb : Below w.heap.size w w') : St w0 w' L :=
  ⟨S.below.trans (hb.mono S.below.size), fun i r h => r.kept (S.says i r h) fun k hk => hb.block k (S.footlt h hk).2, S.lo, fun i r h => Nat.le_trans (S.hi i r h) hb.size, S.apart⟩
/-- .. that leaves a claim behind. -/
theorem St.add (S : St w0 w L) (hb : Below w.heap.size w w') (r : Res) (hs : r.says w') (hl : w.heap.size ≤ r.lo) (hh : r.hi ≤ w'.heap.size) : St w0 w' (r :: L) := by
  have T := S.call hb
  refine ⟨T.below, fun i s h => ?_, fun i s h => ?_, fun i s h => ?_, fun i j s t h1 h2 hne k hk hk' => ?_⟩
  · cases i with
    | zero => cases h; exact hs
    | succ i => exact T.says i s h
  · cases i with
    | zero => cases h; exact Nat.le_trans S.below.size hl
    | succ i => exact T.lo i s h
  · cases i with
    | zero => cases h; exact hh
    | succ i => exact T.hi i s h
  · cases i with
    | zero =>
      cases h1
      cases j with
      | zero => exact hne rfl
      | succ j => have h3 := (S.footlt h2 hk').2; have h4 := (r.inn k hk).1; omega
    | succ i =>
      cases j with
      | zero => cases h2; have h3 := (S.footlt h1 hk).2; have h4 := (r.inn k hk').1; omega
      | succ j => exact S.apart i j s t h1 h2 (by omega) k hk hk'
/-- One claim's blocks have turned (and new ones have come): it is another claim now. -/
theorem St.turn (S : St w0 w L) (i : Nat) (h : L[i]? = some r) (r' : Res) (hc : Only r.foot w w') (hs : r'.says w') (hf : ∀ k, r'.foot k → r.foot k ∨ w.heap.size ≤ k) (hl : w0.heap.size ≤ r'.lo) (hh : r'.hi ≤ w'.heap.size) : St w0 w' (L.set i r') := by
  have hi : i < L.length := (List.getElem?_eq_some_iff.1 h).1
  have key : ∀ (j : Nat) (s : Res), (L.set i r')[j]? = some s → (j = i ∧ s = r') ∨ (j ≠ i ∧ L[j]? = some s) := fun j s hj => by
    by_cases e : j = i
    · subst e
      rw [List.getElem?_set_self hi] at hj
      cases hj
      exact .inl ⟨rfl, rfl⟩
    · rw [List.getElem?_set_ne (fun e' => e e'.symm)] at hj
      exact .inr ⟨e, hj⟩
  refine ⟨S.below.trans (hc.below S.below.size fun k hk => (S.footlt h hk).1), fun j s hj => ?_, fun j s hj => ?_, fun j s hj => ?_, fun j j' s t h1 h2 hne k hk hk' => ?_⟩
  · rcases key j s hj with ⟨_, rfl⟩ | ⟨e, hj⟩
    · exact hs
    · exact s.kept (S.says j s hj) fun k hk => hc.block k (S.footlt hj hk).2 (S.apart j i s r hj h e k hk)
  · rcases key j s hj with ⟨_, rfl⟩ | ⟨e, hj⟩
    · exact hl
    · exact S.lo j s hj
  · rcases key j s hj with ⟨_, rfl⟩ | ⟨e, hj⟩
    · exact hh
    · exact Nat.le_trans (S.hi j s hj) hc.size
  · rcases key j s h1 with ⟨e1, e2⟩ | ⟨e, h1'⟩
    · rcases key j' t h2 with ⟨e3, e4⟩ | ⟨e', h2'⟩
      · exact hne (e1.trans e3.symm)
      · rw [e2] at hk
        rcases hf k hk with hk | hk
        · exact S.apart i j' r t h h2' (fun x => hne (e1.trans x)) k hk hk'
        · have := (S.footlt h2' hk').2; omega
    · rcases key j' t h2 with ⟨e3, e4⟩ | ⟨e', h2'⟩
      · rw [e4] at hk'
        rcases hf k hk' with hk' | hk'
        · exact S.apart j i s r h1' h (fun x => hne (x.trans e3.symm)) k hk hk'
        · have := (S.footlt h1' hk).2; omega
      · exact S.apart j j' s t h1' h2' hne k hk hk'
/-- A claim is taken to pieces. -/
theorem St.cut (S : St w0 w L) (i : Nat) (h : L[i]? = some r) (r1 r2 : Res) (h1 : r1.says w) (h2 : r2.says w) (f1 : ∀ k, r1.foot k → r.foot k) (f2 : ∀ k, r2.foot k → r.foot k) (ha : ∀ k, r1.foot k → ¬ r2.foot k)
    (l1 : w0.heap.size ≤ r1.lo) (l2 : w0.heap.size ≤ r2.lo) (g1 : r1.hi ≤ w.heap.size) (g2 : r2.hi ≤ w.heap.size) : St w0 w (r1 :: L.set i r2) := by
  have T := S.turn i h r2 (Only.refl _ _) h2 (fun k hk => .inl (f2 k hk)) l2 g2
  have hi : i < L.length := (List.getElem?_eq_some_iff.1 h).1
  have key : ∀ (j : Nat) (s : Res), (L.set i r2)[j]? = some s → ∀ k, r1.foot k → ¬ s.foot k := fun j s hj k hk hk' => by
    by_cases e : j = i
    · subst e
      rw [List.getElem?_set_self hi] at hj
      cases hj
      exact ha k hk hk'
    · rw [List.getElem?_set_ne (fun e' => e e'.symm)] at hj
      exact S.apart i j r s h hj (fun e' => e e'.symm) k (f1 k hk) hk'
  refine ⟨T.below, fun j s hj => ?_, fun j s hj => ?_, fun j s hj => ?_, fun j j' s t hj hj' hne k hk hk' => ?_⟩
  · cases j with
    | zero => cases hj; exact h1
    | succ j => exact T.says j s hj
  · cases j with
    | zero => cases hj; exact l1
    | succ j => exact T.lo j s hj
  · cases j with
    | zero => cases hj; exact g1
    | succ j => exact T.hi j s hj
  · cases j with
    | zero =>
      cases hj
      cases j' with
      | zero => exact hne rfl
      | succ j' => exact key j' t hj' k hk hk'
    | succ j =>
      cases j' with
      | zero => cases hj'; exact key j s hj k hk' hk
      | succ j' => exact T.apart j j' s t hj hj' (by omega) k hk hk'
/-- Claims may be left out, and brought into another order. -/
theorem St.pick (S : St w0 w L) (is : List Nat) (L' : List Res) (hL : is.map (fun i => L[i]?) = L'.map some) (hn : is.Nodup) : St w0 w L' := by
  have key : ∀ (j : Nat) (s : Res), L'[j]? = some s → ∃ i, is[j]? = some i ∧ L[i]? = some s := fun j s hj => by
    have h1 : (L'.map some)[j]? = some (some s) := by rw [List.getElem?_map, hj]; rfl
    rw [← hL, List.getElem?_map] at h1
    cases hi : is[j]? with
    | none => rw [hi] at h1; cases h1
    | some i => rw [hi] at h1; exact ⟨i, rfl, by simpa using h1⟩
  refine ⟨S.below, fun j s hj => ?_, fun j s hj => ?_, fun j s hj => ?_, fun j j' s t hj hj' hne k hk hk' => ?_⟩
  · obtain ⟨i, _, h⟩ := key j s hj; exact S.says i s h
  · obtain ⟨i, _, h⟩ := key j s hj; exact S.lo i s h
  · obtain ⟨i, _, h⟩ := key j s hj; exact S.hi i s h
  · obtain ⟨i, e, h⟩ := key j s hj
    obtain ⟨i', e', h'⟩ := key j' t hj'
    refine S.apart i i' s t h h' (fun he => hne ?_) k hk hk'
    subst he
    exact (List.getElem?_inj (List.getElem?_eq_some_iff.1 e).1 hn).1 (e.trans e'.symm)
end

/-! ### Claims -/
/-- A variable. -/
def vr (b : Nat) (vs : List Value) : Res where
  says w := Var w b vs
  foot k := k = b
  lo := b
  hi := b + 1
  inn k h := by omega
  kept h hk := by
    have e := hk _ rfl
    refine ⟨fun i v hv => ⟨(World.cell?_of_block (a := ⟨b, i, none⟩) e).trans (h.1 i v hv).1, (World.frozen?_of_block (a := ⟨b, i, none⟩) e).trans (h.1 i v hv).2⟩, ?_⟩
    rw [Array.getElem?_eq_getElem h.2] at e
    exact (Array.getElem?_eq_some_iff.1 e).1
/-- A value in memory of its own. -/
def ow {α : Type} (r : Rp α) (lo hi : Nat) (x : α) (cs : List Value) (F : List Nat) : Res where
  says w := r.own w lo hi x cs F ∧ F.Nodup
  foot k := k ∈ F ∧ lo ≤ k ∧ k < hi
  lo := lo
  hi := hi
  inn k h := h.2
  kept h hk := ⟨r.okept h.1 fun k hF => hk k ⟨hF, r.inF h.1 k hF⟩, h.2⟩
section
variable {w0 w w' : World} {L : List Res}
theorem St.alloc (S : St w0 w L) (vs : List Value) (T : TypeId) : St w0 (w.alloc (.cells vs.toArray T)) (vr w.heap.size vs :: L) :=
  S.add ((Below.refl _ _).alloc (Nat.le_refl _) _) (vr w.heap.size vs) (Var.new w vs T) (Nat.le_refl _) (by simp [vr])
theorem St.drew (S : St w0 w L) : St w0 w.drew L := S.call (Below.refl _ _).drew
theorem St.cell (S : St w0 w L) (i : Nat) {b : Nat} {vs : List Value} (h : L[i]? = some (vr b vs)) (j : Nat) {v : Value} (hv : vs[j]? = some v) : w.cell? ⟨b, j, none⟩ = some v := (S.at_ i h).cell j hv
theorem St.loose (S : St w0 w L) (i : Nat) {b : Nat} {vs : List Value} (h : L[i]? = some (vr b vs)) (j : Nat) {v : Value} (hv : vs[j]? = some v) : w.frozen? ⟨b, j, none⟩ = false := (S.at_ i h).loose j hv
/-- A store into a variable. -/
theorem St.store (S : St w0 w L) (i : Nat) {b : Nat} {vs : List Value} (h : L[i]? = some (vr b vs)) (j : Nat) (v : Value) : St w0 (w.setCell ⟨b, j, none⟩ v) (L.set i (vr b (vs.set j v))) :=
  S.turn i h (vr b (vs.set j v)) (Only.set w (show (vr b vs).foot b from rfl) j v) ((S.at_ i h).set j v) (fun k hk => .inl hk) (show w0.heap.size ≤ b from S.lo i (vr b vs) h) (by have := S.hi i (vr b vs) h; simpa [vr] using this)
/-- A call hands back a value of its own. -/
theorem St.got {α : Type} {r : Rp α} {x : α} {cs : List Value} {F : List Nat} (S : St w0 w L) (hb : Below w.heap.size w w') (h : r.own w' w.heap.size w'.heap.size x cs F) (hF : F.Nodup) : St w0 w' (ow r w.heap.size w'.heap.size x cs F :: L) :=
  S.add hb (ow r w.heap.size w'.heap.size x cs F) ⟨h, hF⟩ (Nat.le_refl _) (Nat.le_refl _)
end

/-- What a call hands back: a value of its own. -/
def Gives {α : Type} (r : Rp α) (w : World) (x : α) (e : Ending) (w' : World) : Prop := ∃ cs F, e = .returned (r.val cs) ∧ r.own w' w.heap.size w'.heap.size x cs F ∧ F.Nodup ∧ Below w.heap.size w w'

/-- A claim is taken to pieces: whatever pieces, no two on one block. -/
theorem St.parts {w0 w : World} {T : List Res} {r : Res} (S : St w0 w (r :: T)) (rs : List Res) (hs : ∀ s ∈ rs, s.says w ∧ (∀ k, s.foot k → r.foot k) ∧ w0.heap.size ≤ s.lo ∧ s.hi ≤ w.heap.size) (ha : rs.Pairwise fun s t => ∀ k, s.foot k → ¬ t.foot k) : St w0 w (rs ++ T) := by
  have key : ∀ (j : Nat) (s : Res), (rs ++ T)[j]? = some s → (j < rs.length ∧ rs[j]? = some s) ∨ (rs.length ≤ j ∧ (r :: T)[j - rs.length + 1]? = some s) := fun j s hj => by
    by_cases h : j < rs.length
    · rw [List.getElem?_append_left h] at hj; exact .inl ⟨h, hj⟩
    · rw [List.getElem?_append_right (by omega)] at hj; exact .inr ⟨by omega, by simpa using hj⟩
  have mem : ∀ {j : Nat} {s : Res}, rs[j]? = some s → s ∈ rs := fun h => List.mem_of_getElem? h
  refine ⟨S.below, fun j s hj => ?_, fun j s hj => ?_, fun j s hj => ?_, fun j j' s t hj hj' hne k hk hk' => ?_⟩
  · rcases key j s hj with ⟨_, h⟩ | ⟨_, h⟩
    · exact (hs s (mem h)).1
    · exact S.says _ s h
  · rcases key j s hj with ⟨_, h⟩ | ⟨_, h⟩
    · exact (hs s (mem h)).2.2.1
    · exact S.lo _ s h
  · rcases key j s hj with ⟨_, h⟩ | ⟨_, h⟩
    · exact (hs s (mem h)).2.2.2
    · exact S.hi _ s h
  · rcases key j s hj with ⟨l1, h⟩ | ⟨l1, h⟩
    · rcases key j' t hj' with ⟨l2, h'⟩ | ⟨l2, h'⟩
      · have hp := List.pairwise_iff_getElem.1 ha
        obtain ⟨x1, e1⟩ := List.getElem?_eq_some_iff.1 h
        obtain ⟨x2, e2⟩ := List.getElem?_eq_some_iff.1 h'
        rcases Nat.lt_or_gt_of_ne hne with x | x
        · exact hp j j' x1 x2 x k (by rw [e1]; exact hk) (by rw [e2]; exact hk')
        · exact hp j' j x2 x1 x k (by rw [e2]; exact hk') (by rw [e1]; exact hk)
      · exact S.apart 0 _ r t rfl h' (by omega) k ((hs s (mem h)).2.1 k hk) hk'
    · rcases key j' t hj' with ⟨l2, h'⟩ | ⟨l2, h'⟩
      · exact S.apart 0 _ r s rfl h (by omega) k ((hs t (mem h')).2.1 k hk') hk
      · exact S.apart _ _ s t h h' (by omega) k hk hk'
/-- Two values of their own share no block. -/
theorem St.disj {α β : Type} {w0 w : World} {L : List Res} {r : Rp α} {q : Rp β} {lo hi lo' hi' : Nat} {x : α} {y : β} {cs cs' : List Value} {F G : List Nat} (S : St w0 w L) (i j : Nat) (h : L[i]? = some (ow r lo hi x cs F)) (h' : L[j]? = some (ow q lo' hi' y cs' G)) (hne : i ≠ j) : ∀ k ∈ F, k ∉ G := fun k hk hk' => by
  have h1 := r.inF (S.at_ i h).1 k hk
  have h2 := q.inF (S.at_ j h').1 k hk'
  exact S.apart i j _ _ h h' hne k ⟨hk, h1⟩ ⟨hk', h2⟩
/-- .. as the whole call's own. -/
theorem St.own {α : Type} {w0 w : World} {L : List Res} {r : Rp α} {lo hi : Nat} {x : α} {cs : List Value} {F : List Nat} (S : St w0 w L) (i : Nat) (h : L[i]? = some (ow r lo hi x cs F)) : r.own w w0.heap.size w.heap.size x cs F :=
  r.owide (S.at_ i h).1 (S.lo i _ h) (S.hi i _ h)
theorem St.nodup {α : Type} {w0 w : World} {L : List Res} {r : Rp α} {lo hi : Nat} {x : α} {cs : List Value} {F : List Nat} (S : St w0 w L) (i : Nat) (h : L[i]? = some (ow r lo hi x cs F)) : F.Nodup := (S.at_ i h).2
theorem St.reads {α : Type} {w0 w : World} {L : List Res} {r : Rp α} {lo hi : Nat} {x : α} {cs : List Value} {F : List Nat} (S : St w0 w L) (i : Nat) (h : L[i]? = some (ow r lo hi x cs F)) : r.rd w 0 w.heap.size x cs :=
  r.wide (r.reads (S.own i h)) (Nat.zero_le _) (Nat.le_refl _)
/-- What was there at the start still shows what it showed. -/
theorem St.old {α : Type} {w0 w : World} {L : List Res} {r : Rp α} {x : α} {cs : List Value} (S : St w0 w L) (h : r.rd w0 0 w0.heap.size x cs) : r.rd w 0 w.heap.size x cs :=
  r.wide (rd_below h S.below (Nat.le_refl _)) (Nat.le_refl _) S.below.size
theorem nodup_app {F G : List Nat} (hF : F.Nodup) (hG : G.Nodup) (h : ∀ k ∈ F, k ∉ G) : (F ++ G).Nodup := List.nodup_append.2 ⟨hF, hG, fun a ha b hb e => h a ha (e ▸ hb)⟩
theorem not_app {k : Nat} {F G : List Nat} (h : k ∉ F) (h' : k ∉ G) : k ∉ F ++ G := fun x => (List.mem_append.1 x).elim h h'

/-! ### Lists in rows of their own -/
theorem ownsRow_keep {w w' : World} {base size n : Nat} {e : TypeId} {v : Value} {xs : List Value} (h : w.ownsRow base e size v n xs) (hk : ∀ k, v.ownBlock = some k → w'.heap[k]? = w.heap[k]?) : w'.ownsRow base e size v n xs := by
  obtain ⟨h1, h2⟩ := h
  refine ⟨h1, ?_⟩
  rcases h2 with h2 | ⟨g, cap, cur, hv, hg, hh, r⟩
  · exact .inl h2
  · exact .inr ⟨g, cap, cur, hv, hg, (hk g (by rw [hv]; rfl)).trans hh, r⟩
theorem ownsRow_low {w : World} {base base' size n : Nat} {e : TypeId} {v : Value} {xs : List Value} (h : w.ownsRow base e size v n xs) (hb : base' ≤ base) : w.ownsRow base' e size v n xs := by
  obtain ⟨h1, h2⟩ := h
  refine ⟨h1, ?_⟩
  rcases h2 with h2 | ⟨g, cap, cur, hv, hg, r⟩
  · exact .inl h2
  · exact .inr ⟨g, cap, cur, hv, Nat.le_trans hb hg, r⟩
theorem row_form {w : World} {base size n : Nat} {e : TypeId} {v : Value} {xs : List Value} (h : w.ownsRow base e size v n xs) : ∃ A c, v = .slice A n c ∧ n ≤ c := by
  rcases h.2 with ⟨rfl, rfl⟩ | ⟨g, cap, cur, rfl, _, _, hc, _⟩
  · exact ⟨none, 0, rfl, Nat.le_refl _⟩
  · exact ⟨_, cap, rfl, hc⟩
theorem row_lies {w : World} {base size n c hi : Nat} {e : TypeId} {A : Option Addr} {xs : List Value} (h : w.ownsRow base e size (.slice A n c) n xs) (hh : ∀ k, (Value.slice A n c).ownBlock = some k → k < hi) : Owned w base hi A xs := by
  have o := Owned.of_row h
  refine ⟨fun j u hu => ?_, o.2⟩
  obtain ⟨b, off, e1, x, y, z⟩ := o.1 j u hu
  exact ⟨b, off, e1, x, hh b (by rw [e1]; rfl), z⟩
/-- A list as it is read: its length is within its capacity. -/
def rdLst {α : Type} (r : Rp α) (w : World) (lo hi : Nat) (xs : List α) (cs : List Value) : Prop := ∃ A c ds, cs = [.slice A xs.length c] ∧ xs.length ≤ c ∧ rdAll r w lo hi xs ds ∧ Lies w lo hi A ds
theorem rdLst.kept {α : Type} {r : Rp α} {w w' : World} {lo hi : Nat} {xs : List α} {cs : List Value} (h : rdLst r w lo hi xs cs) (hb : ∀ k, lo ≤ k → k < hi → w'.heap[k]? = w.heap[k]?) : rdLst r w' lo hi xs cs := by
  obtain ⟨A, c, ds, e, hc, h1, h2⟩ := h
  exact ⟨A, c, ds, e, hc, rdAll_kept hb h1, h2.kept hb⟩
theorem rdLst.wide {α : Type} {r : Rp α} {w : World} {lo hi lo' hi' : Nat} {xs : List α} {cs : List Value} (h : rdLst r w lo hi xs cs) (a : lo' ≤ lo) (b : hi ≤ hi') : rdLst r w lo' hi' xs cs := by
  obtain ⟨A, c, ds, e, hc, h1, h2⟩ := h
  exact ⟨A, c, ds, e, hc, rdAll_wide a b h1, h2.wide a b⟩
/-- Lists in memory of their own, wherever it lies in its block. -/
def rLsw {α : Type} (r : Rp α) : Rp (List α) where
  sz := 1
  val cs := cs.headD undef
  rd := rdLst r
  own w lo hi xs cs F := ∃ A c ds F1, cs = [.slice A xs.length c] ∧ xs.length ≤ c ∧ F = blks A ds ++ F1 ∧ ownAll r w lo hi xs ds F1 ∧ Owned w lo hi A ds
  wf xs := xs.length ≤ maxLen ∧ ∀ x ∈ xs, r.wf x
  cap xs := xs.length ≤ 1048576 ∧ ∀ x ∈ xs, r.cap x
  size xs := xs.length + sizeAll r xs
  cnt xs := cntAll r xs
  mark k xs := mkAll r k xs
  tcnt xs := cntAll r xs
  top k xs := mkAll r k xs
  len h := by obtain ⟨A, c, ds, rfl, _⟩ := h; rfl
  kept h hb := h.kept hb
  wide h a b := h.wide a b
  reads h := by
    obtain ⟨A, c, ds, F1, e, hc, _, h1, h2⟩ := h
    exact ⟨A, c, ds, e, hc, ownAll_reads h1, h2.1⟩
  okept h hb := by
    obtain ⟨A, c, ds, F1, e, hc, rfl, h1, h2⟩ := h
    exact ⟨A, c, ds, F1, e, hc, rfl, ownAll_kept h1 fun k hk => hb k (by simp [hk]), owned_agree h2 fun k hk => hb k (by simp [hk])⟩
  owide h a b := by
    obtain ⟨A, c, ds, F1, e, hc, f, h1, h2⟩ := h
    exact ⟨A, c, ds, F1, e, hc, f, ownAll_wide a b h1, h2.wide a b⟩
  inF h k hk := by
    obtain ⟨A, c, ds, F1, e, hc, rfl, h1, h2⟩ := h
    rcases List.mem_append.1 hk with hk | hk
    · exact blks_in h2 hk
    · exact ownAll_inF h1 k hk
/-- Lists whose memory is a row of their own (e: the type of the row). -/
def rLst {α : Type} (e : TypeId) (r : Rp α) : Rp (List α) where
  sz := 1
  val cs := cs.headD undef
  rd := rdLst r
  own w lo hi xs cs F := ∃ v ds F1, cs = [v] ∧ F = v.ownBlock.toList ++ F1 ∧ ownAll r w lo hi xs ds F1 ∧ w.ownsRow lo e r.sz v xs.length ds ∧ (∀ k, v.ownBlock = some k → k < hi)
  wf xs := xs.length ≤ maxLen ∧ ∀ x ∈ xs, r.wf x
  cap xs := xs.length ≤ 1048576 ∧ ∀ x ∈ xs, r.cap x
  size xs := xs.length + sizeAll r xs
  cnt xs := cntAll r xs
  mark k xs := mkAll r k xs
  tcnt xs := cntAll r xs
  top k xs := mkAll r k xs
  len h := by obtain ⟨A, c, ds, rfl, _⟩ := h; rfl
  kept h hb := h.kept hb
  wide h a b := h.wide a b
  reads h := by
    obtain ⟨v, ds, F1, e1, _, h1, h2, h3⟩ := h
    obtain ⟨A, c, rfl, hc⟩ := row_form h2
    exact ⟨A, c, ds, e1, hc, ownAll_reads h1, (row_lies h2 h3).1⟩
  okept h hb := by
    obtain ⟨v, ds, F1, e1, rfl, h1, h2, h3⟩ := h
    exact ⟨v, ds, F1, e1, rfl, ownAll_kept h1 fun k hk => hb k (by simp [hk]), ownsRow_keep h2 fun k hk => hb k (by simp [hk]), h3⟩
  owide h a b := by
    obtain ⟨v, ds, F1, e1, f, h1, h2, h3⟩ := h
    exact ⟨v, ds, F1, e1, f, ownAll_wide a b h1, ownsRow_low h2 a, fun k hk => Nat.lt_of_lt_of_le (h3 k hk) b⟩
  inF h k hk := by
    obtain ⟨v, ds, F1, e1, rfl, h1, h2, h3⟩ := h
    rcases List.mem_append.1 hk with hk | hk
    · have hk' : v.ownBlock = some k := by simpa using hk
      exact ⟨(h2.lt k hk').1, h3 k hk'⟩
    · exact ownAll_inF h1 k hk
theorem lst_own {α : Type} {e : TypeId} {r : Rp α} {w : World} {lo hi : Nat} {xs : List α} {cs : List Value} {F : List Nat} (h : (rLst e r).own w lo hi xs cs F) : ∃ v, cs = [v] := by
  obtain ⟨v, _, _, e, _⟩ := h
  exact ⟨v, e⟩
theorem lsw_own {α : Type} {r : Rp α} {w : World} {lo hi : Nat} {xs : List α} {cs : List Value} {F : List Nat} (h : (rLsw r).own w lo hi xs cs F) : ∃ v, cs = [v] := by
  obtain ⟨A, c, _, _, e, _⟩ := h
  exact ⟨_, e⟩
theorem lst_rd {α : Type} {r : Rp α} {w : World} {lo hi : Nat} {xs : List α} {cs : List Value} (h : rdLst r w lo hi xs cs) : ∃ v, cs = [v] := by
  obtain ⟨A, c, _, e, _⟩ := h
  exact ⟨_, e⟩
/-- The slice's value, and its length within its capacity. -/
theorem lst_val {α : Type} {r : Rp α} {w : World} {lo hi : Nat} {xs : List α} {v : Value} (h : rdLst r w lo hi xs [v]) : ∃ A c, v = .slice A xs.length c ∧ xs.length ≤ c := by
  obtain ⟨A, c, ds, e, hc, _⟩ := h
  cases e
  exact ⟨A, c, rfl, hc⟩
/-- A row of one's own is memory of one's own. -/
theorem lst_weak {α : Type} {e : TypeId} {r : Rp α} {w : World} {lo hi : Nat} {xs : List α} {cs : List Value} {F : List Nat} (h : (rLst e r).own w lo hi xs cs F) (hF : F.Nodup) : ∃ G, (rLsw r).own w lo hi xs cs G ∧ G.Nodup ∧ ∀ k ∈ G, k ∈ F := by
  obtain ⟨v, ds, F1, rfl, rfl, h1, h2, h3⟩ := h
  obtain ⟨A, c, rfl, hc⟩ := row_form h2
  obtain ⟨_, n1, n2⟩ := List.nodup_append.1 hF
  have hb : ∀ k ∈ blks A ds, (Value.slice A xs.length c).ownBlock = some k := fun k hk => by
    unfold blks at hk
    split at hk
    · cases hk
    · cases A with
      | none => simp at hk
      | some a => simp at hk; rw [hk]; rfl
  refine ⟨blks A ds ++ F1, ⟨A, c, ds, F1, rfl, hc, rfl, h1, row_lies h2 h3⟩, List.nodup_append.2 ⟨?_, n1, fun a ha b hb' e => n2 a (by simp [hb a ha]) b hb' e⟩, fun k hk => ?_⟩
  · unfold blks
    split
    · simp
    · cases A <;> simp
  · rcases List.mem_append.1 hk with hk | hk
    · simp [hb k hk]
    · simp [hk]
theorem St.weak {α : Type} {e : TypeId} {r : Rp α} {w0 w : World} {L : List Res} {lo hi : Nat} {xs : List α} {cs : List Value} {F : List Nat} (S : St w0 w L) (i : Nat) (h : L[i]? = some (ow (rLst e r) lo hi xs cs F)) : ∃ G, St w0 w (L.set i (ow (rLsw r) lo hi xs cs G)) := by
  obtain ⟨h1, h2⟩ := S.at_ i h
  obtain ⟨G, h3, h4, h5⟩ := lst_weak h1 h2
  exact ⟨G, S.turn i h (ow (rLsw r) lo hi xs cs G) (Only.refl _ _) ⟨h3, h4⟩ (fun k hk => .inl ⟨h5 k hk.1, hk.2⟩) (S.lo i (ow (rLst e r) lo hi xs cs F) h) (S.hi i (ow (rLst e r) lo hi xs cs F) h)⟩
/-- Lists of pairs and of numbers, cell by cell. -/
def pcells (l : List (Int × Int)) : List Value := l.flatMap fun s => [.int .i64 s.1, .int .i64 s.2]
theorem p2_cells {w : World} {lo hi : Nat} : ∀ {l : List (Int × Int)} {ds : List Value}, rdAll (rPair rInt rInt) w lo hi l ds → ds = pcells l
  | [], ds, h => h
  | s :: l, ds, h => by
    obtain ⟨c1, c2, rfl, ⟨a, b, rfl, ha, hb⟩, h2⟩ := h
    rw [show a = _ from ha, show b = _ from hb, p2_cells h2]
    rfl
theorem p2_all (w : World) (lo hi : Nat) : ∀ (l : List (Int × Int)), rdAll (rPair rInt rInt) w lo hi l (pcells l)
  | [] => rfl
  | s :: l => ⟨[.int .i64 s.1, .int .i64 s.2], pcells l, rfl, ⟨_, _, rfl, rfl, rfl⟩, p2_all w lo hi l⟩
def icells (l : List Int) : List Value := l.map fun n => .int .i64 n
theorem i1_cells {w : World} {lo hi : Nat} : ∀ {l : List Int} {ds : List Value}, rdAll rInt w lo hi l ds → ds = icells l
  | [], ds, h => h
  | s :: l, ds, h => by
    obtain ⟨c1, c2, rfl, h1, h2⟩ := h
    rw [show c1 = _ from h1, i1_cells h2]
    rfl
theorem i1_all (w : World) (lo hi : Nat) : ∀ (l : List Int), rdAll rInt w lo hi l (icells l)
  | [] => rfl
  | s :: l => ⟨[.int .i64 s], icells l, rfl, rfl, i1_all w lo hi l⟩
theorem p2_lies {w : World} {lo hi n c : Nat} {A : Option Addr} {l : List (Int × Int)} (h : rdLst (rPair rInt rInt) w lo hi l [.slice A n c]) : Lies w lo hi A (pcells l) := by
  obtain ⟨A', c', ds, e, _, h1, h2⟩ := h
  cases e
  rwa [p2_cells h1] at h2
theorem i1_lies {w : World} {lo hi n c : Nat} {A : Option Addr} {l : List Int} (h : rdLst rInt w lo hi l [.slice A n c]) : Lies w lo hi A (icells l) := by
  obtain ⟨A', c', ds, e, _, h1, h2⟩ := h
  cases e
  rwa [i1_cells h1] at h2
/-- What an old contract hands back: a list of pairs in memory of its own. -/
theorem p2_own {w : World} {lo hi c : Nat} {A : Option Addr} {l : List (Int × Int)} (hc : l.length ≤ c) (h : Owned w lo hi A (pcells l)) : (rLsw (rPair rInt rInt)).own w lo hi l [.slice A l.length c] (blks A (pcells l)) ∧ (blks A (pcells l)).Nodup :=
  ⟨⟨A, c, pcells l, [], rfl, hc, by simp, (show ∀ l : List (Int × Int), ownAll (rPair rInt rInt) w lo hi l (pcells l) [] from fun l => by
    induction l with
    | nil => exact ⟨rfl, rfl⟩
    | cons s l ih => exact ⟨[.int .i64 s.1, .int .i64 s.2], pcells l, [], [], rfl, rfl, ⟨_, _, [], [], rfl, rfl, ⟨rfl, rfl⟩, ⟨rfl, rfl⟩⟩, ih⟩) l, h⟩, by
    unfold blks
    split
    · simp
    · cases A <;> simp⟩
end Go.Proofs.Ytmiokacihcpepaa.Stt
