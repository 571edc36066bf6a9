/-
  Words for slices that lie in memory cell by cell, whatever their element's size; no statement about the program stands here. No condition.
-/
import Derived.Test.YtmiokacihcpepaaBase
import Derived.IntWalk
import Derived.Carry
namespace Go.Proofs.Ytmiokacihcpepaa.Mem
set_option maxRecDepth 100000
open Go.ChangeShapes Go.WideShapes Go.ChangeAt Go.RowKit
open Go.Proofs.Ytmiokacihcpepaa.Base

/-- The cells of a slice at A are cs; its block lies in lo .. hi - 1. -/
def Lies (w : World) (lo hi : Nat) (A : Option Addr) (cs : List Value) : Prop :=
  ∀ j u, cs[j]? = some u → ∃ b off, A = some ⟨b, off, none⟩ ∧ lo ≤ b ∧ b < hi ∧ w.cell? ⟨b, off + j, none⟩ = some u
/-- .. and none of its block's cells is frozen. -/
def Owned (w : World) (lo hi : Nat) (A : Option Addr) (cs : List Value) : Prop :=
  Lies w lo hi A cs ∧ ∀ b off, A = some ⟨b, off, none⟩ → 0 < cs.length → ∀ j, w.frozen? ⟨b, j, none⟩ = false

section
variable {w w' : World} {lo hi lo' hi' : Nat} {A : Option Addr} {cs : List Value}
theorem Lies.nil : Lies w lo hi A [] := fun j u h => by simp at h
theorem Lies.wide (h : Lies w lo hi A cs) (h1 : lo' ≤ lo) (h2 : hi ≤ hi') : Lies w lo' hi' A cs := fun j u hu => by
  obtain ⟨b, off, e, x, y, z⟩ := h j u hu
  exact ⟨b, off, e, by omega, by omega, z⟩
theorem Owned.wide (h : Owned w lo hi A cs) (h1 : lo' ≤ lo) (h2 : hi ≤ hi') : Owned w lo' hi' A cs := ⟨h.1.wide h1 h2, h.2⟩
theorem Lies.kept (h : Lies w lo hi A cs) (hb : ∀ k, lo ≤ k → k < hi → w'.heap[k]? = w.heap[k]?) : Lies w' lo hi A cs := fun j u hu => by
  obtain ⟨b, off, e, x, y, z⟩ := h j u hu
  exact ⟨b, off, e, x, y, (World.cell?_of_block (w := w) (a := ⟨b, off + j, none⟩) (hb b x y)).trans z⟩
theorem Lies.at_ (h : Lies w lo hi A cs) (hn : 0 < cs.length) : ∃ b off, A = some ⟨b, off, none⟩ ∧ lo ≤ b ∧ b < hi ∧ ∀ j u, cs[j]? = some u → w.cell? ⟨b, off + j, none⟩ = some u := by
  obtain ⟨b, off, e, x, y, _⟩ := h 0 _ (List.getElem?_eq_getElem hn)
  refine ⟨b, off, e, x, y, fun j u hu => ?_⟩
  obtain ⟨b', off', e', _, _, z⟩ := h j u hu
  rw [e] at e'
  cases e'
  exact z
theorem Owned.kept (h : Owned w lo hi A cs) (hb : ∀ k, lo ≤ k → k < hi → w'.heap[k]? = w.heap[k]?) : Owned w' lo hi A cs :=
  ⟨h.1.kept hb, fun b off e hn j => by
    obtain ⟨b', off', e', x, y, _⟩ := h.1.at_ hn
    rw [e] at e'
    cases e'
    exact (World.frozen?_of_block (w := w) (a := ⟨b, j, none⟩) (hb b x y)).trans (h.2 b off e hn j)⟩
theorem Lies.below {B : Nat} (h : Lies w lo hi A cs) (hb : Below B w w') (hB : hi ≤ B) : Lies w' lo hi A cs := h.kept fun k _ h2 => hb.block k (by omega)
theorem Owned.below {B : Nat} (h : Owned w lo hi A cs) (hb : Below B w w') (hB : hi ≤ B) : Owned w' lo hi A cs := h.kept fun k _ h2 => hb.block k (by omega)
theorem Lies.drewN (h : Lies w lo hi A cs) (n : Nat) : Lies (w.drewN n) lo hi A cs := h
theorem Owned.drewN (h : Owned w lo hi A cs) (n : Nat) : Owned (w.drewN n) lo hi A cs := h
theorem Lies.turned {lo2 hi2 : Nat} (h : Lies w lo hi A cs) (hb : ∀ k, k < w.heap.size → (k < lo2 ∨ hi2 ≤ k) → w'.heap[k]? = w.heap[k]?) (hh : hi ≤ w.heap.size) (hd : hi ≤ lo2 ∨ hi2 ≤ lo) : Lies w' lo hi A cs :=
  h.kept fun k h1 h2 => hb k (by omega) (by omega)
theorem Owned.turned {lo2 hi2 : Nat} (h : Owned w lo hi A cs) (hb : ∀ k, k < w.heap.size → (k < lo2 ∨ hi2 ≤ k) → w'.heap[k]? = w.heap[k]?) (hh : hi ≤ w.heap.size) (hd : hi ≤ lo2 ∨ hi2 ≤ lo) : Owned w' lo hi A cs :=
  h.kept fun k h1 h2 => hb k (by omega) (by omega)
theorem Owned.set {b off : Nat} (h : Owned w lo hi (some ⟨b, off, none⟩) cs) (j : Nat) (u : Value) : Owned (w.setCell ⟨b, off + j, none⟩ u) lo hi (some ⟨b, off, none⟩) (cs.set j u) := by
  refine ⟨fun i v hv => ?_, fun b' off' e hn i => ?_⟩
  · have hi : i < cs.length := by
      have := (List.getElem?_eq_some_iff.1 hv).1
      simpa using this
    obtain ⟨b', off', e, x, y, z⟩ := h.1 i _ (List.getElem?_eq_getElem hi)
    cases e
    refine ⟨b, off, rfl, x, y, ?_⟩
    by_cases hij : i = j
    · subst hij
      rw [List.getElem?_set_self hi] at hv
      cases hv
      exact World.cell?_setCell_same w _ _ z
    · rw [List.getElem?_set_ne (fun e => hij e.symm), List.getElem?_eq_getElem hi] at hv
      cases hv
      rw [World.cell?_setCell_other w _ _ u (by intro e; injection e with _ e2; omega)]
      exact z
  · cases e
    have := h.2 b off rfl (by simpa using hn) i
    simpa using this
/-- A row that the call owns. -/
theorem Owned.of_row {base size n c : Nat} {e : TypeId} (h : w.ownsRow base e size (.slice A n c) n cs) : Owned w base w.heap.size A cs := by
  rcases h.2 with ⟨h', h0⟩ | ⟨g, cap, cur, h', hb, hg, hnc, _, hcs, htake⟩
  · have hz : cs = [] := List.eq_nil_of_length_eq_zero (by rw [h.1, h0]; simp)
    subst hz
    exact ⟨Lies.nil, fun _ _ _ hn => absurd hn (by simp)⟩
  · injection h' with h1 h2 h3
    subst h1
    have hlt : g < w.heap.size := by
      rcases Nat.lt_or_ge g w.heap.size with x | x
      · exact x
      · rw [Array.getElem?_eq_none x] at hg; cases hg
    refine ⟨fun j u hu => ⟨g, 0, rfl, hb, hlt, ?_⟩, fun b off e _ j => ?_⟩
    · have := h.cells (g := g) rfl j u hu
      rwa [Addr.add_lit] at this
    · cases e
      exact frozen_of_row w g j cur _ hg
end

/-- Only blocks lo .. hi - 1 have turned, and new ones have come. -/
structure Turned (lo hi : Nat) (w w' : World) : Prop where
  os : w'.os = w.os
  tape : w'.tape = w.tape
  output : w'.output = w.output
  size : w.heap.size ≤ w'.heap.size
  block : ∀ k, k < w.heap.size → (k < lo ∨ hi ≤ k) → w'.heap[k]? = w.heap[k]?
theorem Turned.refl (lo hi : Nat) (w : World) : Turned lo hi w w := ⟨rfl, rfl, rfl, Nat.le_refl _, fun _ _ _ => rfl⟩
theorem Turned.trans {lo hi : Nat} {a b c : World} (h : Turned lo hi a b) (k : Turned lo hi b c) : Turned lo hi a c :=
  ⟨k.os.trans h.os, k.tape.trans h.tape, k.output.trans h.output, Nat.le_trans h.size k.size, fun i hi hd => (k.block i (Nat.lt_of_lt_of_le hi h.size) hd).trans (h.block i hi hd)⟩
theorem Turned.setCell {lo hi : Nat} {a w : World} (h : Turned lo hi a w) {b off : Nat} (h1 : lo ≤ b) (h2 : b < hi) (u : Value) : Turned lo hi a (w.setCell ⟨b, off, none⟩ u) :=
  h.trans ⟨rfl, rfl, rfl, by simp, fun i _ hd => Below.heap_setCell w ⟨b, off, none⟩ u i (by show i ≠ b; omega)⟩
theorem Turned.below {lo hi : Nat} {w w' : World} (h : Turned lo hi w w') {B : Nat} (hB : B ≤ lo) (hw : B ≤ w.heap.size) : Below B w w' :=
  ⟨h.os, h.tape, h.output, h.size, fun k hk => h.block k (by omega) (by omega)⟩
theorem Turned.drewN {lo hi : Nat} {a w : World} (h : Turned lo hi a w) (n : Nat) : Turned lo hi a (w.drewN n) := ⟨h.os, h.tape, h.output, h.size, h.block⟩
theorem btr {a b c : World} (h : Below a.heap.size a b) (k : Below b.heap.size b c) : Below a.heap.size a c := h.trans (k.mono h.size)

section
variable {H : Type} {enc : TypeId × Value → H} {P : Program}
/-- Arguments that were read are read again in every world that agrees on what was there. -/
theorem trodAll_stays (hl : laidOutB P = true) {W W' : World} (hb : Below W.heap.size W W') {sp : Nat → Bool} : ∀ (ts : List TypeId) (vs : List Value) (ds : List (DataW H)) (ps : List MemPlace),
    (∀ t ∈ ts, P.readableRec t = true ∧ t < P.types.size) → DataW.TrodAll enc P W 0 (fun _ => true) true ts vs ds ps → (∀ p ∈ ps, p.block < W.heap.size) → (∀ p ∈ ps, sp p.block = true) → DataW.TrodAll enc P W' 0 sp true ts vs ds ps
  | [], vs, ds, ps, _, h, _, _ => by
    obtain ⟨rfl, rfl, rfl⟩ := trodAll_nil h
    exact trodAll_mk0
  | t :: ts, vs, ds, ps, hr, h, hlt, hsp => by
    obtain ⟨v, vs', d, ds', p, q, rfl, rfl, rfl, h0, h1⟩ := trodAll_cons h
    have g0 := hr t (by simp)
    exact trodAll_cons_mk (WideElems.Trod_stays hl g0.1 g0.2 h0 (fun x hx => hb.same (hlt x (by simp [hx]))) (fun x hx => hsp x (by simp [hx])))
      (trodAll_stays hl hb ts vs' ds' q (fun t' ht => hr t' (by simp [ht])) h1 (fun x hx => hlt x (by simp [hx])) (fun x hx => hsp x (by simp [hx])))

/-- The row's last step where of the world behind the call 'Below' alone is known: whatever arguments, handed back as they came. -/
theorem post_args {f : Func} {s : ChangeSpec} {fresh handsOn again : Bool} {W W' : World} {args : Array Value} {v : Value} {ds : List (DataW H)} {ps : List MemPlace}
    (hl : laidOutB P = true) (hread : f.params.toList.all (fun t => P.readableRec t && decide (t < P.types.size)) = true)
    (hvs : s.vars = []) (hvr : (s.fn H (ds ++ [])).vars = []) (har : (s.fn H (ds ++ [])).args = ds)
    (hW : DataW.Whole enc P f.params.toList s.vars false W args.toList ds [] ps) (hA : DataW.TrodAll enc P W 0 (fun _ => true) true f.params.toList args.toList ds ps) (hb : Below W.heap.size W W')
    (hr : ∀ (b : Nat) (sp : Nat → Bool) (hd : Bool), DataW.TrodAll enc P W' b sp hd f.resultTypes.toList (v.resultList f.resultTypes.size) (s.fn H (ds ++ [])).results [])
    (hok : ∀ (j : Nat) (t : TypeId) (r : Value), f.resultTypes[j]? = some t → (v.resultList f.resultTypes.size)[j]? = some r → Value.okWide P W' .any 0 t r) :
    s.post enc P f false fresh handsOn again W args v W' := by
  refine post_kept hvs hvr hW hb hr (fun sp hsp => ?_) hok
  rw [har]
  refine trodAll_stays hl hb _ _ _ _ (fun t ht => ?_) hA (fun p hp => hW.lt p hp) hsp
  have := List.all_eq_true.1 hread t ht
  simpa using this
end
end Go.Proofs.Ytmiokacihcpepaa.Mem
