/-
  The texts that KSameBare wants, part 0: Base Mem Var Data DataO St StOp OrdT Sx SxRes Draw SxCur SxM SxRd Hole KitM KitF SlotH IntH RightsMath In SlotMath SlotArgs InsH Grid GridA GridH Part CtlH ExitH. No condition.
-/
import Derived.Test.YtldgadmpclgfhaaRows
import Derived.WalkKit
import Derived.ProofKit
import Derived.OpenShut
import Derived.Below
import Derived.OwnWalk
import Derived.Laws.OwnMore
import Derived.Laws.IdiomStrings
import Derived.Laws.BytesArg
import Derived.Deep.AppendLies
import Derived.Deep.Draws
import Derived.StillTailTactics
import Derived.StillTactics
import Derived.Deep.QuietTactic
import Derived.BigQuiet
import Derived.Lib.Hide
import Derived.Outline
import Derived.IntWalk
import Derived.Carry
import Derived.Deep.Slices
import Derived.ChangeArms
import Derived.Deep.MidRow
import Derived.Deep.RegionHeld3
import Derived.Deep.SlicePairs
import Derived.Lib.SmallJoins
namespace Go.Proofs.Ytldgadmpclgfhaa.Base
end Go.Proofs.Ytldgadmpclgfhaa.Base
namespace Go.Proofs.Ytldgadmpclgfhaa.Mem
end Go.Proofs.Ytldgadmpclgfhaa.Mem
namespace Go.Proofs.Ytldgadmpclgfhaa.Data
end Go.Proofs.Ytldgadmpclgfhaa.Data
namespace Go.Proofs.Ytldgadmpclgfhaa.Stt
end Go.Proofs.Ytldgadmpclgfhaa.Stt
namespace Go.Proofs.Ytldgadmpclgfhaa.App
end Go.Proofs.Ytldgadmpclgfhaa.App
namespace Go.Proofs.Ytldgadmpclgfhaa.Ord
end Go.Proofs.Ytldgadmpclgfhaa.Ord
namespace Go.Proofs.Ytldgadmpclgfhaa.Sx
end Go.Proofs.Ytldgadmpclgfhaa.Sx
namespace Go.Proofs.Ytldgadmpclgfhaa.Reg
end Go.Proofs.Ytldgadmpclgfhaa.Reg
namespace Go.Proofs.Ytldgadmpclgfhaa.Draw
end Go.Proofs.Ytldgadmpclgfhaa.Draw
namespace Go.Proofs.Ytldgadmpclgfhaa.Kit
end Go.Proofs.Ytldgadmpclgfhaa.Kit
namespace Go.Proofs.Ytldgadmpclgfhaa.Slots
end Go.Proofs.Ytldgadmpclgfhaa.Slots
namespace Go.Proofs.Ytldgadmpclgfhaa.Ints
end Go.Proofs.Ytldgadmpclgfhaa.Ints
namespace Go.Proofs.Ytldgadmpclgfhaa.Rights
end Go.Proofs.Ytldgadmpclgfhaa.Rights
namespace Go.Proofs.Ytldgadmpclgfhaa.Inss
end Go.Proofs.Ytldgadmpclgfhaa.Inss
namespace Go.Proofs.Ytldgadmpclgfhaa.Grid
end Go.Proofs.Ytldgadmpclgfhaa.Grid
namespace Go.Proofs.Ytldgadmpclgfhaa.Part
end Go.Proofs.Ytldgadmpclgfhaa.Part
namespace Go.Proofs.Ytldgadmpclgfhaa.Ctls
end Go.Proofs.Ytldgadmpclgfhaa.Ctls
namespace Go.Proofs.Ytldgadmpclgfhaa.Exits
end Go.Proofs.Ytldgadmpclgfhaa.Exits
namespace Go.Proofs.Ytldgadmpclgfhaa.Guests
end Go.Proofs.Ytldgadmpclgfhaa.Guests
namespace Go.Proofs.Ytldgadmpclgfhaa.Irqs
end Go.Proofs.Ytldgadmpclgfhaa.Irqs
namespace Go.Proofs.Ytldgadmpclgfhaa.BroughtW
end Go.Proofs.Ytldgadmpclgfhaa.BroughtW
namespace Go.Proofs.Ytldgadmpclgfhaa.Addrs
end Go.Proofs.Ytldgadmpclgfhaa.Addrs
namespace Go.Proofs.Ytldgadmpclgfhaa.fnExactSameBare
end Go.Proofs.Ytldgadmpclgfhaa.fnExactSameBare
namespace Go.Proofs.Ytldgadmpclgfhaa.Base
set_option maxRecDepth 100000
open Go.ChangeShapes Go.WideShapes Go.ChangeAt Go.RowKit
theorem own : ownKnob Try.prog.godebug = none := by kernel_rfl
theorem below_drewN {B : Nat} {a w : World} (h : Below B a w) (n : Nat) : Below B a (w.drewN n) := ⟨h.os, h.tape, h.output, h.size, h.block⟩
section
variable {H : Type} {enc : TypeId × Value → H} {P : Program}
/-- The row's last step where of the world behind the call 'Below' alone is known: a row without variables, arguments that may share. -/
theorem post_kept {f : Func} {s : ChangeSpec} {fresh handsOn again : Bool} {W W' : World} {args : Array Value} {v : Value} {ds : List (DataW H)} {ps : List MemPlace}
    (hvs : s.vars = []) (hvr : (s.fn H (ds ++ [])).vars = [])
    (hW : DataW.Whole enc P f.params.toList s.vars false W args.toList ds [] ps) (hb : Below W.heap.size W W')
    (hr : ∀ (b : Nat) (sp : Nat → Bool) (hd : Bool), DataW.TrodAll enc P W' b sp hd f.resultTypes.toList (v.resultList f.resultTypes.size) (s.fn H (ds ++ [])).results [])
    (ha : ∀ sp : Nat → Bool, (∀ p ∈ ps, sp p.block = true) → DataW.TrodAll enc P W' 0 sp true f.params.toList args.toList (s.fn H (ds ++ [])).args ps)
    (hok : ∀ (j : Nat) (t : TypeId) (r : Value), f.resultTypes[j]? = some t → (v.resultList f.resultTypes.size)[j]? = some r → Value.okWide P W' .any 0 t r) :
    s.post enc P f false fresh handsOn again W args v W' := by
  have lt := hW.lt
  have tv : ∀ sp : Nat → Bool, DataW.TrodVars enc P W' sp s.vars (s.fn H (ds ++ [])).vars [] := fun sp => by
    rw [hvs, hvr]; exact rfl
  have fz : W'.noneFrozen ps := by
    obtain ⟨_, _, _, _, _, h, _⟩ := hW
    intro b off hm
    exact (hb.frozen (lt _ hm)).trans (h b off hm)
  have both := trodAll_append (ha (fun _ => true) (fun _ _ => rfl)) (hr 0 (fun _ => true) true)
  rw [List.nil_append] at both
  exact ⟨ds, [], ps, [], ps, [], hW, hr _ _ _, ha _ (fun p hp => decide_eq_true (lt p hp)), tv _, World.keptBut_mono (fun p hp => ⟨hp, Or.inr (Or.inl hp)⟩) (hb.frame (· ∈ ps)),
    fun _ => ⟨hok, _, _, ps, ⟨ps, [], both, tv _, (List.append_nil ps).symm, fz, fun h => by cases h⟩, fun _ hp _ => hp⟩⟩
end
end Go.Proofs.Ytldgadmpclgfhaa.Base
namespace Go.Proofs.Ytldgadmpclgfhaa.Mem
set_option maxRecDepth 100000
open Go.ChangeShapes Go.WideShapes Go.ChangeAt Go.RowKit
open Go.Proofs.Ytldgadmpclgfhaa.Base
/-- The cells of a slice at A are cs; its block lies in lo .. hi - 1. -/
def Lies (w : World) (lo hi : Nat) (A : Option Addr) (cs : List Value) : Prop :=
  ∀ j u, cs[j]? = some u → ∃ b off, A = some ⟨b, off, none⟩ ∧ lo ≤ b ∧ b < hi ∧ w.cell? ⟨b, off + j, none⟩ = some u
/-- .. and none of its block's cells is frozen. -/
def Owned (w : World) (lo hi : Nat) (A : Option Addr) (cs : List Value) : Prop :=
  Lies w lo hi A cs ∧ ∀ b off, A = some ⟨b, off, none⟩ → 0 < cs.length → ∀ j, w.frozen? ⟨b, j, none⟩ = false
section
variable {w w' : World} {lo hi lo' hi' : Nat} {A : Option Addr} {cs : List Value}
theorem Lies.nil : Lies w lo hi A [] := fun j u h => by simp at h
theorem Lies.wide (h : Lies w lo hi A cs) (h1 : lo' ≤ lo) (h2 : hi ≤ hi') : Lies w lo' hi' A cs := fun j u hu => by
  obtain ⟨b, off, e, x, y, z⟩ := h j u hu
  exact ⟨b, off, e, by omega, by omega, z⟩
theorem Owned.wide (h : Owned w lo hi A cs) (h1 : lo' ≤ lo) (h2 : hi ≤ hi') : Owned w lo' hi' A cs := ⟨h.1.wide h1 h2, h.2⟩
theorem Lies.kept (h : Lies w lo hi A cs) (hb : ∀ k, lo ≤ k → k < hi → w'.heap[k]? = w.heap[k]?) : Lies w' lo hi A cs := fun j u hu => by
  obtain ⟨b, off, e, x, y, z⟩ := h j u hu
  exact ⟨b, off, e, x, y, (World.cell?_of_block (w := w) (a := ⟨b, off + j, none⟩) (hb b x y)).trans z⟩
theorem Lies.at_ (h : Lies w lo hi A cs) (hn : 0 < cs.length) : ∃ b off, A = some ⟨b, off, none⟩ ∧ lo ≤ b ∧ b < hi ∧ ∀ j u, cs[j]? = some u → w.cell? ⟨b, off + j, none⟩ = some u := by
  obtain ⟨b, off, e, x, y, _⟩ := h 0 _ (List.getElem?_eq_getElem hn)
  refine ⟨b, off, e, x, y, fun j u hu => ?_⟩
  obtain ⟨b', off', e', _, _, z⟩ := h j u hu
  rw [e] at e'
  cases e'
  exact z
theorem Owned.kept (h : Owned w lo hi A cs) (hb : ∀ k, lo ≤ k → k < hi → w'.heap[k]? = w.heap[k]?) : Owned w' lo hi A cs :=
  ⟨h.1.kept hb, fun b off e hn j => by
    obtain ⟨b', off', e', x, y, _⟩ := h.1.at_ hn
    rw [e] at e'
    cases e'
    exact (World.frozen?_of_block (w := w) (a := ⟨b, j, none⟩) (hb b x y)).trans (h.2 b off e hn j)⟩
theorem Lies.below {B : Nat} (h : Lies w lo hi A cs) (hb : Below B w w') (hB : hi ≤ B) : Lies w' lo hi A cs := h.kept fun k _ h2 => hb.block k (by omega)
theorem Owned.below {B : Nat} (h : Owned w lo hi A cs) (hb : Below B w w') (hB : hi ≤ B) : Owned w' lo hi A cs := h.kept fun k _ h2 => hb.block k (by omega)
theorem Lies.drewN (h : Lies w lo hi A cs) (n : Nat) : Lies (w.drewN n) lo hi A cs := h
theorem Owned.drewN (h : Owned w lo hi A cs) (n : Nat) : Owned (w.drewN n) lo hi A cs := h
theorem Lies.turned {lo2 hi2 : Nat} (h : Lies w lo hi A cs) (hb : ∀ k, k < w.heap.size → (k < lo2 ∨ hi2 ≤ k) → w'.heap[k]? = w.heap[k]?) (hh : hi ≤ w.heap.size) (hd : hi ≤ lo2 ∨ hi2 ≤ lo) : Lies w' lo hi A cs :=
  h.kept fun k h1 h2 => hb k (by omega) (by omega)
theorem Owned.turned {lo2 hi2 : Nat} (h : Owned w lo hi A cs) (hb : ∀ k, k < w.heap.size → (k < lo2 ∨ hi2 ≤ k) → w'.heap[k]? = w.heap[k]?) (hh : hi ≤ w.heap.size) (hd : hi ≤ lo2 ∨ hi2 ≤ lo) : Owned w' lo hi A cs :=
  h.kept fun k h1 h2 => hb k (by omega) (by omega)
theorem Owned.set {b off : Nat} (h : Owned w lo hi (some ⟨b, off, none⟩) cs) (j : Nat) (u : Value) : Owned (w.setCell ⟨b, off + j, none⟩ u) lo hi (some ⟨b, off, none⟩) (cs.set j u) := by
  refine ⟨fun i v hv => ?_, fun b' off' e hn i => ?_⟩
  · have hi : i < cs.length := by
      have := (List.getElem?_eq_some_iff.1 hv).1
      simpa using this
    obtain ⟨b', off', e, x, y, z⟩ := h.1 i _ (List.getElem?_eq_getElem hi)
    cases e
    refine ⟨b, off, rfl, x, y, ?_⟩
    by_cases hij : i = j
    · subst hij
      rw [List.getElem?_set_self hi] at hv
      cases hv
      exact World.cell?_setCell_same w _ _ z
    · rw [List.getElem?_set_ne (fun e => hij e.symm), List.getElem?_eq_getElem hi] at hv
      cases hv
      rw [World.cell?_setCell_other w _ _ u (by intro e; injection e with _ e2; omega)]
      exact z
  · cases e
    have := h.2 b off rfl (by simpa using hn) i
    simpa using this
/-- A row that the call owns. -/
theorem Owned.of_row {base size n c : Nat} {e : TypeId} (h : w.ownsRow base e size (.slice A n c) n cs) : Owned w base w.heap.size A cs := by
  rcases h.2 with ⟨h', h0⟩ | ⟨g, cap, cur, h', hb, hg, hnc, _, hcs, htake⟩
  · have hz : cs = [] := List.eq_nil_of_length_eq_zero (by rw [h.1, h0]; simp)
    subst hz
    exact ⟨Lies.nil, fun _ _ _ hn => absurd hn (by simp)⟩
  · injection h' with h1 h2 h3
    subst h1
    have hlt : g < w.heap.size := by
      rcases Nat.lt_or_ge g w.heap.size with x | x
      · exact x
      · rw [Array.getElem?_eq_none x] at hg; cases hg
    refine ⟨fun j u hu => ⟨g, 0, rfl, hb, hlt, ?_⟩, fun b off e _ j => ?_⟩
    · have := h.cells (g := g) rfl j u hu
      rwa [Addr.add_lit] at this
    · cases e
      exact frozen_of_row w g j cur _ hg
end
/-- Only blocks lo .. hi - 1 have turned, and new ones have come. -/
structure Turned (lo hi : Nat) (w w' : World) : Prop where
  os : w'.os = w.os
  tape : w'.tape = w.tape
  output : w'.output = w.output
  size : w.heap.size ≤ w'.heap.size
  block : ∀ k, k < w.heap.size → (k < lo ∨ hi ≤ k) → w'.heap[k]? = w.heap[k]?
theorem Turned.refl (lo hi : Nat) (w : World) : Turned lo hi w w := ⟨rfl, rfl, rfl, Nat.le_refl _, fun _ _ _ => rfl⟩
theorem Turned.trans {lo hi : Nat} {a b c : World} (h : Turned lo hi a b) (k : Turned lo hi b c) : Turned lo hi a c :=
  ⟨k.os.trans h.os, k.tape.trans h.tape, k.output.trans h.output, Nat.le_trans h.size k.size, fun i hi hd => (k.block i (Nat.lt_of_lt_of_le hi h.size) hd).trans (h.block i hi hd)⟩
theorem Turned.setCell {lo hi : Nat} {a w : World} (h : Turned lo hi a w) {b off : Nat} (h1 : lo ≤ b) (h2 : b < hi) (u : Value) : Turned lo hi a (w.setCell ⟨b, off, none⟩ u) :=
  h.trans ⟨rfl, rfl, rfl, by simp, fun i _ hd => Below.heap_setCell w ⟨b, off, none⟩ u i (by show i ≠ b; omega)⟩
theorem Turned.below {lo hi : Nat} {w w' : World} (h : Turned lo hi w w') {B : Nat} (hB : B ≤ lo) (hw : B ≤ w.heap.size) : Below B w w' :=
  ⟨h.os, h.tape, h.output, h.size, fun k hk => h.block k (by omega) (by omega)⟩
theorem Turned.drewN {lo hi : Nat} {a w : World} (h : Turned lo hi a w) (n : Nat) : Turned lo hi a (w.drewN n) := ⟨h.os, h.tape, h.output, h.size, h.block⟩
section
variable {H : Type} {enc : TypeId × Value → H} {P : Program}
/-- Arguments that were read are read again in every world that agrees on what was there. -/
theorem trodAll_stays (hl : laidOutB P = true) {W W' : World} (hb : Below W.heap.size W W') {sp : Nat → Bool} : ∀ (ts : List TypeId) (vs : List Value) (ds : List (DataW H)) (ps : List MemPlace),
    (∀ t ∈ ts, P.readableRec t = true ∧ t < P.types.size) → DataW.TrodAll enc P W 0 (fun _ => true) true ts vs ds ps → (∀ p ∈ ps, p.block < W.heap.size) → (∀ p ∈ ps, sp p.block = true) → DataW.TrodAll enc P W' 0 sp true ts vs ds ps
  | [], vs, ds, ps, _, h, _, _ => by
    obtain ⟨rfl, rfl, rfl⟩ := trodAll_nil h
    exact trodAll_mk0
  | t :: ts, vs, ds, ps, hr, h, hlt, hsp => by
    obtain ⟨v, vs', d, ds', p, q, rfl, rfl, rfl, h0, h1⟩ := trodAll_cons h
    have g0 := hr t (by simp)
    exact trodAll_cons_mk (WideElems.Trod_stays hl g0.1 g0.2 h0 (fun x hx => hb.same (hlt x (by simp [hx]))) (fun x hx => hsp x (by simp [hx])))
      (trodAll_stays hl hb ts vs' ds' q (fun t' ht => hr t' (by simp [ht])) h1 (fun x hx => hlt x (by simp [hx])) (fun x hx => hsp x (by simp [hx])))
/-- The row's last step where of the world behind the call 'Below' alone is known: whatever arguments, handed back as they came. -/
theorem post_args {f : Func} {s : ChangeSpec} {fresh handsOn again : Bool} {W W' : World} {args : Array Value} {v : Value} {ds : List (DataW H)} {ps : List MemPlace}
    (hl : laidOutB P = true) (hread : f.params.toList.all (fun t => P.readableRec t && decide (t < P.types.size)) = true)
    (hvs : s.vars = []) (hvr : (s.fn H (ds ++ [])).vars = []) (har : (s.fn H (ds ++ [])).args = ds)
    (hW : DataW.Whole enc P f.params.toList s.vars false W args.toList ds [] ps) (hA : DataW.TrodAll enc P W 0 (fun _ => true) true f.params.toList args.toList ds ps) (hb : Below W.heap.size W W')
    (hr : ∀ (b : Nat) (sp : Nat → Bool) (hd : Bool), DataW.TrodAll enc P W' b sp hd f.resultTypes.toList (v.resultList f.resultTypes.size) (s.fn H (ds ++ [])).results [])
    (hok : ∀ (j : Nat) (t : TypeId) (r : Value), f.resultTypes[j]? = some t → (v.resultList f.resultTypes.size)[j]? = some r → Value.okWide P W' .any 0 t r) :
    s.post enc P f false fresh handsOn again W args v W' := by
  refine post_kept hvs hvr hW hb hr (fun sp hsp => ?_) hok
  rw [har]
  refine trodAll_stays hl hb _ _ _ _ (fun t ht => ?_) hA (fun p hp => hW.lt p hp) hsp
  have := List.all_eq_true.1 hread t ht
  simpa using this
end
end Go.Proofs.Ytldgadmpclgfhaa.Mem
namespace Go.Proofs.Ytldgadmpclgfhaa.Mem
set_option maxRecDepth 100000
open Go.ChangeShapes Go.WideShapes Go.ChangeAt Go.RowKit
open Go.Proofs.Ytldgadmpclgfhaa.Base
def Var (w : World) (b : Nat) (vs : List Value) : Prop :=
  (∀ (i : Nat) (v : Value), vs[i]? = some v → w.cell? ⟨b, i, none⟩ = some v ∧ w.frozen? ⟨b, i, none⟩ = false) ∧ b < w.heap.size
theorem Var.new (w : World) (vs : List Value) (T : TypeId) : Var (w.alloc (.cells vs.toArray T)) w.heap.size vs :=
  ⟨fun i v hv => ⟨cell_of_row _ _ i _ _ _ (heap_alloc_new w _) |>.trans (by simpa using hv), frozen_of_row _ _ _ _ _ (heap_alloc_new w _)⟩, by simp⟩
theorem Var.below {w w' : World} {b : Nat} {vs : List Value} {B : Nat} (h : Var w b vs) (hb : Below B w w') (hB : b + 1 ≤ B) : Var w' b vs :=
  ⟨fun i v hv => ⟨(hb.cell (p := ⟨b, i, none⟩) hB).trans (h.1 i v hv).1, (hb.frozen (p := ⟨b, i, none⟩) hB).trans (h.1 i v hv).2⟩, Nat.lt_of_lt_of_le h.2 hb.size⟩
theorem Var.turned {w w' : World} {b lo hi : Nat} {vs : List Value} (h : Var w b vs) (hb : ∀ k, k < w.heap.size → (k < lo ∨ hi ≤ k) → w'.heap[k]? = w.heap[k]?) (hz : w.heap.size ≤ w'.heap.size) (hd : b + 1 ≤ lo ∨ hi ≤ b) : Var w' b vs :=
  have hk := hb b h.2 (by omega)
  ⟨fun i v hv => ⟨(World.cell?_of_block (w := w) (a := ⟨b, i, none⟩) hk).trans (h.1 i v hv).1, (World.frozen?_of_block (w := w) (a := ⟨b, i, none⟩) hk).trans (h.1 i v hv).2⟩, Nat.lt_of_lt_of_le h.2 hz⟩
theorem Var.grown {w w' : World} {b g : Nat} {vs : List Value} (h : Var w b vs) (hG : w.grownBy w' (some g)) (hne : b ≠ g) : Var w' b vs :=
  h.turned (lo := g) (hi := g + 1) (fun k hk hd => hG.block k hk (by simp; omega)) hG.size (by omega)
theorem Var.far {w : World} {b b' : Nat} {vs : List Value} (h : Var w b vs) (hne : b ≠ b') (i : Nat) (x : Value) : Var (w.setCell ⟨b', i, none⟩ x) b vs :=
  have hk := Below.heap_setCell w ⟨b', i, none⟩ x b hne
  ⟨fun j v hv => ⟨(World.cell?_of_block (w := w) (a := ⟨b, j, none⟩) hk).trans (h.1 j v hv).1, (World.frozen?_of_block (w := w) (a := ⟨b, j, none⟩) hk).trans (h.1 j v hv).2⟩, by simpa using h.2⟩
theorem Var.set {w : World} {b : Nat} {vs : List Value} (h : Var w b vs) (i : Nat) (x : Value) : Var (w.setCell ⟨b, i, none⟩ x) b (vs.set i x) :=
  ⟨fun j v hv => by
    refine ⟨?_, (World.frozen?_setCell _ _ _ _).trans ?_⟩
    · rw [List.getElem?_set] at hv
      by_cases hij : i = j
      · subst hij
        rw [if_pos rfl] at hv
        by_cases hl : i < vs.length
        · rw [if_pos hl] at hv
          cases hv
          exact World.cell?_setCell_same _ _ _ (h.1 i vs[i] (by simp [hl])).1
        · rw [if_neg hl] at hv
          cases hv
      · rw [if_neg hij] at hv
        rw [World.cell?_setCell_other _ _ _ x (by intro e; injection e; omega)]
        exact (h.1 j v hv).1
    · have hl : j < vs.length := by have := (List.getElem?_eq_some_iff.1 hv).1; simpa using this
      exact (h.1 j vs[j] (by simp [hl])).2, by simpa using h.2⟩
theorem Var.cell {w : World} {b : Nat} {vs : List Value} (h : Var w b vs) (i : Nat) {v : Value} (hv : vs[i]? = some v) : w.cell? ⟨b, i, none⟩ = some v := (h.1 i v hv).1
theorem Var.loose {w : World} {b : Nat} {vs : List Value} (h : Var w b vs) (i : Nat) {v : Value} (hv : vs[i]? = some v) : w.frozen? ⟨b, i, none⟩ = false := (h.1 i v hv).2
end Go.Proofs.Ytldgadmpclgfhaa.Mem
namespace Go.Proofs.Ytldgadmpclgfhaa.Data
set_option maxRecDepth 100000
open Go.ChangeShapes Go.WideShapes Go.ChangeAt Go.RowKit
open Go.Proofs.Ytldgadmpclgfhaa.Base Go.Proofs.Ytldgadmpclgfhaa.Mem
set_option linter.unusedVariables false
/-- Values of a type in memory: 'sz' cells each; 'val' is the value that has the cells; 'rd': the cells show x, and what they lead to lies in blocks lo .. hi - 1; 'own': .. in the blocks F, none of them frozen. -/
structure Rp (α : Type) where
  sz : Nat
  val : List Value → Value
  rd : World → Nat → Nat → α → List Value → Prop
  own : World → Nat → Nat → α → List Value → List Nat → Prop
  /-- every number of an int's range, every list of a length that a machine holds -/
  wf : α → Prop
  /-- no list longer than 2^21 -/
  cap : α → Prop
  /-- the laws' size: the lengths of all slices together -/
  size : α → Nat
  /-- how many leaves, and the value with its leaves marked from k on; the same of a value that is handed over by value ('t': what lies behind its slices alone) -/
  cnt : α → Nat
  mark : Nat → α → α
  tcnt : α → Nat
  top : Nat → α → α
  len : ∀ {w : World} {lo hi : Nat} {x : α} {cs : List Value}, rd w lo hi x cs → cs.length = sz
  kept : ∀ {w w' : World} {lo hi : Nat} {x : α} {cs : List Value}, rd w lo hi x cs → (∀ k, lo ≤ k → k < hi → w'.heap[k]? = w.heap[k]?) → rd w' lo hi x cs
  wide : ∀ {w : World} {lo hi lo' hi' : Nat} {x : α} {cs : List Value}, rd w lo hi x cs → lo' ≤ lo → hi ≤ hi' → rd w lo' hi' x cs
  reads : ∀ {w : World} {lo hi : Nat} {x : α} {cs : List Value} {F : List Nat}, own w lo hi x cs F → rd w lo hi x cs
  okept : ∀ {w w' : World} {lo hi : Nat} {x : α} {cs : List Value} {F : List Nat}, own w lo hi x cs F → (∀ k ∈ F, w'.heap[k]? = w.heap[k]?) → own w' lo hi x cs F
  owide : ∀ {w : World} {lo hi lo' hi' : Nat} {x : α} {cs : List Value} {F : List Nat}, own w lo hi x cs F → lo' ≤ lo → hi ≤ hi' → own w lo' hi' x cs F
  inF : ∀ {w : World} {lo hi : Nat} {x : α} {cs : List Value} {F : List Nat}, own w lo hi x cs F → ∀ k ∈ F, lo ≤ k ∧ k < hi
/-- A value of its own: no block is used twice. -/
def Own {α : Type} (r : Rp α) (w : World) (lo hi : Nat) (x : α) (cs : List Value) : Prop := ∃ F, r.own w lo hi x cs F ∧ F.Nodup
section
variable {α : Type} {r : Rp α} {w w' : World} {lo hi lo' hi' : Nat} {x : α} {cs : List Value}
theorem rd_below {B : Nat} (h : r.rd w lo hi x cs) (hb : Below B w w') (hB : hi ≤ B) : r.rd w' lo hi x cs := r.kept h fun k _ h2 => hb.block k (by omega)
theorem Own.reads (h : Own r w lo hi x cs) : r.rd w lo hi x cs := by
  obtain ⟨F, h, _⟩ := h
  exact r.reads h
theorem Own.kept (h : Own r w lo hi x cs) (hb : ∀ k, lo ≤ k → k < hi → w'.heap[k]? = w.heap[k]?) : Own r w' lo hi x cs := by
  obtain ⟨F, h, hF⟩ := h
  exact ⟨F, r.okept h fun k hk => hb k (r.inF h k hk).1 (r.inF h k hk).2, hF⟩
theorem Own.wide (h : Own r w lo hi x cs) (h1 : lo' ≤ lo) (h2 : hi ≤ hi') : Own r w lo' hi' x cs := by
  obtain ⟨F, h, hF⟩ := h
  exact ⟨F, r.owide h h1 h2, hF⟩
theorem Own.below {B : Nat} (h : Own r w lo hi x cs) (hb : Below B w w') (hB : hi ≤ B) : Own r w' lo hi x cs := h.kept fun k _ h2 => hb.block k (by omega)
theorem Own.turned {lo2 hi2 : Nat} (h : Own r w lo hi x cs) (hb : ∀ k, k < w.heap.size → (k < lo2 ∨ hi2 ≤ k) → w'.heap[k]? = w.heap[k]?) (hh : hi ≤ w.heap.size) (hd : hi ≤ lo2 ∨ hi2 ≤ lo) : Own r w' lo hi x cs :=
  h.kept fun k h1 h2 => hb k (by omega) (by omega)
theorem Own.drew (h : Own r w lo hi x cs) : Own r w.drew lo hi x cs := h.kept fun _ _ _ => rfl
end
def rInt : Rp Int where
  sz := 1
  val cs := cs.headD undef
  rd _ _ _ x cs := cs = [.int .i64 x]
  own _ _ _ x cs F := cs = [.int .i64 x] ∧ F = []
  wf x := (Lit.int .i64 x).wf = true
  cap _ := True
  size _ := 0
  cnt _ := 1
  mark k _ := k
  tcnt _ := 0
  top _ x := x
  len h := by rw [h]; rfl
  kept h _ := h
  wide h _ _ := h
  reads h := h.1
  okept h _ := h
  owide h _ _ := h
  inF h k hk := by rw [h.2] at hk; cases hk
def rBool : Rp Bool where
  sz := 1
  val cs := cs.headD undef
  rd _ _ _ x cs := cs = [.bool x]
  own _ _ _ x cs F := cs = [.bool x] ∧ F = []
  wf _ := True
  cap _ := True
  size _ := 0
  cnt _ := 1
  mark k _ := k % 3 == 0
  tcnt _ := 0
  top _ x := x
  len h := by rw [h]; rfl
  kept h _ := h
  wide h _ _ := h
  reads h := h.1
  okept h _ := h
  owide h _ _ := h
  inF h k hk := by rw [h.2] at hk; cases hk
def rPair {α β : Type} (r : Rp α) (q : Rp β) : Rp (α × β) where
  sz := r.sz + q.sz
  val cs := .agg cs.toArray
  rd w lo hi x cs := ∃ c1 c2, cs = c1 ++ c2 ∧ r.rd w lo hi x.1 c1 ∧ q.rd w lo hi x.2 c2
  own w lo hi x cs F := ∃ c1 c2 F1 F2, cs = c1 ++ c2 ∧ F = F1 ++ F2 ∧ r.own w lo hi x.1 c1 F1 ∧ q.own w lo hi x.2 c2 F2
  wf x := r.wf x.1 ∧ q.wf x.2
  cap x := r.cap x.1 ∧ q.cap x.2
  size x := r.size x.1 + q.size x.2
  cnt x := r.cnt x.1 + q.cnt x.2
  mark k x := (r.mark k x.1, q.mark (k + r.cnt x.1) x.2)
  tcnt x := r.tcnt x.1 + q.tcnt x.2
  top k x := (r.top k x.1, q.top (k + r.tcnt x.1) x.2)
  len h := by
    obtain ⟨c1, c2, rfl, h1, h2⟩ := h
    rw [List.length_append, r.len h1, q.len h2]
  kept h hb := by
    obtain ⟨c1, c2, e, h1, h2⟩ := h
    exact ⟨c1, c2, e, r.kept h1 hb, q.kept h2 hb⟩
  wide h a b := by
    obtain ⟨c1, c2, e, h1, h2⟩ := h
    exact ⟨c1, c2, e, r.wide h1 a b, q.wide h2 a b⟩
  reads h := by
    obtain ⟨c1, c2, F1, F2, e, _, h1, h2⟩ := h
    exact ⟨c1, c2, e, r.reads h1, q.reads h2⟩
  okept h hb := by
    obtain ⟨c1, c2, F1, F2, e, rfl, h1, h2⟩ := h
    exact ⟨c1, c2, F1, F2, e, rfl, r.okept h1 fun k hk => hb k (by simp [hk]), q.okept h2 fun k hk => hb k (by simp [hk])⟩
  owide h a b := by
    obtain ⟨c1, c2, F1, F2, e, f, h1, h2⟩ := h
    exact ⟨c1, c2, F1, F2, e, f, r.owide h1 a b, q.owide h2 a b⟩
  inF h k hk := by
    obtain ⟨c1, c2, F1, F2, e, rfl, h1, h2⟩ := h
    rcases List.mem_append.1 hk with hk | hk
    · exact r.inF h1 k hk
    · exact q.inF h2 k hk
section
variable {α : Type} (r : Rp α)
def rdAll (w : World) (lo hi : Nat) : List α → List Value → Prop
  | [], ds => ds = []
  | x :: xs, ds => ∃ c1 c2, ds = c1 ++ c2 ∧ r.rd w lo hi x c1 ∧ rdAll w lo hi xs c2
def ownAll (w : World) (lo hi : Nat) : List α → List Value → List Nat → Prop
  | [], ds, F => ds = [] ∧ F = []
  | x :: xs, ds, F => ∃ c1 c2 F1 F2, ds = c1 ++ c2 ∧ F = F1 ++ F2 ∧ r.own w lo hi x c1 F1 ∧ ownAll w lo hi xs c2 F2
def mkAll : Nat → List α → List α
  | _, [] => []
  | k, x :: xs => r.mark k x :: mkAll (k + r.cnt x) xs
def cntAll : List α → Nat
  | [] => 0
  | x :: xs => r.cnt x + cntAll xs
def sizeAll : List α → Nat
  | [] => 0
  | x :: xs => r.size x + sizeAll xs
/-- The block of a slice that is not empty. -/
def blks (A : Option Addr) (ds : List Value) : List Nat := if ds = [] then [] else (A.map Addr.block).toList
variable {r} {w w' : World} {lo hi lo' hi' : Nat}
theorem rdAll_len : ∀ {xs : List α} {ds : List Value}, rdAll r w lo hi xs ds → ds.length = xs.length * r.sz
  | [], ds, h => by rw [show ds = [] from h]; simp
  | x :: xs, ds, h => by
    obtain ⟨c1, c2, rfl, h1, h2⟩ := h
    rw [List.length_append, r.len h1, rdAll_len h2, List.length_cons, Nat.add_mul]
    omega
theorem rdAll_kept (hb : ∀ k, lo ≤ k → k < hi → w'.heap[k]? = w.heap[k]?) : ∀ {xs : List α} {ds : List Value}, rdAll r w lo hi xs ds → rdAll r w' lo hi xs ds
  | [], ds, h => h
  | x :: xs, ds, h => by
    obtain ⟨c1, c2, e, h1, h2⟩ := h
    exact ⟨c1, c2, e, r.kept h1 hb, rdAll_kept hb h2⟩
theorem rdAll_wide (a : lo' ≤ lo) (b : hi ≤ hi') : ∀ {xs : List α} {ds : List Value}, rdAll r w lo hi xs ds → rdAll r w lo' hi' xs ds
  | [], ds, h => h
  | x :: xs, ds, h => by
    obtain ⟨c1, c2, e, h1, h2⟩ := h
    exact ⟨c1, c2, e, r.wide h1 a b, rdAll_wide a b h2⟩
theorem ownAll_reads : ∀ {xs : List α} {ds : List Value} {F : List Nat}, ownAll r w lo hi xs ds F → rdAll r w lo hi xs ds
  | [], ds, F, h => h.1
  | x :: xs, ds, F, h => by
    obtain ⟨c1, c2, F1, F2, e, _, h1, h2⟩ := h
    exact ⟨c1, c2, e, r.reads h1, ownAll_reads h2⟩
theorem ownAll_kept : ∀ {xs : List α} {ds : List Value} {F : List Nat}, ownAll r w lo hi xs ds F → (∀ k ∈ F, w'.heap[k]? = w.heap[k]?) → ownAll r w' lo hi xs ds F
  | [], ds, F, h, _ => h
  | x :: xs, ds, F, h, hb => by
    obtain ⟨c1, c2, F1, F2, e, rfl, h1, h2⟩ := h
    exact ⟨c1, c2, F1, F2, e, rfl, r.okept h1 fun k hk => hb k (by simp [hk]), ownAll_kept h2 fun k hk => hb k (by simp [hk])⟩
theorem ownAll_wide (a : lo' ≤ lo) (b : hi ≤ hi') : ∀ {xs : List α} {ds : List Value} {F : List Nat}, ownAll r w lo hi xs ds F → ownAll r w lo' hi' xs ds F
  | [], ds, F, h => h
  | x :: xs, ds, F, h => by
    obtain ⟨c1, c2, F1, F2, e, f, h1, h2⟩ := h
    exact ⟨c1, c2, F1, F2, e, f, r.owide h1 a b, ownAll_wide a b h2⟩
theorem ownAll_inF : ∀ {xs : List α} {ds : List Value} {F : List Nat}, ownAll r w lo hi xs ds F → ∀ k ∈ F, lo ≤ k ∧ k < hi
  | [], ds, F, h, k, hk => by rw [h.2] at hk; cases hk
  | x :: xs, ds, F, h, k, hk => by
    obtain ⟨c1, c2, F1, F2, e, rfl, h1, h2⟩ := h
    rcases List.mem_append.1 hk with hk | hk
    · exact r.inF h1 k hk
    · exact ownAll_inF h2 k hk
theorem owned_agree {A : Option Addr} {ds : List Value} (h : Owned w lo hi A ds) (hb : ∀ k ∈ blks A ds, w'.heap[k]? = w.heap[k]?) : Owned w' lo hi A ds := by
  by_cases hd : ds = []
  · subst hd
    exact ⟨Lies.nil, fun b off e h => by simp at h⟩
  · have hn : 0 < ds.length := List.length_pos_iff.2 hd
    obtain ⟨b, off, rfl, x, y, hc⟩ := h.1.at_ hn
    have hk : w'.heap[b]? = w.heap[b]? := hb b (by simp [blks, hd])
    refine ⟨fun j u hu => ⟨b, off, rfl, x, y, (World.cell?_of_block (w := w) (a := ⟨b, off + j, none⟩) hk).trans (hc j u hu)⟩, fun b' off' e _ j => ?_⟩
    cases e
    exact (World.frozen?_of_block (w := w) (a := ⟨b, j, none⟩) hk).trans (h.2 b off rfl hn j)
theorem blks_in {A : Option Addr} {ds : List Value} (h : Owned w lo hi A ds) {k : Nat} (hk : k ∈ blks A ds) : lo ≤ k ∧ k < hi := by
  by_cases hd : ds = []
  · simp [blks, hd] at hk
  · obtain ⟨b, off, rfl, x, y, _⟩ := h.1.at_ (List.length_pos_iff.2 hd)
    simp [blks, hd] at hk
    subst hk
    exact ⟨x, y⟩
end
/-- A type of one's own, by what it is made of. -/
def rVia {α β : Type} (q : Rp β) (f : α → β) (g : β → α) : Rp α where
  sz := q.sz
  val := q.val
  rd w lo hi x := q.rd w lo hi (f x)
  own w lo hi x := q.own w lo hi (f x)
  wf x := q.wf (f x)
  cap x := q.cap (f x)
  size x := q.size (f x)
  cnt x := q.cnt (f x)
  mark k x := g (q.mark k (f x))
  tcnt x := q.tcnt (f x)
  top k x := g (q.top k (f x))
  len h := q.len h
  kept h := q.kept h
  wide h := q.wide h
  reads h := q.reads h
  okept h := q.okept h
  owide h := q.owide h
  inF h := q.inF h
end Go.Proofs.Ytldgadmpclgfhaa.Data
namespace Go.Proofs.Ytldgadmpclgfhaa.Data
set_option maxRecDepth 100000
open Go.ChangeShapes Go.WideShapes Go.ChangeAt Go.RowKit Go.Deep
open Go.Proofs.Ytldgadmpclgfhaa.Base Go.Proofs.Ytldgadmpclgfhaa.Mem
set_option linter.unusedVariables false
section
variable {α β : Type} {r : Rp α} {q : Rp β} {w w' : World} {lo hi lo' hi' : Nat}
/-- The cells of the element at k. -/
theorem rdAll_at : ∀ {xs : List α} {ds : List Value} (k : Nat) (hk : k < xs.length), rdAll r w lo hi xs ds → r.rd w lo hi xs[k] ((ds.drop (k * r.sz)).take r.sz)
  | x :: xs, ds, 0, _, h => by
    obtain ⟨c1, c2, rfl, h1, h2⟩ := h
    have hl := r.len h1
    simpa [← hl] using h1
  | x :: xs, ds, k + 1, hk, h => by
    obtain ⟨c1, c2, rfl, h1, h2⟩ := h
    have hl := r.len h1
    have := rdAll_at k (by simpa using hk) h2
    rw [show (k + 1) * r.sz = c1.length + k * r.sz by rw [hl, Nat.add_mul]; omega, ← List.drop_drop, List.drop_left]
    exact this
/-- .. and where they lie. -/
theorem list_at {xs : List α} {A : Option Addr} {ds : List Value} (hs : 0 < r.sz) (h : rdAll r w lo hi xs ds) (hl : Lies w lo hi A ds) (k : Nat) (hk : k < xs.length) :
    ∃ b off es, A = some ⟨b, off, none⟩ ∧ lo ≤ b ∧ b < hi ∧ r.rd w lo hi xs[k] es ∧ es.length = r.sz ∧ ∀ j u, es[j]? = some u → w.cell? ⟨b, off + (k * r.sz + j), none⟩ = some u := by
  have h1 := rdAll_at k hk h
  have hlen := rdAll_len h
  have hd : k * r.sz + r.sz ≤ ds.length := by
    have := Nat.mul_le_mul_right r.sz (show k + 1 ≤ xs.length from hk)
    rw [Nat.add_mul] at this
    omega
  obtain ⟨b, off, e, x, y, hc⟩ := hl.at_ (show 0 < ds.length by omega)
  refine ⟨b, off, _, e, x, y, h1, r.len h1, fun j u hu => ?_⟩
  have hj : j < r.sz := by
    have := (List.getElem?_eq_some_iff.1 hu).1
    rw [List.length_take] at this
    omega
  rw [List.getElem?_take, if_pos hj, List.getElem?_drop] at hu
  exact hc _ u hu
theorem ownAll_append : ∀ {xs ys : List α} {ds es : List Value} {F G : List Nat}, ownAll r w lo hi xs ds F → ownAll r w lo hi ys es G → ownAll r w lo hi (xs ++ ys) (ds ++ es) (F ++ G)
  | [], ys, ds, es, F, G, h, h' => by rw [show ds = [] from h.1, show F = [] from h.2]; exact h'
  | x :: xs, ys, ds, es, F, G, h, h' => by
    obtain ⟨c1, c2, F1, F2, rfl, rfl, h1, h2⟩ := h
    exact ⟨c1, c2 ++ es, F1, F2 ++ G, by simp, by simp, h1, ownAll_append h2 h'⟩
theorem rdAll_one {x : α} {cs : List Value} (h : r.rd w lo hi x cs) : rdAll r w lo hi [x] cs := ⟨cs, [], by simp, h, rfl⟩
theorem rdAll_map {ι : Type} {f : ι → α} {g : ι → List Value} : ∀ (L : List ι), (∀ i ∈ L, r.rd w lo hi (f i) (g i)) → rdAll r w lo hi (L.map f) (L.flatMap g)
  | [], _ => rfl
  | i :: L, h => ⟨g i, L.flatMap g, by simp, h i (by simp), rdAll_map L fun j hj => h j (by simp [hj])⟩
end
theorem flatMap_len {g : Nat → List Value} {s : Nat} : ∀ (n : Nat), (∀ i, i < n → (g i).length = s) → ((List.range n).flatMap g).length = n * s
  | 0, _ => by simp
  | n + 1, h => by
    rw [List.range_succ, List.flatMap_append, List.length_append, flatMap_len n fun i hi => h i (by omega)]
    simp [h n (by omega), Nat.add_mul]
theorem flatMap_get {g : Nat → List Value} {s : Nat} (hs : 0 < s) : ∀ (n : Nat), (∀ i, i < n → (g i).length = s) → ∀ j, j < n * s → ((List.range n).flatMap g)[j]? = (g (j / s))[j % s]?
  | 0, _, j, hj => by simp at hj
  | n + 1, h, j, hj => by
    have hl := flatMap_len n fun i hi => h i (by omega)
    rw [List.range_succ, List.flatMap_append]
    by_cases hlt : j < n * s
    · rw [List.getElem?_append_left (by omega)]
      exact flatMap_get hs n (fun i hi => h i (by omega)) j hlt
    · have hj' : j - n * s < s := by rw [Nat.add_mul] at hj; omega
      have e1 : j / s = n := by
        rw [show j = n * s + (j - n * s) by omega, Nat.add_comm, Nat.add_mul_div_right _ _ hs, Nat.div_eq_of_lt hj']; omega
      have e2 : j % s = j - n * s := by
        conv => lhs; rw [show j = j - n * s + n * s by omega]
        rw [Nat.add_mul_mod_self_right, Nat.mod_eq_of_lt hj']
      rw [List.getElem?_append_right (by omega), hl, e1, e2]
      simp
/-- Whatever reads by the type t shows a value of r's. -/
def Opens {α : Type} (P : Program) (r : Rp α) (t : TypeId) : Prop :=
  ∀ (H : Type) (enc : TypeId × Value → H) (w : World) (fuel : Nat) (cs : List Value) (x : DataW H × List MemPlace), DataW.trod enc P w 0 (fun _ => true) true fuel t cs = some x → ∃ a, r.rd w 0 w.heap.size a cs ∧ r.wf a
/-- The same of fields that lie from 'off' on. -/
def FieldsOpen {α : Type} (P : Program) (fs : List Field) (r : Rp α) (off : Nat) : Prop :=
  ∀ (H : Type) (enc : TypeId × Value → H) (w : World) (n : Nat) (cs : List Value), cs.length = off + r.sz → (∀ f ∈ fs, ∃ y, DataW.trod enc P w 0 (fun _ => true) true n f.type ((cs.drop f.offset).take (P.cellsOf f.type)) = some y) →
    ∃ a, r.rd w 0 w.heap.size a (cs.drop off) ∧ r.wf a
section
variable {P : Program} {t e : TypeId}
theorem opens_int (hu : P.underlying t = some (.int .i64)) : Opens P rInt t := fun H enc w fuel cs x h => by
  obtain ⟨n, rfl, _, hw⟩ := DataW.trod_int hu h
  exact ⟨n, rfl, hw⟩
theorem opens_bool (hu : P.underlying t = some .bool) : Opens P rBool t := fun H enc w fuel cs x h => by
  obtain ⟨b, rfl, _⟩ := DataW.trod_bool hu h
  exact ⟨b, rfl, trivial⟩
theorem fields_one {α : Type} {r : Rp α} {f : Field} {off : Nat} (hf : Opens P r f.type) (ho : f.offset = off) (hc : P.cellsOf f.type = r.sz) : FieldsOpen P [f] r off := fun H enc w n cs hl h => by
  obtain ⟨y, hy⟩ := h f (by simp)
  rw [ho, hc, List.take_of_length_le (by simp; omega)] at hy
  exact hf H enc w n _ y hy
theorem fields_cons {α β : Type} {r : Rp α} {q : Rp β} {f : Field} {fs : List Field} {off : Nat} (hf : Opens P r f.type) (ho : f.offset = off) (hc : P.cellsOf f.type = r.sz) (hr : FieldsOpen P fs q (off + r.sz)) :
    FieldsOpen P (f :: fs) (rPair r q) off := fun H enc w n cs hl h => by
  have hl' : cs.length = off + (r.sz + q.sz) := hl
  obtain ⟨y, hy⟩ := h f (by simp)
  rw [ho, hc] at hy
  obtain ⟨u, hu, wu⟩ := hf H enc w n _ y hy
  obtain ⟨v, hv, wv⟩ := hr H enc w n cs (by omega) fun g hg => h g (by simp [hg])
  refine ⟨(u, v), ⟨_, _, ?_, hu, hv⟩, wu, wv⟩
  rw [← List.drop_drop]
  exact (List.take_append_drop _ _).symm
theorem opens_struct {α : Type} {r : Rp α} {fs : Array Field} (ht : P.underlying t = some (.struct fs)) (hc : P.cellsOf t = r.sz) (hf : FieldsOpen P fs.toList r 0) : Opens P r t := fun H enc w fuel cs x h => by
  obtain ⟨xs, n, _, _, hlen, hxl, hx⟩ := DataW.trod_struct ht h
  obtain ⟨a, ha, wa⟩ := hf H enc w n cs (by omega) fun f hm => by
    obtain ⟨i, hi, rfl⟩ := List.getElem_of_mem hm
    have hi' : i < xs.length := by rw [hxl]; exact hi
    exact ⟨xs[i], by rw [hx i _ (by simp), List.getElem?_eq_getElem hi']⟩
  exact ⟨a, by simpa using ha, wa⟩
theorem opens_via {α β : Type} {q : Rp β} {f : α → β} {g : β → α} (hfg : ∀ b, f (g b) = b) (h : Opens P q t) : Opens P (rVia q f g) t := fun H enc w fuel cs x hx => by
  obtain ⟨b, hb, wb⟩ := h H enc w fuel cs x hx
  refine ⟨g b, ?_, ?_⟩
  · show q.rd w 0 w.heap.size (f (g b)) cs
    rw [hfg]; exact hb
  · show q.wf (f (g b))
    rw [hfg]; exact wb
end
end Go.Proofs.Ytldgadmpclgfhaa.Data
namespace Go.Proofs.Ytldgadmpclgfhaa.Stt
set_option maxRecDepth 100000
open Go.ChangeShapes Go.WideShapes Go.ChangeAt Go.RowKit
open Go.Proofs.Ytldgadmpclgfhaa.Base Go.Proofs.Ytldgadmpclgfhaa.Mem Go.Proofs.Ytldgadmpclgfhaa.Data
set_option linter.unusedVariables false
/-- The blocks of f alone have turned, and new ones have come. -/
structure Only (f : Nat → Prop) (w w' : World) : Prop where
  os : w'.os = w.os
  tape : w'.tape = w.tape
  output : w'.output = w.output
  size : w.heap.size ≤ w'.heap.size
  block : ∀ k, k < w.heap.size → ¬ f k → w'.heap[k]? = w.heap[k]?
theorem Only.refl (f : Nat → Prop) (w : World) : Only f w w := ⟨rfl, rfl, rfl, Nat.le_refl _, fun _ _ _ => rfl⟩
theorem Only.trans {f : Nat → Prop} {a b c : World} (h : Only f a b) (k : Only f b c) : Only f a c :=
  ⟨k.os.trans h.os, k.tape.trans h.tape, k.output.trans h.output, Nat.le_trans h.size k.size, fun i hi hn => (k.block i (Nat.lt_of_lt_of_le hi h.size) hn).trans (h.block i hi hn)⟩
theorem Only.set {f : Nat → Prop} (w : World) {b : Nat} (hf : f b) (i : Nat) (u : Value) : Only f w (w.setCell ⟨b, i, none⟩ u) :=
  ⟨rfl, rfl, rfl, by simp, fun k _ hn => Below.heap_setCell w ⟨b, i, none⟩ u k (by show k ≠ b; intro e; exact hn (e ▸ hf))⟩
theorem Only.below {f : Nat → Prop} {w w' : World} (h : Only f w w') {B : Nat} (hB : B ≤ w.heap.size) (hf : ∀ k, f k → B ≤ k) : Below B w w' :=
  ⟨h.os, h.tape, h.output, h.size, fun k hk => h.block k (Nat.lt_of_lt_of_le hk hB) fun e => by have := hf k e; omega⟩
/-- A claim on memory: what it says of a world, and the blocks that it hangs on. -/
structure Res where
  says : World → Prop
  foot : Nat → Prop
  lo : Nat
  hi : Nat
  inn : ∀ k, foot k → lo ≤ k ∧ k < hi
  kept : ∀ {w w' : World}, says w → (∀ k, foot k → w'.heap[k]? = w.heap[k]?) → says w'
/-- What a call holds: nothing of old has turned, and these claims of its own, no two on one block. -/
structure St (w0 w : World) (L : List Res) : Prop where
  below : Below w0.heap.size w0 w
  says : ∀ (i : Nat) (r : Res), L[i]? = some r → r.says w
  lo : ∀ (i : Nat) (r : Res), L[i]? = some r → w0.heap.size ≤ r.lo
  hi : ∀ (i : Nat) (r : Res), L[i]? = some r → r.hi ≤ w.heap.size
  apart : ∀ (i j : Nat) (r s : Res), L[i]? = some r → L[j]? = some s → i ≠ j → ∀ k, r.foot k → ¬ s.foot k
section
variable {w0 w w' : World} {L : List Res} {r : Res}
theorem St.start (w : World) : St w w [] := ⟨Below.refl _ _, fun i r h => by simp at h, fun i r h => by simp at h, fun i r h => by simp at h, fun i j r s h => by simp at h⟩
theorem St.at_ (S : St w0 w L) (i : Nat) (h : L[i]? = some r) : r.says w := S.says i r h
theorem St.footlt (S : St w0 w L) {i : Nat} (h : L[i]? = some r) {k : Nat} (hk : r.foot k) : w0.heap.size ≤ k ∧ k < w.heap.size := by
  have h1 := r.inn k hk
  have h2 := S.lo i r h
  have h3 := S.hi i r h
  omega
/-- A call, a draw, new blocks: whatever leaves the old alone. -/
theorem St.call (S : St w0 w L) (hb : Below w.heap.size w w') : St w0 w' L :=
  ⟨S.below.trans (hb.mono S.below.size), fun i r h => r.kept (S.says i r h) fun k hk => hb.block k (S.footlt h hk).2, S.lo, fun i r h => Nat.le_trans (S.hi i r h) hb.size, S.apart⟩
/-- .. that leaves a claim behind. -/
theorem St.add (S : St w0 w L) (hb : Below w.heap.size w w') (r : Res) (hs : r.says w') (hl : w.heap.size ≤ r.lo) (hh : r.hi ≤ w'.heap.size) : St w0 w' (r :: L) := by
  have T := S.call hb
  refine ⟨T.below, fun i s h => ?_, fun i s h => ?_, fun i s h => ?_, fun i j s t h1 h2 hne k hk hk' => ?_⟩
  · cases i with
    | zero => cases h; exact hs
    | succ i => exact T.says i s h
  · cases i with
    | zero => cases h; exact Nat.le_trans S.below.size hl
    | succ i => exact T.lo i s h
  · cases i with
    | zero => cases h; exact hh
    | succ i => exact T.hi i s h
  · cases i with
    | zero =>
      cases h1
      cases j with
      | zero => exact hne rfl
      | succ j => have h3 := (S.footlt h2 hk').2; have h4 := (r.inn k hk).1; omega
    | succ i =>
      cases j with
      | zero => cases h2; have h3 := (S.footlt h1 hk).2; have h4 := (r.inn k hk').1; omega
      | succ j => exact S.apart i j s t h1 h2 (by omega) k hk hk'
/-- One claim's blocks have turned (and new ones have come): it is another claim now. -/
theorem St.turn (S : St w0 w L) (i : Nat) (h : L[i]? = some r) (r' : Res) (hc : Only r.foot w w') (hs : r'.says w') (hf : ∀ k, r'.foot k → r.foot k ∨ w.heap.size ≤ k) (hl : w0.heap.size ≤ r'.lo) (hh : r'.hi ≤ w'.heap.size) : St w0 w' (L.set i r') := by
  have hi : i < L.length := (List.getElem?_eq_some_iff.1 h).1
  have key : ∀ (j : Nat) (s : Res), (L.set i r')[j]? = some s → (j = i ∧ s = r') ∨ (j ≠ i ∧ L[j]? = some s) := fun j s hj => by
    by_cases e : j = i
    · subst e
      rw [List.getElem?_set_self hi] at hj
      cases hj
      exact .inl ⟨rfl, rfl⟩
    · rw [List.getElem?_set_ne (fun e' => e e'.symm)] at hj
      exact .inr ⟨e, hj⟩
  refine ⟨S.below.trans (hc.below S.below.size fun k hk => (S.footlt h hk).1), fun j s hj => ?_, fun j s hj => ?_, fun j s hj => ?_, fun j j' s t h1 h2 hne k hk hk' => ?_⟩
  · rcases key j s hj with ⟨_, rfl⟩ | ⟨e, hj⟩
    · exact hs
    · exact s.kept (S.says j s hj) fun k hk => hc.block k (S.footlt hj hk).2 (S.apart j i s r hj h e k hk)
  · rcases key j s hj with ⟨_, rfl⟩ | ⟨e, hj⟩
    · exact hl
    · exact S.lo j s hj
  · rcases key j s hj with ⟨_, rfl⟩ | ⟨e, hj⟩
    · exact hh
    · exact Nat.le_trans (S.hi j s hj) hc.size
  · rcases key j s h1 with ⟨e1, e2⟩ | ⟨e, h1'⟩
    · rcases key j' t h2 with ⟨e3, e4⟩ | ⟨e', h2'⟩
      · exact hne (e1.trans e3.symm)
      · rw [e2] at hk
        rcases hf k hk with hk | hk
        · exact S.apart i j' r t h h2' (fun x => hne (e1.trans x)) k hk hk'
        · have := (S.footlt h2' hk').2; omega
    · rcases key j' t h2 with ⟨e3, e4⟩ | ⟨e', h2'⟩
      · rw [e4] at hk'
        rcases hf k hk' with hk' | hk'
        · exact S.apart j i s r h1' h (fun x => hne (x.trans e3.symm)) k hk hk'
        · have := (S.footlt h1' hk).2; omega
      · exact S.apart j j' s t h1' h2' hne k hk hk'
/-- Claims may be left out, and brought into another order. -/
theorem St.pick (S : St w0 w L) (is : List Nat) (L' : List Res) (hL : is.map (fun i => L[i]?) = L'.map some) (hn : is.Nodup) : St w0 w L' := by
  have key : ∀ (j : Nat) (s : Res), L'[j]? = some s → ∃ i, is[j]? = some i ∧ L[i]? = some s := fun j s hj => by
    have h1 : (L'.map some)[j]? = some (some s) := by rw [List.getElem?_map, hj]; rfl
    rw [← hL, List.getElem?_map] at h1
    cases hi : is[j]? with
    | none => rw [hi] at h1; cases h1
    | some i => rw [hi] at h1; exact ⟨i, rfl, by simpa using h1⟩
  refine ⟨S.below, fun j s hj => ?_, fun j s hj => ?_, fun j s hj => ?_, fun j j' s t hj hj' hne k hk hk' => ?_⟩
  · obtain ⟨i, _, h⟩ := key j s hj; exact S.says i s h
  · obtain ⟨i, _, h⟩ := key j s hj; exact S.lo i s h
  · obtain ⟨i, _, h⟩ := key j s hj; exact S.hi i s h
  · obtain ⟨i, e, h⟩ := key j s hj
    obtain ⟨i', e', h'⟩ := key j' t hj'
    refine S.apart i i' s t h h' (fun he => hne ?_) k hk hk'
    subst he
    exact (List.getElem?_inj (List.getElem?_eq_some_iff.1 e).1 hn).1 (e.trans e'.symm)
end
/-- A variable. -/
def vr (b : Nat) (vs : List Value) : Res where
  says w := Var w b vs
  foot k := k = b
  lo := b
  hi := b + 1
  inn k h := by omega
  kept h hk := by
    have e := hk _ rfl
    refine ⟨fun i v hv => ⟨(World.cell?_of_block (a := ⟨b, i, none⟩) e).trans (h.1 i v hv).1, (World.frozen?_of_block (a := ⟨b, i, none⟩) e).trans (h.1 i v hv).2⟩, ?_⟩
    rw [Array.getElem?_eq_getElem h.2] at e
    exact (Array.getElem?_eq_some_iff.1 e).1
/-- A value in memory of its own. -/
def ow {α : Type} (r : Rp α) (lo hi : Nat) (x : α) (cs : List Value) (F : List Nat) : Res where
  says w := r.own w lo hi x cs F ∧ F.Nodup
  foot k := k ∈ F ∧ lo ≤ k ∧ k < hi
  lo := lo
  hi := hi
  inn k h := h.2
  kept h hk := ⟨r.okept h.1 fun k hF => hk k ⟨hF, r.inF h.1 k hF⟩, h.2⟩
section
variable {w0 w w' : World} {L : List Res}
theorem St.alloc (S : St w0 w L) (vs : List Value) (T : TypeId) : St w0 (w.alloc (.cells vs.toArray T)) (vr w.heap.size vs :: L) :=
  S.add ((Below.refl _ _).alloc (Nat.le_refl _) _) (vr w.heap.size vs) (Var.new w vs T) (Nat.le_refl _) (by simp [vr])
theorem St.drew (S : St w0 w L) : St w0 w.drew L := S.call (Below.refl _ _).drew
theorem St.cell (S : St w0 w L) (i : Nat) {b : Nat} {vs : List Value} (h : L[i]? = some (vr b vs)) (j : Nat) {v : Value} (hv : vs[j]? = some v) : w.cell? ⟨b, j, none⟩ = some v := (S.at_ i h).cell j hv
theorem St.loose (S : St w0 w L) (i : Nat) {b : Nat} {vs : List Value} (h : L[i]? = some (vr b vs)) (j : Nat) {v : Value} (hv : vs[j]? = some v) : w.frozen? ⟨b, j, none⟩ = false := (S.at_ i h).loose j hv
/-- A store into a variable. -/
theorem St.store (S : St w0 w L) (i : Nat) {b : Nat} {vs : List Value} (h : L[i]? = some (vr b vs)) (j : Nat) (v : Value) : St w0 (w.setCell ⟨b, j, none⟩ v) (L.set i (vr b (vs.set j v))) :=
  S.turn i h (vr b (vs.set j v)) (Only.set w (show (vr b vs).foot b from rfl) j v) ((S.at_ i h).set j v) (fun k hk => .inl hk) (show w0.heap.size ≤ b from S.lo i (vr b vs) h) (by have := S.hi i (vr b vs) h; simpa [vr] using this)
/-- A call hands back a value of its own. -/
theorem St.got {α : Type} {r : Rp α} {x : α} {cs : List Value} {F : List Nat} (S : St w0 w L) (hb : Below w.heap.size w w') (h : r.own w' w.heap.size w'.heap.size x cs F) (hF : F.Nodup) : St w0 w' (ow r w.heap.size w'.heap.size x cs F :: L) :=
  S.add hb (ow r w.heap.size w'.heap.size x cs F) ⟨h, hF⟩ (Nat.le_refl _) (Nat.le_refl _)
end
/-- What a call hands back: a value of its own. -/
def Gives {α : Type} (r : Rp α) (w : World) (x : α) (e : Ending) (w' : World) : Prop := ∃ cs F, e = .returned (r.val cs) ∧ r.own w' w.heap.size w'.heap.size x cs F ∧ F.Nodup ∧ Below w.heap.size w w'
/-- A claim is taken to pieces: whatever pieces, no two on one block. -/
theorem St.parts {w0 w : World} {T : List Res} {r : Res} (S : St w0 w (r :: T)) (rs : List Res) (hs : ∀ s ∈ rs, s.says w ∧ (∀ k, s.foot k → r.foot k) ∧ w0.heap.size ≤ s.lo ∧ s.hi ≤ w.heap.size) (ha : rs.Pairwise fun s t => ∀ k, s.foot k → ¬ t.foot k) : St w0 w (rs ++ T) := by
  have key : ∀ (j : Nat) (s : Res), (rs ++ T)[j]? = some s → (j < rs.length ∧ rs[j]? = some s) ∨ (rs.length ≤ j ∧ (r :: T)[j - rs.length + 1]? = some s) := fun j s hj => by
    by_cases h : j < rs.length
    · rw [List.getElem?_append_left h] at hj; exact .inl ⟨h, hj⟩
    · rw [List.getElem?_append_right (by omega)] at hj; exact .inr ⟨by omega, by simpa using hj⟩
  have mem : ∀ {j : Nat} {s : Res}, rs[j]? = some s → s ∈ rs := fun h => List.mem_of_getElem? h
  refine ⟨S.below, fun j s hj => ?_, fun j s hj => ?_, fun j s hj => ?_, fun j j' s t hj hj' hne k hk hk' => ?_⟩
  · rcases key j s hj with ⟨_, h⟩ | ⟨_, h⟩
    · exact (hs s (mem h)).1
    · exact S.says _ s h
  · rcases key j s hj with ⟨_, h⟩ | ⟨_, h⟩
    · exact (hs s (mem h)).2.2.1
    · exact S.lo _ s h
  · rcases key j s hj with ⟨_, h⟩ | ⟨_, h⟩
    · exact (hs s (mem h)).2.2.2
    · exact S.hi _ s h
  · rcases key j s hj with ⟨l1, h⟩ | ⟨l1, h⟩
    · rcases key j' t hj' with ⟨l2, h'⟩ | ⟨l2, h'⟩
      · have hp := List.pairwise_iff_getElem.1 ha
        obtain ⟨x1, e1⟩ := List.getElem?_eq_some_iff.1 h
        obtain ⟨x2, e2⟩ := List.getElem?_eq_some_iff.1 h'
        rcases Nat.lt_or_gt_of_ne hne with x | x
        · exact hp j j' x1 x2 x k (by rw [e1]; exact hk) (by rw [e2]; exact hk')
        · exact hp j' j x2 x1 x k (by rw [e2]; exact hk') (by rw [e1]; exact hk)
      · exact S.apart 0 _ r t rfl h' (by omega) k ((hs s (mem h)).2.1 k hk) hk'
    · rcases key j' t hj' with ⟨l2, h'⟩ | ⟨l2, h'⟩
      · exact S.apart 0 _ r s rfl h (by omega) k ((hs t (mem h')).2.1 k hk') hk
      · exact S.apart _ _ s t h h' (by omega) k hk hk'
/-- Two values of their own share no block. -/
theorem St.disj {α β : Type} {w0 w : World} {L : List Res} {r : Rp α} {q : Rp β} {lo hi lo' hi' : Nat} {x : α} {y : β} {cs cs' : List Value} {F G : List Nat} (S : St w0 w L) (i j : Nat) (h : L[i]? = some (ow r lo hi x cs F)) (h' : L[j]? = some (ow q lo' hi' y cs' G)) (hne : i ≠ j) : ∀ k ∈ F, k ∉ G := fun k hk hk' => by
  have h1 := r.inF (S.at_ i h).1 k hk
  have h2 := q.inF (S.at_ j h').1 k hk'
  exact S.apart i j _ _ h h' hne k ⟨hk, h1⟩ ⟨hk', h2⟩
/-- .. as the whole call's own. -/
theorem St.own {α : Type} {w0 w : World} {L : List Res} {r : Rp α} {lo hi : Nat} {x : α} {cs : List Value} {F : List Nat} (S : St w0 w L) (i : Nat) (h : L[i]? = some (ow r lo hi x cs F)) : r.own w w0.heap.size w.heap.size x cs F :=
  r.owide (S.at_ i h).1 (S.lo i _ h) (S.hi i _ h)
theorem St.nodup {α : Type} {w0 w : World} {L : List Res} {r : Rp α} {lo hi : Nat} {x : α} {cs : List Value} {F : List Nat} (S : St w0 w L) (i : Nat) (h : L[i]? = some (ow r lo hi x cs F)) : F.Nodup := (S.at_ i h).2
theorem St.reads {α : Type} {w0 w : World} {L : List Res} {r : Rp α} {lo hi : Nat} {x : α} {cs : List Value} {F : List Nat} (S : St w0 w L) (i : Nat) (h : L[i]? = some (ow r lo hi x cs F)) : r.rd w 0 w.heap.size x cs :=
  r.wide (r.reads (S.own i h)) (Nat.zero_le _) (Nat.le_refl _)
/-- What was there at the start still shows what it showed. -/
theorem St.old {α : Type} {w0 w : World} {L : List Res} {r : Rp α} {x : α} {cs : List Value} (S : St w0 w L) (h : r.rd w0 0 w0.heap.size x cs) : r.rd w 0 w.heap.size x cs :=
  r.wide (rd_below h S.below (Nat.le_refl _)) (Nat.le_refl _) S.below.size
theorem nodup_app {F G : List Nat} (hF : F.Nodup) (hG : G.Nodup) (h : ∀ k ∈ F, k ∉ G) : (F ++ G).Nodup := List.nodup_append.2 ⟨hF, hG, fun a ha b hb e => h a ha (e ▸ hb)⟩
theorem not_app {k : Nat} {F G : List Nat} (h : k ∉ F) (h' : k ∉ G) : k ∉ F ++ G := fun x => (List.mem_append.1 x).elim h h'
theorem ownsRow_keep {w w' : World} {base size n : Nat} {e : TypeId} {v : Value} {xs : List Value} (h : w.ownsRow base e size v n xs) (hk : ∀ k, v.ownBlock = some k → w'.heap[k]? = w.heap[k]?) : w'.ownsRow base e size v n xs := by
  obtain ⟨h1, h2⟩ := h
  refine ⟨h1, ?_⟩
  rcases h2 with h2 | ⟨g, cap, cur, hv, hg, hh, r⟩
  · exact .inl h2
  · exact .inr ⟨g, cap, cur, hv, hg, (hk g (by rw [hv]; rfl)).trans hh, r⟩
theorem ownsRow_low {w : World} {base base' size n : Nat} {e : TypeId} {v : Value} {xs : List Value} (h : w.ownsRow base e size v n xs) (hb : base' ≤ base) : w.ownsRow base' e size v n xs := by
  obtain ⟨h1, h2⟩ := h
  refine ⟨h1, ?_⟩
  rcases h2 with h2 | ⟨g, cap, cur, hv, hg, r⟩
  · exact .inl h2
  · exact .inr ⟨g, cap, cur, hv, Nat.le_trans hb hg, r⟩
theorem row_form {w : World} {base size n : Nat} {e : TypeId} {v : Value} {xs : List Value} (h : w.ownsRow base e size v n xs) : ∃ A c, v = .slice A n c ∧ n ≤ c := by
  rcases h.2 with ⟨rfl, rfl⟩ | ⟨g, cap, cur, rfl, _, _, hc, _⟩
  · exact ⟨none, 0, rfl, Nat.le_refl _⟩
  · exact ⟨_, cap, rfl, hc⟩
theorem row_lies {w : World} {base size n c hi : Nat} {e : TypeId} {A : Option Addr} {xs : List Value} (h : w.ownsRow base e size (.slice A n c) n xs) (hh : ∀ k, (Value.slice A n c).ownBlock = some k → k < hi) : Owned w base hi A xs := by
  have o := Owned.of_row h
  refine ⟨fun j u hu => ?_, o.2⟩
  obtain ⟨b, off, e1, x, y, z⟩ := o.1 j u hu
  exact ⟨b, off, e1, x, hh b (by rw [e1]; rfl), z⟩
/-- A list as it is read: its length is within its capacity. -/
def rdLst {α : Type} (r : Rp α) (w : World) (lo hi : Nat) (xs : List α) (cs : List Value) : Prop := ∃ A c ds, cs = [.slice A xs.length c] ∧ xs.length ≤ c ∧ rdAll r w lo hi xs ds ∧ Lies w lo hi A ds
theorem rdLst.kept {α : Type} {r : Rp α} {w w' : World} {lo hi : Nat} {xs : List α} {cs : List Value} (h : rdLst r w lo hi xs cs) (hb : ∀ k, lo ≤ k → k < hi → w'.heap[k]? = w.heap[k]?) : rdLst r w' lo hi xs cs := by
  obtain ⟨A, c, ds, e, hc, h1, h2⟩ := h
  exact ⟨A, c, ds, e, hc, rdAll_kept hb h1, h2.kept hb⟩
theorem rdLst.wide {α : Type} {r : Rp α} {w : World} {lo hi lo' hi' : Nat} {xs : List α} {cs : List Value} (h : rdLst r w lo hi xs cs) (a : lo' ≤ lo) (b : hi ≤ hi') : rdLst r w lo' hi' xs cs := by
  obtain ⟨A, c, ds, e, hc, h1, h2⟩ := h
  exact ⟨A, c, ds, e, hc, rdAll_wide a b h1, h2.wide a b⟩
/-- Lists in memory of their own, wherever it lies in its block. -/
def rLsw {α : Type} (r : Rp α) : Rp (List α) where
  sz := 1
  val cs := cs.headD undef
  rd := rdLst r
  own w lo hi xs cs F := ∃ A c ds F1, cs = [.slice A xs.length c] ∧ xs.length ≤ c ∧ F = blks A ds ++ F1 ∧ ownAll r w lo hi xs ds F1 ∧ Owned w lo hi A ds
  wf xs := xs.length ≤ maxLen ∧ ∀ x ∈ xs, r.wf x
  cap xs := xs.length ≤ 1048576 ∧ ∀ x ∈ xs, r.cap x
  size xs := xs.length + sizeAll r xs
  cnt xs := cntAll r xs
  mark k xs := mkAll r k xs
  tcnt xs := cntAll r xs
  top k xs := mkAll r k xs
  len h := by obtain ⟨A, c, ds, rfl, _⟩ := h; rfl
  kept h hb := h.kept hb
  wide h a b := h.wide a b
  reads h := by
    obtain ⟨A, c, ds, F1, e, hc, _, h1, h2⟩ := h
    exact ⟨A, c, ds, e, hc, ownAll_reads h1, h2.1⟩
  okept h hb := by
    obtain ⟨A, c, ds, F1, e, hc, rfl, h1, h2⟩ := h
    exact ⟨A, c, ds, F1, e, hc, rfl, ownAll_kept h1 fun k hk => hb k (by simp [hk]), owned_agree h2 fun k hk => hb k (by simp [hk])⟩
  owide h a b := by
    obtain ⟨A, c, ds, F1, e, hc, f, h1, h2⟩ := h
    exact ⟨A, c, ds, F1, e, hc, f, ownAll_wide a b h1, h2.wide a b⟩
  inF h k hk := by
    obtain ⟨A, c, ds, F1, e, hc, rfl, h1, h2⟩ := h
    rcases List.mem_append.1 hk with hk | hk
    · exact blks_in h2 hk
    · exact ownAll_inF h1 k hk
/-- Lists whose memory is a row of their own (e: the type of the row). -/
def rLst {α : Type} (e : TypeId) (r : Rp α) : Rp (List α) where
  sz := 1
  val cs := cs.headD undef
  rd := rdLst r
  own w lo hi xs cs F := ∃ v ds F1, cs = [v] ∧ F = v.ownBlock.toList ++ F1 ∧ ownAll r w lo hi xs ds F1 ∧ w.ownsRow lo e r.sz v xs.length ds ∧ (∀ k, v.ownBlock = some k → k < hi)
  wf xs := xs.length ≤ maxLen ∧ ∀ x ∈ xs, r.wf x
  cap xs := xs.length ≤ 1048576 ∧ ∀ x ∈ xs, r.cap x
  size xs := xs.length + sizeAll r xs
  cnt xs := cntAll r xs
  mark k xs := mkAll r k xs
  tcnt xs := cntAll r xs
  top k xs := mkAll r k xs
  len h := by obtain ⟨A, c, ds, rfl, _⟩ := h; rfl
  kept h hb := h.kept hb
  wide h a b := h.wide a b
  reads h := by
    obtain ⟨v, ds, F1, e1, _, h1, h2, h3⟩ := h
    obtain ⟨A, c, rfl, hc⟩ := row_form h2
    exact ⟨A, c, ds, e1, hc, ownAll_reads h1, (row_lies h2 h3).1⟩
  okept h hb := by
    obtain ⟨v, ds, F1, e1, rfl, h1, h2, h3⟩ := h
    exact ⟨v, ds, F1, e1, rfl, ownAll_kept h1 fun k hk => hb k (by simp [hk]), ownsRow_keep h2 fun k hk => hb k (by simp [hk]), h3⟩
  owide h a b := by
    obtain ⟨v, ds, F1, e1, f, h1, h2, h3⟩ := h
    exact ⟨v, ds, F1, e1, f, ownAll_wide a b h1, ownsRow_low h2 a, fun k hk => Nat.lt_of_lt_of_le (h3 k hk) b⟩
  inF h k hk := by
    obtain ⟨v, ds, F1, e1, rfl, h1, h2, h3⟩ := h
    rcases List.mem_append.1 hk with hk | hk
    · have hk' : v.ownBlock = some k := by simpa using hk
      exact ⟨(h2.lt k hk').1, h3 k hk'⟩
    · exact ownAll_inF h1 k hk
theorem lsw_own {α : Type} {r : Rp α} {w : World} {lo hi : Nat} {xs : List α} {cs : List Value} {F : List Nat} (h : (rLsw r).own w lo hi xs cs F) : ∃ v, cs = [v] := by
  obtain ⟨A, c, _, _, e, _⟩ := h
  exact ⟨_, e⟩
theorem lst_rd {α : Type} {r : Rp α} {w : World} {lo hi : Nat} {xs : List α} {cs : List Value} (h : rdLst r w lo hi xs cs) : ∃ v, cs = [v] := by
  obtain ⟨A, c, _, e, _⟩ := h
  exact ⟨_, e⟩
/-- The slice's value, and its length within its capacity. -/
theorem lst_val {α : Type} {r : Rp α} {w : World} {lo hi : Nat} {xs : List α} {v : Value} (h : rdLst r w lo hi xs [v]) : ∃ A c, v = .slice A xs.length c ∧ xs.length ≤ c := by
  obtain ⟨A, c, ds, e, hc, _⟩ := h
  cases e
  exact ⟨A, c, rfl, hc⟩
/-- Lists of pairs and of numbers, cell by cell. -/
def pcells (l : List (Int × Int)) : List Value := l.flatMap fun s => [.int .i64 s.1, .int .i64 s.2]
theorem p2_cells {w : World} {lo hi : Nat} : ∀ {l : List (Int × Int)} {ds : List Value}, rdAll (rPair rInt rInt) w lo hi l ds → ds = pcells l
  | [], ds, h => h
  | s :: l, ds, h => by
    obtain ⟨c1, c2, rfl, ⟨a, b, rfl, ha, hb⟩, h2⟩ := h
    rw [show a = _ from ha, show b = _ from hb, p2_cells h2]
    rfl
def icells (l : List Int) : List Value := l.map fun n => .int .i64 n
theorem i1_cells {w : World} {lo hi : Nat} : ∀ {l : List Int} {ds : List Value}, rdAll rInt w lo hi l ds → ds = icells l
  | [], ds, h => h
  | s :: l, ds, h => by
    obtain ⟨c1, c2, rfl, h1, h2⟩ := h
    rw [show c1 = _ from h1, i1_cells h2]
    rfl
theorem p2_lies {w : World} {lo hi n c : Nat} {A : Option Addr} {l : List (Int × Int)} (h : rdLst (rPair rInt rInt) w lo hi l [.slice A n c]) : Lies w lo hi A (pcells l) := by
  obtain ⟨A', c', ds, e, _, h1, h2⟩ := h
  cases e
  rwa [p2_cells h1] at h2
theorem i1_lies {w : World} {lo hi n c : Nat} {A : Option Addr} {l : List Int} (h : rdLst rInt w lo hi l [.slice A n c]) : Lies w lo hi A (icells l) := by
  obtain ⟨A', c', ds, e, _, h1, h2⟩ := h
  cases e
  rwa [i1_cells h1] at h2
end Go.Proofs.Ytldgadmpclgfhaa.Stt
namespace Go.Proofs.Ytldgadmpclgfhaa.Stt
set_option maxRecDepth 100000
open Go.ChangeShapes Go.WideShapes Go.ChangeAt Go.RowKit Go.Deep
open Go.Proofs.Ytldgadmpclgfhaa.Base Go.Proofs.Ytldgadmpclgfhaa.Mem Go.Proofs.Ytldgadmpclgfhaa.Data
set_option linter.unusedVariables false
section
variable {P : Program} {w0 w w' : World} {L : List Res}
theorem Var.setCells {b : Nat} : ∀ (us vs : List Value) (o : Nat) (w : World), Var w b vs → Var (w.setCells b o us) b (us.foldl (fun (p : List Value × Nat) u => (p.1.set p.2 u, p.2 + 1)) (vs, o)).1
  | [], vs, o, w, h => h
  | u :: us, vs, o, w, h => by
    rw [World.setCells, List.foldl_cons]
    exact Var.setCells us (vs.set o u) (o + 1) _ (h.set o u)
theorem Only.setCells {f : Nat → Prop} {b : Nat} (hf : f b) : ∀ (us : List Value) (o : Nat) (w : World), Only f w (w.setCells b o us)
  | [], o, w => Only.refl _ _
  | u :: us, o, w => by
    rw [World.setCells]
    exact (Only.set w hf o u).trans (Only.setCells hf us (o + 1) _)
theorem setCells_size {b : Nat} : ∀ (us : List Value) (o : Nat) (w : World), (w.setCells b o us).heap.size = w.heap.size
  | [], o, w => rfl
  | u :: us, o, w => by rw [World.setCells, setCells_size us]; simp
/-- A fresh slice without an element. -/
theorem St.fresh {α : Type} (S : St w0 w L) (e : TypeId) (r : Rp α) : St w0 (w.alloc (.cells #[] e)) (ow (rLst e r) w.heap.size (w.alloc (.cells #[] e)).heap.size [] [.slice (some ⟨w.heap.size, 0, none⟩) 0 0] [w.heap.size] :: L) :=
  S.add ((Below.refl _ _).alloc (Nat.le_refl _) _) _ ⟨⟨_, [], [], rfl, rfl, ⟨rfl, rfl⟩, World.ownsRow_made w #[] 0 (Nat.le_refl _) (Nat.zero_le _) (by simp), fun k hk => by cases hk; simp⟩, by simp⟩ (Nat.le_refl _) (Nat.le_refl _)
/-- One element in a block of its own, as a slice that is read. -/
theorem St.box {α : Type} {r : Rp α} (S : St w0 w L) (i : Nat) {b : Nat} {vs : List Value} (h : L[i]? = some (vr b vs)) {x : α} (hx : r.rd w 0 w.heap.size x vs) (c : Nat) (hc : 1 ≤ c) : rdLst r w 0 w.heap.size [x] [.slice (some ⟨b, 0, none⟩) 1 c] :=
  ⟨_, c, vs, rfl, hc, rdAll_one hx, fun j u hu => ⟨b, 0, rfl, Nat.zero_le _, (S.at_ i h).2, by rw [Nat.zero_add]; exact S.cell i h j hu⟩⟩
/-- The nil slice is a list of one's own. -/
theorem St.nil {α : Type} (S : St w0 w L) (e : TypeId) (r : Rp α) : St w0 w (ow (rLst e r) w.heap.size w.heap.size [] [.slice none 0 0] [] :: L) :=
  S.add (Below.refl _ _) _ ⟨⟨.slice none 0 0, [], [], rfl, rfl, ⟨rfl, rfl⟩, World.ownsRow_nil _ _ _ _, fun k hk => by cases hk⟩, by simp⟩ (Nat.le_refl _) (Nat.le_refl _)
theorem St.range (S : St w0 w L) (i : Nat) {b : Nat} {vs : List Value} (h : L[i]? = some (vr b vs)) : w.rangeAt b 0 vs := fun j v hv => by rw [Nat.zero_add]; exact S.cell i h j hv
end
end Go.Proofs.Ytldgadmpclgfhaa.Stt
namespace Go.Proofs.Ytldgadmpclgfhaa.Ord
set_option maxRecDepth 100000
open Go.RowKit
inductive Ot where
  | nil : Ot
  | take : Nat → Ot → Ot
  | alone : Nat → Ot → Ot
  | two : Nat → Ot → Nat → Ot → Ot
section
variable {P : Program} {ops : Array Oper} {Q : Exit → Act → World → Prop} {S : World → Prop}
/-- The tree's own test. -/
def ordT (ops : Array Oper) : Nat → Ot → Array Bool → Bool
  | 0, .nil, listed => (Region.ready .any ops listed).isEmpty
  | f + 1, .take i r, listed => (Region.ready .any ops listed).contains i && Region.free .any ops listed i && ordT ops f r (listed.setIfInBounds i true)
  | f + 1, .alone i r, listed => decide (Region.ready .any ops listed = [i]) && ordT ops f r (listed.setIfInBounds i true)
  | f + 1, .two i r j s, listed => decide (Region.ready .any ops listed = [i, j]) && ordT ops f r (listed.setIfInBounds i true) && ordT ops f s (listed.setIfInBounds j true)
  | _, _, _ => false
def wpOt (P : Program) (ops : Array Oper) (Q : Exit → Act → World → Prop) (S : World → Prop) : Ot → Act → World → Prop
  | .nil, a, w => Q .normal a w
  | .take i r, a, w => ∃ o, ops[i]? = some o ∧ ∃ v, YieldsIf P ops S o v a ∧ wpOt P ops Q S r (a.put o.dst v) w
  | .alone i r, a, w => ∃ o, ops[i]? = some o ∧ ∀ K' : Act → World → Prop, Shut (∀ a w, S w → wpOt P ops Q S r a w → K' a w) → if Region.wanted o (yielded ops a.tmps) = true then Oper.wp P o a w K' Q else K' (a.put o.dst undef) w
  | .two i r j s, a, w => (∃ o, ops[i]? = some o ∧ ∀ K' : Act → World → Prop, Shut (∀ a w, S w → wpOt P ops Q S r a w → K' a w) → if Region.wanted o (yielded ops a.tmps) = true then Oper.wp P o a w K' Q else K' (a.put o.dst undef) w) ∧
    (∃ o, ops[j]? = some o ∧ ∀ K' : Act → World → Prop, Shut (∀ a w, S w → wpOt P ops Q S s a w → K' a w) → if Region.wanted o (yielded ops a.tmps) = true then Oper.wp P o a w K' Q else K' (a.put o.dst undef) w)
theorem wpOt_any (hs : Region.noSelect ops = true) (hQ : ∀ (d : Option Tmp) v c a w, Q (.panic c) (Act.put a d v) w → Q (.panic c) a w) :
    ∀ (f : Nat) (t : Ot) (listed : Array Bool) (a : Act) (w : World), ordT ops f t listed = true → S w → wpOt P ops Q S t a w → wpAnyH P .any ops Q S f listed a w
  | 0, .nil, listed, a, w, hB, _, h => ⟨by simpa [ordT] using hB, h⟩
  | f + 1, .take i r, listed, a, w, hB, hS, ⟨o, ho, v, hy, hK⟩ => by
    simp only [ordT, Bool.and_eq_true] at hB
    exact wpAnyH_take ho hs hB.1.2 hB.1.1 (fun c a w => hQ o.dst v c a w) hy hS (wpOt_any hs hQ f r _ _ _ hB.2 hS hK)
  | f + 1, .alone i r, listed, a, w, hB, hS, ⟨o, ho, h⟩ => by
    simp only [ordT, Bool.and_eq_true, decide_eq_true_eq] at hB
    refine wpAnyH_all hB.1 (by simp) fun j hj => ?_
    have hj' : j = i := by simpa using hj
    subst hj'
    exact wpOp_step ho (fun K' hK => h K' (fun a' w' hS' hW => hK a' w' ⟨hS', wpOt_any hs hQ f r _ _ _ hB.2 hS' hW⟩))
  | f + 1, .two i r j s, listed, a, w, hB, hS, ⟨⟨o, ho, h⟩, ⟨o', ho', h'⟩⟩ => by
    simp only [ordT, Bool.and_eq_true, decide_eq_true_eq] at hB
    refine wpAnyH_all hB.1.1 (by simp) fun k hk => ?_
    simp only [List.mem_cons, List.not_mem_nil, or_false] at hk
    rcases hk with rfl | rfl
    · exact wpOp_step ho (fun K' hK => h K' (fun a' w' hS' hW => hK a' w' ⟨hS', wpOt_any hs hQ f r _ _ _ hB.1.2 hS' hW⟩))
    · exact wpOp_step ho' (fun K' hK => h' K' (fun a' w' hS' hW => hK a' w' ⟨hS', wpOt_any hs hQ f s _ _ _ hB.2 hS' hW⟩))
  | 0, .take _ _, _, _, _, hB, _, _ => by simp [ordT] at hB
  | 0, .alone _ _, _, _, _, hB, _, _ => by simp [ordT] at hB
  | 0, .two _ _ _ _, _, _, _, hB, _, _ => by simp [ordT] at hB
  | _ + 1, .nil, _, _, _, hB, _, _ => by simp [ordT] at hB
/-- THE LAW. -/
theorem wp_region_tree {id : Nat} {a : Act} {w : World} (S : World → Prop) (t : Ot) (hm : P.follows .mixedOrders = true) (hs : Region.noSelect ops = true)
    (hB : ordT ops ops.size t (Array.replicate ops.size false) = true) (hS : S w.drew) (h : wpOt P ops (NoPanic Q) S t a w.drew) : (Code.region id ops true).wp P Q a w :=
  wp_region_noPanic (wp_region_held (S := S) hm (wpOt_any hs (fun _ _ _ _ _ h => h.elim) _ t _ a w.drew hB hS h))
theorem ot_take {i : Nat} {r : Ot} {a : Act} {w : World} {o : Oper} {v : Value} (ho : ops[i]? = some o) (hw : Region.wanted o (yielded ops a.tmps) = true) (hv : ∀ w, S w → (execOp a.eval o).run P w = .ok (.value v) w)
    (h : wpOt P ops Q S r (a.put o.dst v) w) : wpOt P ops Q S (.take i r) a w := ⟨o, ho, v, .inl ⟨hw, hv⟩, h⟩
theorem ot_skip {i : Nat} {r : Ot} {a : Act} {w : World} {o : Oper} (ho : ops[i]? = some o) (hw : Region.wanted o (yielded ops a.tmps) = false)
    (h : wpOt P ops Q S r (a.put o.dst undef) w) : wpOt P ops Q S (.take i r) a w := ⟨o, ho, _, .inr ⟨hw, rfl⟩, h⟩
theorem ot_alone {i : Nat} {r : Ot} {a : Act} {w : World} {o : Oper} (ho : ops[i]? = some o)
    (h : ∀ K' : Act → World → Prop, Shut (∀ a w, S w → wpOt P ops Q S r a w → K' a w) → if Region.wanted o (yielded ops a.tmps) = true then Oper.wp P o a w K' Q else K' (a.put o.dst undef) w) : wpOt P ops Q S (.alone i r) a w := ⟨o, ho, h⟩
theorem ot_two {i j : Nat} {r s : Ot} {a : Act} {w : World} {o o' : Oper} (ho : ops[i]? = some o) (ho' : ops[j]? = some o')
    (h : ∀ K' : Act → World → Prop, Shut (∀ a w, S w → wpOt P ops Q S r a w → K' a w) → if Region.wanted o (yielded ops a.tmps) = true then Oper.wp P o a w K' Q else K' (a.put o.dst undef) w)
    (h' : ∀ K' : Act → World → Prop, Shut (∀ a w, S w → wpOt P ops Q S s a w → K' a w) → if Region.wanted o' (yielded ops a.tmps) = true then Oper.wp P o' a w K' Q else K' (a.put o'.dst undef) w) : wpOt P ops Q S (.two i r j s) a w := ⟨⟨o, ho, h⟩, ⟨o', ho', h'⟩⟩
theorem ot_nil {a : Act} {w : World} (h : Q .normal a w) : wpOt P ops (NoPanic Q) S .nil a w := NoPanic.normal h
end
end Go.Proofs.Ytldgadmpclgfhaa.Ord
namespace Go.Proofs.Ytldgadmpclgfhaa.Sx
set_option maxRecDepth 100000
open Go.ChangeShapes Go.WideShapes Go.ChangeAt Go.RowKit Go.Deep
open Go.Proofs.Ytldgadmpclgfhaa.Base Go.Proofs.Ytldgadmpclgfhaa.Mem Go.Proofs.Ytldgadmpclgfhaa.Data Go.Proofs.Ytldgadmpclgfhaa.Stt
set_option linter.unusedVariables false
set_option linter.unusedSimpArgs false
abbrev Tl := List (Nat × Value)
/-- The value of a slot: the last that was put. -/
def look : Tl → Nat → Option Value
  | [], _ => none
  | (k, v) :: r, s => bif Nat.beq k s then some v else look r s
def ev (T : Tl) : Operand → Value
  | .tmp t => (look T t).getD undef
  | .const v => v
  | .global g => .pointer (some ⟨g, 0, none⟩)
  | .func f => .func (.func f) #[] #[]
def known (T : Tl) : Operand → Bool
  | .tmp t => (look T t).isSome
  | _ => true
def up (d : Option Tmp) (v : Value) (T : Tl) : Tl := match d with | some d => (d, v) :: T | none => T
def okDst (n : Nat) : Option Tmp → Bool
  | some d => Nat.blt d n
  | none => true
structure Ag (n : Nat) (T : Tl) (a : Act) : Prop where
  size : a.tmps.size = n
  defers : a.defers = []
  at_ : ∀ s v, look T s = some v → a.tmps[s]? = some v
section
variable {n : Nat} {T : Tl} {a : Act}
theorem Ag.put (h : Ag n T a) {d : Option Tmp} (hd : okDst n d = true) (v : Value) : Ag n (up d v T) (a.put d v) := by
  cases d with
  | none => exact h
  | some d =>
    have hd' : d < n := Nat.le_of_ble_eq_true hd
    refine ⟨by simp [Act.put, h.size], by simp [Act.put, h.defers], fun s u hs => ?_⟩
    simp only [up, look] at hs
    simp only [Act.put]
    by_cases e : d = s
    · subst e
      rw [Nat.beq_refl, cond_true] at hs
      cases hs
      rw [Array.getElem?_setIfInBounds_self_of_lt (by rw [h.size]; exact hd')]
    · have hb : Nat.beq d s = false := by rw [← Bool.not_eq_true, Nat.beq_eq]; exact e
      rw [hb, cond_false] at hs
      rw [Array.getElem?_setIfInBounds_ne e]
      exact h.at_ s u hs
theorem Ag.value (h : Ag n T a) {x : Operand} (hx : known T x = true) : a.eval x = ev T x := by
  cases x with
  | tmp t =>
    cases hl : look T t with
    | none => rw [known, hl] at hx; cases hx
    | some v =>
      show a.tmps.getD t undef = (look T t).getD undef
      rw [hl, Array.getD_eq_getD_getElem?, h.at_ t v hl]
  | _ => rfl
end
/-- Neither select. -/
def plainOp (o : Oper) : Bool := match o.op with | .select _ _ => false | _ => true
def opsKnown (T : Tl) (o : Oper) : Bool := o.op.operands.toList.all (known T)
theorem Ag.exec {n : Nat} {T : Tl} {a : Act} (h : Ag n T a) {o : Oper} (hp : plainOp o = true) (hk : opsKnown T o = true) : execOp a.eval o = execOp (ev T) o :=
  execOp_congr o (fun cs b e => by simp [plainOp, e] at hp) fun x hx => h.value (List.all_eq_true.1 hk x (by simpa using hx))
/-- Is the guard's slot known as a boolean; is the operation wanted? -/
def gval (T : Tl) (ops : Array Oper) (j : Nat) : Option Bool :=
  match (ops[j]?).bind (·.dst) with
  | some d => (match look T d with | some (.bool b) => some b | _ => none)
  | none => none
def gk (T : Tl) (ops : Array Oper) (o : Oper) : Bool := match o.guard with | none => true | some (j, _) => (match (ops[j]?).bind (·.dst) with | some d => (look T d).isSome | none => false)
def wt (T : Tl) (ops : Array Oper) (o : Oper) : Bool := match o.guard with | none => true | some (j, b) => gval T ops j == some b
theorem Ag.want {n : Nat} {T : Tl} {a : Act} (h : Ag n T a) {ops : Array Oper} {o : Oper} (hk : gk T ops o = true) : Region.wanted o (yielded ops a.tmps) = wt T ops o := by
  unfold Region.wanted wt
  unfold gk at hk
  cases hg : o.guard with
  | none => rfl
  | some p =>
    obtain ⟨j, b⟩ := p
    rw [hg] at hk
    simp only at hk ⊢
    have key : yielded ops a.tmps j = gval T ops j := by
      unfold gval
      unfold yielded
      cases hd : (ops[j]?).bind (·.dst) with
      | none => rw [hd] at hk; cases hk
      | some d =>
        rw [hd] at hk
        simp only at hk ⊢
        cases hl : look T d with
        | none => rw [hl] at hk; cases hk
        | some v =>
          rw [hl] at hk
          simp only [Option.bind_some, h.at_ d v hl]
          cases v <;> simp_all
    rw [key]
/-- What an operation wants. -/
def chk (n : Nat) (T : Tl) (ops : Array Oper) (o : Oper) : Bool := gk T ops o && wt T ops o && plainOp o && opsKnown T o && okDst n o.dst
def chkNo (n : Nat) (T : Tl) (ops : Array Oper) (o : Oper) : Bool := gk T ops o && !wt T ops o && okDst n o.dst
structure Chk (n : Nat) (T : Tl) (ops : Array Oper) (o : Oper) (a : Act) : Prop where
  want : Region.wanted o (yielded ops a.tmps) = true
  exec : execOp a.eval o = execOp (ev T) o
  ok : okDst n o.dst = true
theorem Ag.takes {n : Nat} {T : Tl} {a : Act} (h : Ag n T a) {ops : Array Oper} {o : Oper} (hc : chk n T ops o = true) : Chk n T ops o a := by
  unfold chk at hc
  simp only [Bool.and_eq_true] at hc
  exact ⟨(h.want hc.1.1.1.1).trans hc.1.1.1.2, h.exec hc.1.1.2 hc.1.2, hc.2⟩
/-- Is the type's value a row of cells, or one cell? -/
def isRow (P : Program) (t : TypeId) : Bool := match P.underlying t with | some d => d.isRow | none => false
def isCell (P : Program) (t : TypeId) : Bool := match P.underlying t with | some d => !d.isRow | none => false
theorem isRow_spec {P : Program} {t : TypeId} (h : isRow P t = true) : ∃ d, P.underlying t = some d ∧ d.isRow = true := by
  unfold isRow at h
  cases hu : P.underlying t with
  | none => rw [hu] at h; cases h
  | some d => rw [hu] at h; exact ⟨d, rfl, h⟩
theorem isCell_spec {P : Program} {t : TypeId} (h : isCell P t = true) : ∃ d, P.underlying t = some d ∧ d.isRow = false := by
  unfold isCell at h
  cases hu : P.underlying t with
  | none => rw [hu] at h; cases h
  | some d => rw [hu] at h; exact ⟨d, rfl, by simpa using h⟩
def G (P : Program) (n : Nat) (ops : Array Oper) (Q : Exit → Act → World → Prop) (w0 : World) (T : Tl) (L : List Res) (rest : List Oper) : Prop := ∀ a w, Ag n T a → St w0 w L → wpList P ops Q rest a w
def C (P : Program) (n : Nat) (Q : Exit → Act → World → Prop) (w0 : World) (T : Tl) (L : List Res) (c : Code) : Prop := ∀ a w, Ag n T a → St w0 w L → c.wp P Q a w
def E (n : Nat) (Q : Exit → Act → World → Prop) (w0 : World) (T : Tl) (L : List Res) (e : Exit) : Prop := ∀ a w, Ag n T a → St w0 w L → Q e a w
section
variable {P : Program} {n : Nat} {ops : Array Oper} {Q : Exit → Act → World → Prop} {w0 : World} {T : Tl} {L : List Res} {rest : List Oper} {o : Oper}
theorem G.nil (k : E n Q w0 T L .normal) : G P n ops Q w0 T L [] := fun a w hA S => wpList_nil (k a w hA S)
theorem wpList_takes {a : Act} {w : World} (hw : Region.wanted o (yielded ops a.tmps) = true) (h : o.wp P a w (wpList P ops Q rest) Q) : wpList P ops Q (o :: rest) a w := by
  unfold wpList
  rw [if_pos hw]
  exact .inl h
/-- A value is computed. -/
theorem G.pure (v : Value) (hc : chk n T ops o = true) (hv : ∀ w, (execOp (ev T) o).run P w = .ok (.value v) w) (k : G P n ops Q w0 (up o.dst v T) L rest) : G P n ops Q w0 T L (o :: rest) := fun a w hA S => by
  have c := hA.takes hc
  refine wpList_takes c.want ?_
  unfold Oper.wp
  rw [c.exec, hv w]
  exact k _ _ (hA.put c.ok v) S
theorem G.pureq (v0 v : Value) (hc : chk n T ops o = true) (hv : ∀ w, (execOp (ev T) o).run P w = .ok (.value v0) w) (he : v0 = v) (k : G P n ops Q w0 (up o.dst v T) L rest) : G P n ops Q w0 T L (o :: rest) := G.pure v hc (fun w => he ▸ hv w) k
/-- .. in the worlds that hold the claims. -/
theorem G.reads (v : Value) (hc : chk n T ops o = true) (hv : ∀ w, St w0 w L → (execOp (ev T) o).run P w = .ok (.value v) w) (k : G P n ops Q w0 (up o.dst v T) L rest) : G P n ops Q w0 T L (o :: rest) := fun a w hA S => by
  have c := hA.takes hc
  refine wpList_takes c.want ?_
  unfold Oper.wp
  rw [c.exec, hv w S]
  exact k _ _ (hA.put c.ok v) S
/-- .. whatever the world becomes. -/
theorem G.turns (hc : chk n T ops o = true) (hv : ∀ w, St w0 w L → ∃ v w' L', (execOp (ev T) o).run P w = .ok (.value v) w' ∧ St w0 w' L' ∧ G P n ops Q w0 (up o.dst v T) L' rest) : G P n ops Q w0 T L (o :: rest) := fun a w hA S => by
  have c := hA.takes hc
  obtain ⟨v, w', L', h1, h2, h3⟩ := hv w S
  refine wpList_takes c.want ?_
  unfold Oper.wp
  rw [c.exec, h1]
  exact h3 _ _ (hA.put c.ok v) h2
theorem G.acts (hc : chk n T ops o = true) (hv : ∀ w, St w0 w L → ∃ w' L', (execOp (ev T) o).run P w = .ok .skip w' ∧ St w0 w' L' ∧ G P n ops Q w0 (up o.dst undef T) L' rest) : G P n ops Q w0 T L (o :: rest) := fun a w hA S => by
  have c := hA.takes hc
  obtain ⟨w', L', h1, h2, h3⟩ := hv w S
  refine wpList_takes c.want ?_
  unfold Oper.wp
  rw [c.exec, h1]
  exact h3 _ _ (hA.put c.ok undef) h2
theorem G.skip (hc : chkNo n T ops o = true) (k : G P n ops Q w0 (up o.dst undef T) L rest) : G P n ops Q w0 T L (o :: rest) := fun a w hA S => by
  unfold chkNo at hc
  simp only [Bool.and_eq_true, Bool.not_eq_true'] at hc
  unfold wpList
  rw [if_neg (by rw [hA.want hc.1.1, hc.1.2]; decide)]
  exact k _ _ (hA.put hc.2 undef) S
/-- A call. -/
theorem G.call (f : FuncId) (args : Array Value) (hc : chk n T ops o = true) (hf : ∀ w, (execOp (ev T) o).run P w = .ok (.enter f args) w)
    (h : ∀ w, St w0 w L → Calls P f args w fun e w' => ∃ v L', e = .returned v ∧ St w0 w' L' ∧ G P n ops Q w0 (up o.dst v T) L' rest) : G P n ops Q w0 T L (o :: rest) := fun a w hA S => by
  have c := hA.takes hc
  refine wpList_takes c.want ?_
  unfold Oper.wp
  rw [c.exec, hf w]
  refine (h w S).mono ?_
  rintro e w' ⟨v, L', rfl, h1, h2⟩
  exact h2 _ _ (hA.put c.ok v) h1
/-- .. that hands back plain values and leaves the old as it was. -/
theorem G.plain (f : FuncId) (args : Array Value) (v : Value) (hc : chk n T ops o = true) (hf : ∀ w, (execOp (ev T) o).run P w = .ok (.enter f args) w)
    (h : ∀ w, St w0 w L → Calls P f args w fun e w' => e = .returned v ∧ Below w.heap.size w w') (k : G P n ops Q w0 (up o.dst v T) L rest) : G P n ops Q w0 T L (o :: rest) :=
  G.call f args hc hf fun w S => (h w S).mono fun e w' ⟨he, hb⟩ => ⟨v, L, he, S.call hb, k⟩
/-- A variable. -/
theorem G.box (t : TypeId) (x : Operand) (vs : List Value) (hop : o.op = .box t x) (hc : chk n T ops o = true) (hx : (ev T x).cells = vs.toArray)
    (k : ∀ b, G P n ops Q w0 (up o.dst (.pointer (some ⟨b, 0, none⟩)) T) (vr b vs :: L) rest) : G P n ops Q w0 T L (o :: rest) :=
  G.turns hc fun w S => ⟨_, _, _, by
    unfold execOp
    simp only [hop, Sem.run_bind, Instr.box, newVar, newRow, run_newObj_alloc, Sem.run_pure, Result.andThen_ok, hx], S.alloc vs t, k _⟩
/-- A struct, or a part of one, is loaded. -/
theorem G.ld (t : TypeId) (x : Operand) (b off i : Nat) (vs cs : List Value) (hop : o.op = .load t x) (hc : chk n T ops o = true) (hx : ev T x = .pointer (some ⟨b, off, none⟩)) (hL : L[i]? = some (vr b vs)) (hcs : (vs.drop off).take cs.length = cs)
    (hr : isRow P t = true) (hi : (P.info? t).map (·.size) = some cs.length) (k : G P n ops Q w0 (up o.dst (.agg cs.toArray) T) L rest) : G P n ops Q w0 T L (o :: rest) :=
  G.reads _ hc (fun w S => by
    obtain ⟨d, hu, hd⟩ := isRow_spec hr
    unfold execOp
    have h := run_loadAt_mid (P := P) w b off t cs d (fun j v hv => S.cell i hL (off + j) (by
      rw [← hcs] at hv
      have hj : j < cs.length := by have := (List.getElem?_eq_some_iff.1 hv).1; rw [List.length_take] at this; omega
      rwa [List.getElem?_take, if_pos hj, List.getElem?_drop] at hv)) hu hd hi
    simp only [hop, hx, Sem.run_bind, h, Sem.run_pure, Result.andThen_ok]) k
/-- One cell. -/
theorem G.ld1 (t : TypeId) (x : Operand) (b off i : Nat) (vs : List Value) (v : Value) (hop : o.op = .load t x) (hc : chk n T ops o = true) (hx : ev T x = .pointer (some ⟨b, off, none⟩)) (hL : L[i]? = some (vr b vs)) (hv : vs[off]? = some v)
    (hr : isCell P t = true) (k : G P n ops Q w0 (up o.dst v T) L rest) : G P n ops Q w0 T L (o :: rest) :=
  G.reads v hc (fun w S => by
    obtain ⟨d, hu, hd⟩ := isCell_spec hr
    unfold execOp
    have h : (Instr.loadAt t (.pointer (some ⟨b, off, none⟩))).run P w = .ok v w := by
      have hcell := S.cell i hL off hv
      have hagg : (isAgg t).run P w = .ok false w := by
        unfold isAgg
        rw [Sem.run_bind, run_underlying hu w]
        cases d <;> simp_all
      simp only [Instr.loadAt, Instr.sureAddr, loadVar, Sem.run_bind, Sem.run_pure, Result.andThen_ok, hagg, Bool.false_eq_true, if_false, run_load, hcell]
    simp only [hop, hx, Sem.run_bind, h, Sem.run_pure, Result.andThen_ok]) k
theorem G.alloc (t : TypeId) (z : Value) (vs : List Value) (hop : o.op = .alloc t) (hc : chk n T ops o = true) (hz : ∀ w, (zeroValue t).run P w = .ok z w) (hx : z.cells = vs.toArray)
    (k : ∀ b, G P n ops Q w0 (up o.dst (.pointer (some ⟨b, 0, none⟩)) T) (vr b vs :: L) rest) : G P n ops Q w0 T L (o :: rest) :=
  G.turns hc fun w S => ⟨_, _, _, by
    unfold execOp
    simp only [hop, Sem.run_bind, Instr.alloc, newVar, newRow, hz, run_newObj_alloc, Sem.run_pure, Result.andThen_ok, hx], S.alloc vs t, k _⟩
/-- A value is stored into a variable, or into a part of it. -/
theorem G.sto (t : TypeId) (x y : Operand) (b off i : Nat) (vs us vs' : List Value) (L' : List Res) (hop : o.op = .store t x y) (hc : chk n T ops o = true) (hx : ev T x = .pointer (some ⟨b, off, none⟩)) (hy : (ev T y).cells = us.toArray) (hL : L[i]? = some (vr b vs))
    (hvs : (us.foldl (fun (p : List Value × Nat) u => (p.1.set p.2 u, p.2 + 1)) (vs, off)).1 = vs') (hL' : L.set i (vr b vs') = L') (hl : Nat.ble (off + us.length) vs.length = true) (hi : (P.info? t).map (·.size) = some us.length) (h1 : us.all (·.oneCell') = true)
    (k : G P n ops Q w0 (up o.dst undef T) L' rest) : G P n ops Q w0 T L (o :: rest) :=
  G.acts hc fun w S => by
    have hl' : off + us.length ≤ vs.length := Nat.le_of_ble_eq_true hl
    have ht : w.there b off us.toArray.size := fun j hj => by
      have hj' : off + j < vs.length := by simp at hj; omega
      exact ⟨by rw [S.cell i hL (off + j) (List.getElem?_eq_getElem hj')]; rfl, S.loose i hL (off + j) (List.getElem?_eq_getElem hj')⟩
    refine ⟨w.setCells b off us, L', ?_, ?_, k⟩
    · unfold execOp
      have hcells : (storeVar t ⟨b, off, none⟩ (ev T y)).run P w = (storeVar t ⟨b, off, none⟩ (.agg us.toArray)).run P w := by
        unfold storeVar
        rw [hy]
        rfl
      have hs := run_storeVar_mid (P := P) w b off t us.toArray ht (by simpa using hi) (by simpa using h1)
      simp only [hop, Sem.run_bind, Instr.storeAt, Instr.sureAddr, hx, Sem.run_pure, Result.andThen_ok, hcells, hs]
    · subst hvs hL'
      exact S.turn i hL (vr b _) (Only.setCells (show (vr b vs).foot b from rfl) us off w) (Var.setCells us vs off w (S.at_ i hL)) (fun k hk => .inl hk) (show w0.heap.size ≤ b from S.lo i (vr b vs) hL) (by rw [setCells_size]; have := S.hi i (vr b vs) hL; simpa [vr] using this)
def elemB (P : Program) (t e : TypeId) (size bytes : Nat) : Bool :=
  match P.underlying t, P.info? e with
  | some (.slice e'), some i => Nat.beq e' e && Nat.beq i.size size && Nat.beq i.bytes bytes && Nat.blt 0 size && (match i.zero with | some z => Nat.beq z.cells.size size | none => false)
  | _, _ => false
theorem elemB_spec {t e : TypeId} {size bytes : Nat} (h : elemB P t e size bytes = true) : P.underlying t = some (.slice e) ∧ 0 < size ∧ ∃ i z, P.info? e = some i ∧ i.zero = some z ∧ i.size = size ∧ i.bytes = bytes ∧ z.cells.size = size := by
  unfold elemB at h
  cases hu : P.underlying t with
  | none => rw [hu] at h; cases h
  | some d =>
    rw [hu] at h
    cases d with
    | slice e' =>
      cases hi : P.info? e with
      | none => rw [hi] at h; cases h
      | some i =>
        rw [hi] at h
        simp only [Bool.and_eq_true, Nat.beq_eq] at h
        obtain ⟨⟨⟨⟨h1, h2⟩, h3⟩, h4⟩, h5⟩ := h
        subst h1
        cases hz : i.zero with
        | none => rw [hz] at h5; cases h5
        | some z => rw [hz] at h5; exact ⟨rfl, Nat.le_of_ble_eq_true h4, i, z, rfl, hz, h2, h3, by simpa using h5⟩
    | _ => cases h
/-- A slice made of nothing. -/
theorem G.fresh {α : Type} (e : TypeId) (r : Rp α) (hc : chk n T ops o = true) (hr : ∀ w : World, (execOp (ev T) o).run P w = .ok (.value (.slice (some ⟨w.heap.size, 0, none⟩) 0 0)) (w.alloc (.cells #[] e)))
    (k : ∀ b hi, G P n ops Q w0 (up o.dst (.slice (some ⟨b, 0, none⟩) 0 0) T) (ow (rLst e r) b hi [] [.slice (some ⟨b, 0, none⟩) 0 0] [b] :: L) rest) : G P n ops Q w0 T L (o :: rest) :=
  G.turns hc fun w S => ⟨_, _, _, hr w, S.fresh e r, k _ _⟩
/-- .. and of something: a variable of its own. -/
theorem G.made (e : TypeId) (vs : List Value) (m : Nat) (hc : chk n T ops o = true) (hr : ∀ w : World, (execOp (ev T) o).run P w = .ok (.value (.slice (some ⟨w.heap.size, 0, none⟩) m m)) (w.alloc (.cells vs.toArray e)))
    (k : ∀ b, G P n ops Q w0 (up o.dst (.slice (some ⟨b, 0, none⟩) m m) T) (vr b vs :: L) rest) : G P n ops Q w0 T L (o :: rest) :=
  G.turns hc fun w S => ⟨_, _, _, hr w, S.alloc vs e, k _⟩
/-- An element of a slice: its address. -/
theorem run_elem {t e : TypeId} {size bytes : Nat} (he : elemB P t e size bytes = true) (b off m c k : Nat) (hk : k < m) (w : World) :
    (Instr.indexAt t (.slice (some ⟨b, off, none⟩) m c) (.int .i64 (k : Int))).run P w = .ok (.pointer (some ⟨b, off + k * size, none⟩)) w := by
  obtain ⟨ht, hsz, i, z, hi, hz, hsize, hby, hzs⟩ := elemB_spec he
  have hel : P.elem t = e := by simp [Program.elem, ht]
  rw [run_indexAt_slice w t _ m c .i64 k (by rw [hel]; exact ht), if_pos ⟨by omega, by omega⟩, hel]
  have hso : (sizeOf e).run P w = .ok size w := by simp [sizeOf, typeInfo, hi, hsize]
  rw [hso]
  simp [Addr.add_mid]
theorem G.elem (t e : TypeId) (x y : Operand) (size bytes b off m c k : Nat) (hop : o.op = .indexAddr t x y) (hc : chk n T ops o = true) (he : elemB P t e size bytes = true) (hx : ev T x = .slice (some ⟨b, off, none⟩) m c) (hy : ev T y = .int .i64 (k : Int)) (hk : k < m)
    (h : G P n ops Q w0 (up o.dst (.pointer (some ⟨b, off + k * size, none⟩)) T) L rest) : G P n ops Q w0 T L (o :: rest) :=
  G.pure _ hc (fun w => by
    unfold execOp
    simp only [hop, hx, hy, Sem.run_bind, run_elem he b off m c k hk w, Sem.run_pure, Result.andThen_ok]) h
/-- What lies somewhere is loaded. -/
theorem G.ldr (t : TypeId) (x : Operand) (b off : Nat) (cs : List Value) (hop : o.op = .load t x) (hc : chk n T ops o = true) (hx : ev T x = .pointer (some ⟨b, off, none⟩)) (hrd : ∀ w, St w0 w L → w.rangeAt b off cs) (hr : isRow P t = true) (hi : (P.info? t).map (·.size) = some cs.length)
    (k : G P n ops Q w0 (up o.dst (.agg cs.toArray) T) L rest) : G P n ops Q w0 T L (o :: rest) :=
  G.reads _ hc (fun w S => by
    obtain ⟨d, hu, hd⟩ := isRow_spec hr
    unfold execOp
    have h := run_loadAt_mid (P := P) w b off t cs d (hrd w S) hu hd hi
    simp only [hop, hx, Sem.run_bind, h, Sem.run_pure, Result.andThen_ok]) k
theorem run_cell {t : TypeId} {b off : Nat} {v : Value} {w : World} (hr : isCell P t = true) (hcell : w.cell? ⟨b, off, none⟩ = some v) : (Instr.loadAt t (.pointer (some ⟨b, off, none⟩))).run P w = .ok v w := by
  obtain ⟨d, hu, hd⟩ := isCell_spec hr
  have hagg : (isAgg t).run P w = .ok false w := by
    unfold isAgg
    rw [Sem.run_bind, run_underlying hu w]
    cases d <;> simp_all
  simp only [Instr.loadAt, Instr.sureAddr, loadVar, Sem.run_bind, Sem.run_pure, Result.andThen_ok, hagg, Bool.false_eq_true, if_false, run_load, hcell]
theorem G.ldr1 (t : TypeId) (x : Operand) (b off : Nat) (v : Value) (hop : o.op = .load t x) (hc : chk n T ops o = true) (hx : ev T x = .pointer (some ⟨b, off, none⟩)) (hrd : ∀ w, St w0 w L → w.cell? ⟨b, off, none⟩ = some v) (hr : isCell P t = true)
    (k : G P n ops Q w0 (up o.dst v T) L rest) : G P n ops Q w0 T L (o :: rest) :=
  G.reads v hc (fun w S => by
    unfold execOp
    simp only [hop, hx, Sem.run_bind, run_cell hr (hrd w S), Sem.run_pure, Result.andThen_ok]) k
/-- An element of a list that was there at the start. -/
theorem old_elem {α : Type} {r : Rp α} {w0 : World} {xs : List α} {A : Option Addr} {m c : Nat} (hs : 0 < r.sz) (h : rdLst r w0 0 w0.heap.size xs [.slice A m c]) (k : Nat) (hk : k < xs.length) :
    ∃ b off es, A = some ⟨b, off, none⟩ ∧ r.rd w0 0 w0.heap.size xs[k] es ∧ es.length = r.sz ∧ ∀ w L, St w0 w L → w.rangeAt b (off + k * r.sz) es := by
  obtain ⟨A', c', ds, e, hc, h1, h2⟩ := h
  cases e
  obtain ⟨b, off, es, rfl, hlo, hhi, h3, h4, h5⟩ := list_at hs h1 h2 k hk
  exact ⟨b, off, es, rfl, h3, h4, fun w L S j v hv => by rw [Nat.add_assoc]; exact (S.below.cell (p := ⟨b, off + (k * r.sz + j), none⟩) hhi).trans (h5 j v hv)⟩
theorem wrap_up (k : Nat) (h : k ≤ 9223372036854775806) : IntKind.i64.wrap ((k : Int) + 1) = ((k + 1 : Nat) : Int) := by rw [IntKind.wrap_i64]; omega
theorem C.seq {x y : Code} (h : C P n (Exit.then (fun a w => y.wp P Q a w) Q) w0 T L x) : C P n Q w0 T L (.seq x y) := fun a w hA S => wp_seq (h a w hA S)
theorem C.region {id : Nat} {l : List Oper} (h : G P n l.toArray Q w0 T L l) : C P n Q w0 T L (.region id l.toArray false) := fun a w hA S => wp_region_lit (h a w hA S)
theorem C.block {id : Nat} {c : Code} (h : C P n (Exit.inBlock id Q) w0 T L c) : C P n Q w0 T L (.block id c) := fun a w hA S => wp_block (h a w hA S)
theorem C.exit {id : Nat} (h : E n Q w0 T L (.exit id)) : C P n Q w0 T L (.exit id) := fun a w hA S => wp_exit (h a w hA S)
theorem C.ret (h : E n Q w0 T L .ret) : C P n Q w0 T L .ret := fun a w hA S => wp_ret (h a w hA S)
theorem C.skip (h : E n Q w0 T L .normal) : C P n Q w0 T L .skip := fun a w hA S => wp_skip (h a w hA S)
theorem C.yes {c : Operand} {x y : Code} (hk : known T c = true) (hc : ev T c = .bool true) (h : C P n Q w0 T L x) : C P n Q w0 T L (.cond c x y) := fun a w hA S => wp_cond_true ((hA.value hk).trans hc) (h a w hA S)
theorem C.no {c : Operand} {x y : Code} (hk : known T c = true) (hc : ev T c = .bool false) (h : C P n Q w0 T L y) : C P n Q w0 T L (.cond c x y) := fun a w hA S => wp_cond_false ((hA.value hk).trans hc) (h a w hA S)
theorem E.out {e : Exit} {a : Act} {w : World} (h : E n Q w0 T L e) (hA : Ag n T a) (S : St w0 w L) : Q e a w := h a w hA S
theorem E.next {c : Code} {P' : Program} {Q' : Exit → Act → World → Prop} (h : C P' n Q' w0 T L c) : E n (Exit.then (fun a w => c.wp P' Q' a w) Q) w0 T L .normal := h
theorem E.then_ret {N : Act → World → Prop} (h : E n Q w0 T L .ret) : E n (Exit.then N Q) w0 T L .ret := h
theorem E.then_exit {N : Act → World → Prop} {id : Nat} (h : E n Q w0 T L (.exit id)) : E n (Exit.then N Q) w0 T L (.exit id) := h
theorem E.block_ret {id : Nat} (h : E n Q w0 T L .ret) : E n (Exit.inBlock id Q) w0 T L .ret := h
theorem E.block_normal {id : Nat} (h : E n Q w0 T L .normal) : E n (Exit.inBlock id Q) w0 T L .normal := h
theorem E.block_hit {id : Nat} (h : E n Q w0 T L .normal) : E n (Exit.inBlock id Q) w0 T L (.exit id) := fun a w hA S => by
  show if id = id then Q .normal a w else Q (.exit id) a w
  rw [if_pos rfl]
  exact h a w hA S
noncomputable def leastOf (S : Nat → Prop) : Nat := Classical.epsilon fun m => S m ∧ ∀ k, S k → m ≤ k
theorem leastOf_spec {S : Nat → Prop} (h : ∃ m, S m) : S (leastOf S) ∧ ∀ k, S k → leastOf S ≤ k := by
  refine Classical.epsilon_spec (p := fun m => S m ∧ ∀ k, S k → m ≤ k) ?_
  obtain ⟨m, hm⟩ := h
  induction m using Nat.strongRecOn with
  | _ m ih =>
    by_cases h : ∃ k, k < m ∧ S k
    · obtain ⟨k, hk, hs⟩ := h
      exact ih k hk hs
    · exact ⟨m, hm, fun k hs => Nat.le_of_not_lt fun hk => h ⟨k, hk, hs⟩⟩
/-- What a round leaves behind. -/
def Again {α : Type} (n : Nat) (w0 : World) (p : α → Prop) (T : α → Tl) (L : α → List Res) (μ : α → Nat) (m : Nat) (a : Act) (w : World) : Prop := ∃ y, p y ∧ μ y < m ∧ Ag n (T y) a ∧ St w0 w (L y)
theorem C.loop {α : Type} {body : Code} (p : α → Prop) (T' : α → Tl) (L' : α → List Res) (μ : α → Nat) (x0 : α) (hp : p x0) (hT : ∀ a, Ag n T a → Ag n (T' x0) a) (hL : ∀ w, St w0 w L → St w0 w (L' x0))
    (round : ∀ x, p x → C P n (Exit.then (Again n w0 p T' L' μ (μ x)) Q) w0 (T' x) (L' x) body) : C P n Q w0 T L (.loop body) := fun a w hA S => by
  let I : Act → World → α → Prop := fun a w x => p x ∧ Ag n (T' x) a ∧ St w0 w (L' x)
  let M : Act → World → Nat := fun a w => leastOf fun m => ∃ x, I a w x ∧ μ x = m
  refine wp_loop (fun a w => ∃ x, I a w x) M ⟨x0, hp, hT a hA, hL w S⟩ fun a w ⟨x1, h1⟩ => ?_
  obtain ⟨⟨x, ⟨h2, h3, h4⟩, h5⟩, _⟩ := leastOf_spec (S := fun m => ∃ x, I a w x ∧ μ x = m) ⟨μ x1, x1, h1, rfl⟩
  refine wp_mono (round x h2 a w h3 h4) fun e a' w' hq => ?_
  cases e with
  | normal =>
    obtain ⟨y, hy1, hy2, hy3, hy4⟩ := hq
    refine ⟨⟨y, hy1, hy3, hy4⟩, ?_⟩
    have := (leastOf_spec (S := fun m => ∃ x, I a' w' x ∧ μ x = m) ⟨μ y, y, ⟨hy1, hy3, hy4⟩, rfl⟩).2 (μ y) ⟨y, ⟨hy1, hy3, hy4⟩, rfl⟩
    have hM : M a w = μ x := h5.symm
    show M a' w' < M a w
    rw [hM]
    exact Nat.lt_of_le_of_lt this hy2
  | _ => exact hq
theorem E.again {α : Type} {p : α → Prop} {T' : α → Tl} {L' : α → List Res} {μ : α → Nat} {m : Nat} (y : α) (hp : p y) (hμ : μ y < m) (hT : ∀ a, Ag n T a → Ag n (T' y) a) (hL : ∀ w, St w0 w L → St w0 w (L' y)) : E n (Exit.then (Again n w0 p T' L' μ m) Q) w0 T L .normal :=
  fun a w hA S => ⟨y, hp, hμ, hT a hA, hL w S⟩
/-- The function is left: its results. -/
theorem E.ret1 {fn : Func} {R : Ending → World → Prop} {t : Tmp} (v : Value) (hr : fn.results = #[.tmp t]) (ht : look T t = some v) (h : ∀ w, St w0 w L → R (.returned v) w) : E n (bodyPost P fn R) w0 T L .ret := fun a w hA S =>
  bodyPost_ret (v := v) (by rw [results_tmp hr, Array.getD_eq_getD_getElem?, hA.at_ t v ht]; rfl) hA.defers (h w S)
end
theorem St.tail {w0 w : World} {r : Res} {L : List Res} (S : St w0 w (r :: L)) : St w0 w L :=
  ⟨S.below, fun i s h => S.says (i + 1) s h, fun i s h => S.lo (i + 1) s h, fun i s h => S.hi (i + 1) s h, fun i j s t h1 h2 hne => S.apart (i + 1) (j + 1) s t h1 h2 (by omega)⟩
def GT (P : Program) (n : Nat) (ops : Array Oper) (Q : Exit → Act → World → Prop) (Z : World → Prop) (w0 : World) (T : Tl) (L : List Res) (t : Ord.Ot) : Prop := ∀ a w, Ag n T a → St w0 w L → Ord.wpOt P ops Q Z t a w
section
variable {P : Program} {n : Nat} {l : List Oper} {ops : Array Oper} {Q : Exit → Act → World → Prop} {w0 : World} {T : Tl} {L : List Res} {o : Oper} {Z : World → Prop} {t r : Ord.Ot}
theorem C.draw {id : Nat} {l : List Oper} (t : Ord.Ot) (Lz : List Res) (hZ : ∀ w, St w0 w L → St w0 w Lz) (hm : P.follows .mixedOrders = true) (hs : Region.noSelect l.toArray = true) (hB : Ord.ordT l.toArray l.toArray.size t (Array.replicate l.toArray.size false) = true)
    (h : GT P n l.toArray (NoPanic Q) (fun w => St w0 w Lz) w0 T L t) : C P n Q w0 T L (.region id l.toArray true) := fun a w hA S =>
  Ord.wp_region_tree (fun w => St w0 w Lz) t hm hs hB (hZ _ S.drew) (h a _ hA S.drew)
theorem GT.nil (k : E n Q w0 T L .normal) : GT P n ops (NoPanic Q) Z w0 T L .nil := fun a w hA S => Ord.ot_nil (k a w hA S)
theorem at_list {i : Nat} (h : l[i]? = some o) : l.toArray[i]? = some o := by simpa using h
theorem GT.pure (v : Value) (i : Nat) (ho : l[i]? = some o) (hc : chk n T l.toArray o = true) (hv : ∀ w, (execOp (ev T) o).run P w = .ok (.value v) w) (k : GT P n l.toArray Q Z w0 (up o.dst v T) L r) : GT P n l.toArray Q Z w0 T L (.take i r) := fun a w hA S => by
  have c := hA.takes hc
  exact Ord.ot_take (at_list ho) c.want (fun w' _ => by rw [c.exec]; exact hv w') (k _ _ (hA.put c.ok v) S)
theorem GT.pureq (v0 v : Value) (i : Nat) (ho : l[i]? = some o) (hc : chk n T l.toArray o = true) (hv : ∀ w, (execOp (ev T) o).run P w = .ok (.value v0) w) (he : v0 = v) (k : GT P n l.toArray Q Z w0 (up o.dst v T) L r) : GT P n l.toArray Q Z w0 T L (.take i r) := GT.pure v i ho hc (fun w => he ▸ hv w) k
theorem GT.reads (v : Value) (i : Nat) (ho : l[i]? = some o) (hc : chk n T l.toArray o = true) (hv : ∀ w, Z w → (execOp (ev T) o).run P w = .ok (.value v) w) (k : GT P n l.toArray Q Z w0 (up o.dst v T) L r) : GT P n l.toArray Q Z w0 T L (.take i r) := fun a w hA S => by
  have c := hA.takes hc
  exact Ord.ot_take (at_list ho) c.want (fun w' hZ => by rw [c.exec]; exact hv w' hZ) (k _ _ (hA.put c.ok v) S)
theorem GT.skip (i : Nat) (ho : l[i]? = some o) (hc : chkNo n T l.toArray o = true) (k : GT P n l.toArray Q Z w0 (up o.dst undef T) L r) : GT P n l.toArray Q Z w0 T L (.take i r) := fun a w hA S => by
  unfold chkNo at hc
  simp only [Bool.and_eq_true, Bool.not_eq_true'] at hc
  exact Ord.ot_skip (at_list ho) ((hA.want hc.1.1).trans hc.1.2) (k _ _ (hA.put hc.2 undef) S)
/-- A struct, or a part of one, of the claims that the region began with. -/
theorem GT.ld {L0 : List Res} (t : TypeId) (x : Operand) (b off j : Nat) (vs cs : List Value) (i : Nat) (ho : l[i]? = some o) (hop : o.op = .load t x) (hc : chk n T l.toArray o = true) (hx : ev T x = .pointer (some ⟨b, off, none⟩)) (hL : L0[j]? = some (vr b vs)) (hcs : (vs.drop off).take cs.length = cs)
    (hr : isRow P t = true) (hi : (P.info? t).map (·.size) = some cs.length) (k : GT P n l.toArray Q (fun w => St w0 w L0) w0 (up o.dst (.agg cs.toArray) T) L r) : GT P n l.toArray Q (fun w => St w0 w L0) w0 T L (.take i r) :=
  GT.reads _ i ho hc (fun w S => by
    obtain ⟨d, hu, hd⟩ := isRow_spec hr
    unfold execOp
    have h := run_loadAt_mid (P := P) w b off t cs d (fun j' v hv => S.cell j hL (off + j') (by
      rw [← hcs] at hv
      have hj : j' < cs.length := by have := (List.getElem?_eq_some_iff.1 hv).1; rw [List.length_take] at this; omega
      rwa [List.getElem?_take, if_pos hj, List.getElem?_drop] at hv)) hu hd hi
    simp only [hop, hx, Sem.run_bind, h, Sem.run_pure, Result.andThen_ok]) k
theorem GT.ld1 {L0 : List Res} (t : TypeId) (x : Operand) (b off j : Nat) (vs : List Value) (v : Value) (i : Nat) (ho : l[i]? = some o) (hop : o.op = .load t x) (hc : chk n T l.toArray o = true) (hx : ev T x = .pointer (some ⟨b, off, none⟩)) (hL : L0[j]? = some (vr b vs)) (hv : vs[off]? = some v)
    (hr : isCell P t = true) (k : GT P n l.toArray Q (fun w => St w0 w L0) w0 (up o.dst v T) L r) : GT P n l.toArray Q (fun w => St w0 w L0) w0 T L (.take i r) :=
  GT.reads v i ho hc (fun w S => by
    obtain ⟨d, hu, hd⟩ := isCell_spec hr
    unfold execOp
    have h : (Instr.loadAt t (.pointer (some ⟨b, off, none⟩))).run P w = .ok v w := by
      have hcell := S.cell j hL off hv
      have hagg : (isAgg t).run P w = .ok false w := by
        unfold isAgg
        rw [Sem.run_bind, run_underlying hu w]
        cases d <;> simp_all
      simp only [Instr.loadAt, Instr.sureAddr, loadVar, Sem.run_bind, Sem.run_pure, Result.andThen_ok, hagg, Bool.false_eq_true, if_false, run_load, hcell]
    simp only [hop, hx, Sem.run_bind, h, Sem.run_pure, Result.andThen_ok]) k
/-- What stands alone. -/
theorem ot_one {i : Nat} {a : Act} {w : World} {n : Nat} (ho : ops[i]? = some o) (hA : Ag n T a) (hc : chk n T ops o = true) (h : ∀ K' : Act → World → Prop, Shut (∀ a w, Z w → Ord.wpOt P ops Q Z r a w → K' a w) → o.upon P a K' Q ((execOp (ev T) o).run P w)) :
    ∀ K' : Act → World → Prop, Shut (∀ a w, Z w → Ord.wpOt P ops Q Z r a w → K' a w) → if Region.wanted o (yielded ops a.tmps) = true then Oper.wp P o a w K' Q else K' (a.put o.dst undef) w := fun K' hK => by
  have c := hA.takes hc
  rw [if_pos c.want]
  unfold Oper.wp
  rw [c.exec]
  exact h K' hK
def Alone (P : Program) (n : Nat) (ops : Array Oper) (Q : Exit → Act → World → Prop) (Z : World → Prop) (w0 : World) (T : Tl) (L : List Res) (i : Nat) (r : Ord.Ot) : Prop := ∀ a w, Ag n T a → St w0 w L → ∃ o, ops[i]? = some o ∧ ∀ K' : Act → World → Prop, Shut (∀ a w, Z w → Ord.wpOt P ops Q Z r a w → K' a w) → if Region.wanted o (yielded ops a.tmps) = true then Oper.wp P o a w K' Q else K' (a.put o.dst undef) w
theorem GT.alone {i : Nat} (h : Alone P n ops Q Z w0 T L i r) : GT P n ops Q Z w0 T L (.alone i r) := fun a w hA S => by
  obtain ⟨o, ho, h⟩ := h a w hA S
  exact Ord.ot_alone ho h
theorem GT.two {i j : Nat} {s : Ord.Ot} (h : Alone P n ops Q Z w0 T L i r) (h' : Alone P n ops Q Z w0 T L j s) : GT P n ops Q Z w0 T L (.two i r j s) := fun a w hA S => by
  obtain ⟨o, ho, h⟩ := h a w hA S
  obtain ⟨o', ho', h'⟩ := h' a w hA S
  exact Ord.ot_two ho ho' h h'
theorem Alone.call {i : Nat} (f : FuncId) (args : Array Value) (ho : l[i]? = some o) (hc : chk n T l.toArray o = true) (hf : ∀ w, (execOp (ev T) o).run P w = .ok (.enter f args) w)
    (h : ∀ w, St w0 w L → Calls P f args w fun e w' => ∃ v L', e = .returned v ∧ St w0 w' L' ∧ (∀ w, St w0 w L' → Z w) ∧ GT P n l.toArray Q Z w0 (up o.dst v T) L' r) : Alone P n l.toArray Q Z w0 T L i r := fun a w hA S =>
  ⟨o, at_list ho, ot_one (at_list ho) hA hc fun K' hK => by
    rw [hf w]
    refine (h w S).mono ?_
    rintro e w' ⟨v, L', rfl, h1, h2, h3⟩
    exact hK.out _ _ (h2 _ h1) (h3 _ _ (hA.put (hA.takes hc).ok v) h1)⟩
theorem Alone.plain {i : Nat} (f : FuncId) (args : Array Value) (v : Value) (ho : l[i]? = some o) (hc : chk n T l.toArray o = true) (hf : ∀ w, (execOp (ev T) o).run P w = .ok (.enter f args) w)
    (h : ∀ w, St w0 w L → Calls P f args w fun e w' => e = .returned v ∧ Below w.heap.size w w') (hz : ∀ w, St w0 w L → Z w) (k : GT P n l.toArray Q Z w0 (up o.dst v T) L r) : Alone P n l.toArray Q Z w0 T L i r :=
  Alone.call f args ho hc hf fun w S => (h w S).mono fun e w' ⟨he, hb⟩ => ⟨v, L, he, S.call hb, hz, k⟩
theorem Alone.skip {i : Nat} (ho : l[i]? = some o) (hc : chkNo n T l.toArray o = true) (hz : ∀ w, St w0 w L → Z w) (k : GT P n l.toArray Q Z w0 (up o.dst undef T) L r) : Alone P n l.toArray Q Z w0 T L i r := fun a w hA S => by
  unfold chkNo at hc
  simp only [Bool.and_eq_true, Bool.not_eq_true'] at hc
  exact ⟨o, at_list ho, fun K' hK => by
    rw [if_neg (by rw [hA.want hc.1.1, hc.1.2]; decide)]
    exact hK.out _ _ (hz w S) (k _ _ (hA.put hc.2 undef) S)⟩
theorem Alone.turns {i : Nat} (ho : l[i]? = some o) (hc : chk n T l.toArray o = true) (hv : ∀ w, St w0 w L → ∃ v w' L', (execOp (ev T) o).run P w = .ok (.value v) w' ∧ St w0 w' L' ∧ (∀ w, St w0 w L' → Z w) ∧ GT P n l.toArray Q Z w0 (up o.dst v T) L' r) : Alone P n l.toArray Q Z w0 T L i r := fun a w hA S =>
  ⟨o, at_list ho, ot_one (at_list ho) hA hc fun K' hK => by
    obtain ⟨v, w', L', h1, h2, h3, h4⟩ := hv w S
    rw [h1]
    exact hK.out _ _ (h3 _ h2) (h4 _ _ (hA.put (hA.takes hc).ok v) h2)⟩
theorem Alone.acts {i : Nat} (ho : l[i]? = some o) (hc : chk n T l.toArray o = true) (hv : ∀ w, St w0 w L → ∃ w' L', (execOp (ev T) o).run P w = .ok .skip w' ∧ St w0 w' L' ∧ (∀ w, St w0 w L' → Z w) ∧ GT P n l.toArray Q Z w0 (up o.dst undef T) L' r) : Alone P n l.toArray Q Z w0 T L i r := fun a w hA S =>
  ⟨o, at_list ho, ot_one (at_list ho) hA hc fun K' hK => by
    obtain ⟨w', L', h1, h2, h3, h4⟩ := hv w S
    rw [h1]
    exact hK.out _ _ (h3 _ h2) (h4 _ _ (hA.put (hA.takes hc).ok undef) h2)⟩
theorem Alone.reads {i : Nat} (v : Value) (ho : l[i]? = some o) (hc : chk n T l.toArray o = true) (hv : ∀ w, St w0 w L → (execOp (ev T) o).run P w = .ok (.value v) w) (hz : ∀ w, St w0 w L → Z w) (k : GT P n l.toArray Q Z w0 (up o.dst v T) L r) : Alone P n l.toArray Q Z w0 T L i r :=
  Alone.turns ho hc fun w S => ⟨v, w, L, hv w S, S, hz, k⟩
theorem Alone.ld {i : Nat} (t : TypeId) (x : Operand) (b off j : Nat) (vs cs : List Value) (ho : l[i]? = some o) (hop : o.op = .load t x) (hc : chk n T l.toArray o = true) (hx : ev T x = .pointer (some ⟨b, off, none⟩)) (hL : L[j]? = some (vr b vs)) (hcs : (vs.drop off).take cs.length = cs)
    (hr : isRow P t = true) (hi : (P.info? t).map (·.size) = some cs.length) (hz : ∀ w, St w0 w L → Z w) (k : GT P n l.toArray Q Z w0 (up o.dst (.agg cs.toArray) T) L r) : Alone P n l.toArray Q Z w0 T L i r :=
  Alone.reads _ ho hc (fun w S => by
    obtain ⟨d, hu, hd⟩ := isRow_spec hr
    unfold execOp
    have h := run_loadAt_mid (P := P) w b off t cs d (fun j' v hv => S.cell j hL (off + j') (by
      rw [← hcs] at hv
      have hj : j' < cs.length := by have := (List.getElem?_eq_some_iff.1 hv).1; rw [List.length_take] at this; omega
      rwa [List.getElem?_take, if_pos hj, List.getElem?_drop] at hv)) hu hd hi
    simp only [hop, hx, Sem.run_bind, h, Sem.run_pure, Result.andThen_ok]) hz k
theorem Alone.ld1 {i : Nat} (t : TypeId) (x : Operand) (b off j : Nat) (vs : List Value) (v : Value) (ho : l[i]? = some o) (hop : o.op = .load t x) (hc : chk n T l.toArray o = true) (hx : ev T x = .pointer (some ⟨b, off, none⟩)) (hL : L[j]? = some (vr b vs)) (hv : vs[off]? = some v)
    (hr : isCell P t = true) (hz : ∀ w, St w0 w L → Z w) (k : GT P n l.toArray Q Z w0 (up o.dst v T) L r) : Alone P n l.toArray Q Z w0 T L i r :=
  Alone.reads v ho hc (fun w S => by
    unfold execOp
    simp only [hop, hx, Sem.run_bind, run_cell hr (S.cell j hL off hv), Sem.run_pure, Result.andThen_ok]) hz k
theorem Alone.alloc {i : Nat} (t : TypeId) (z : Value) (vs : List Value) (ho : l[i]? = some o) (hop : o.op = .alloc t) (hc : chk n T l.toArray o = true) (hz : ∀ w, (zeroValue t).run P w = .ok z w) (hx : z.cells = vs.toArray) (hZ : ∀ w, St w0 w L → Z w)
    (k : ∀ b, GT P n l.toArray Q Z w0 (up o.dst (.pointer (some ⟨b, 0, none⟩)) T) (vr b vs :: L) r) : Alone P n l.toArray Q Z w0 T L i r :=
  Alone.turns ho hc fun w S => ⟨_, _, _, by
    unfold execOp
    simp only [hop, Sem.run_bind, Instr.alloc, newVar, newRow, hz, run_newObj_alloc, Sem.run_pure, Result.andThen_ok, hx], S.alloc vs t, fun w S => hZ w (St.tail S), k _⟩
theorem Alone.sto {i : Nat} (t : TypeId) (x y : Operand) (b off j : Nat) (vs us vs' : List Value) (L' : List Res) (ho : l[i]? = some o) (hop : o.op = .store t x y) (hc : chk n T l.toArray o = true) (hx : ev T x = .pointer (some ⟨b, off, none⟩)) (hy : (ev T y).cells = us.toArray) (hL : L[j]? = some (vr b vs))
    (hvs : (us.foldl (fun (p : List Value × Nat) u => (p.1.set p.2 u, p.2 + 1)) (vs, off)).1 = vs') (hL' : L.set j (vr b vs') = L') (hl : Nat.ble (off + us.length) vs.length = true) (hi : (P.info? t).map (·.size) = some us.length) (h1 : us.all (·.oneCell') = true)
    (hZ : ∀ w, St w0 w L' → Z w) (k : GT P n l.toArray Q Z w0 (up o.dst undef T) L' r) : Alone P n l.toArray Q Z w0 T L i r :=
  Alone.acts ho hc fun w S => by
    have hl' : off + us.length ≤ vs.length := Nat.le_of_ble_eq_true hl
    have ht : w.there b off us.toArray.size := fun j' hj => by
      have hj' : off + j' < vs.length := by simp at hj; omega
      exact ⟨by rw [S.cell j hL (off + j') (List.getElem?_eq_getElem hj')]; rfl, S.loose j hL (off + j') (List.getElem?_eq_getElem hj')⟩
    refine ⟨w.setCells b off us, L', ?_, ?_, hZ, k⟩
    · unfold execOp
      have hcells : (storeVar t ⟨b, off, none⟩ (ev T y)).run P w = (storeVar t ⟨b, off, none⟩ (.agg us.toArray)).run P w := by
        unfold storeVar
        rw [hy]
        rfl
      have hs := run_storeVar_mid (P := P) w b off t us.toArray ht (by simpa using hi) (by simpa using h1)
      simp only [hop, Sem.run_bind, Instr.storeAt, Instr.sureAddr, hx, Sem.run_pure, Result.andThen_ok, hcells, hs]
    · subst hvs hL'
      exact S.turn j hL (vr b _) (Only.setCells (show (vr b vs).foot b from rfl) us off w) (Var.setCells us vs off w (S.at_ j hL)) (fun k hk => .inl hk) (show w0.heap.size ≤ b from S.lo j (vr b vs) hL) (by rw [setCells_size]; have := S.hi j (vr b vs) hL; simpa [vr] using this)
theorem Alone.made {i : Nat} (e : TypeId) (vs : List Value) (m : Nat) (ho : l[i]? = some o) (hc : chk n T l.toArray o = true) (hr : ∀ w : World, (execOp (ev T) o).run P w = .ok (.value (.slice (some ⟨w.heap.size, 0, none⟩) m m)) (w.alloc (.cells vs.toArray e))) (hZ : ∀ w, St w0 w L → Z w)
    (k : ∀ b, GT P n l.toArray Q Z w0 (up o.dst (.slice (some ⟨b, 0, none⟩) m m) T) (vr b vs :: L) r) : Alone P n l.toArray Q Z w0 T L i r :=
  Alone.turns ho hc fun w S => ⟨_, _, _, hr w, S.alloc vs e, fun w S => hZ w (St.tail S), k _⟩
theorem Ag.none {n : Nat} {T : Tl} {a : Act} (h : Ag n T a) : Ag n [] a := ⟨h.size, h.defers, fun s v hs => by cases hs⟩
theorem Ag.and {n : Nat} {T T' : Tl} {a : Act} (h : Ag n T a) (h' : Ag n T' a) (s : Nat) (v : Value) (hv : look T s = some v) : Ag n ((s, v) :: T') a :=
  ⟨h.size, h.defers, fun q u hq => by
    simp only [look] at hq
    by_cases e : s = q
    · subst e
      rw [Nat.beq_refl, cond_true] at hq
      cases hq
      exact h.at_ s v hv
    · have hb : Nat.beq s q = false := by rw [← Bool.not_eq_true, Nat.beq_eq]; exact e
      rw [hb, cond_false] at hq
      exact h'.at_ q u hq⟩
theorem E.retc {fn : Func} {R : Ending → World → Prop} {t : Tmp} {ty : TypeId} (b i : Nat) (vs : List Value) (hr : fn.results = #[.cell t ty]) (ht : look T t = some (.pointer (some ⟨b, 0, none⟩))) (hL : L[i]? = some (vr b vs)) (hrow : isRow P ty = true) (hi : (P.info? ty).map (·.size) = some vs.length)
    (h : ∀ w, St w0 w L → R (.returned (.agg vs.toArray)) w) : E n (bodyPost P fn R) w0 T L .ret := fun a w hA S => by
  obtain ⟨d, hu, hd⟩ := isRow_spec hrow
  have hl := run_loadVar_mid (P := P) w b 0 ty vs d (S.range i hL) hu hd hi
  have hg : a.tmps[t]?.getD undef = .pointer (some ⟨b, 0, none⟩) := by rw [hA.at_ t _ ht]; rfl
  exact bodyPost_ret (v := .agg vs.toArray) (by simp [results, hr, hg, asAddr, hl]) hA.defers (h w S)
end
/-- The arguments lie in the first slots. -/
def slots : Nat → List Value → Tl
  | _, [] => []
  | k, v :: r => (k, v) :: slots (k + 1) r
theorem look_slots : ∀ (l : List Value) (k s : Nat) (v : Value), look (slots k l) s = some v → k ≤ s ∧ l[s - k]? = some v
  | [], k, s, v, h => by cases h
  | u :: l, k, s, v, h => by
    simp only [slots, look] at h
    by_cases e : k = s
    · subst e
      rw [Nat.beq_refl, cond_true] at h
      cases h
      exact ⟨Nat.le_refl _, by simp⟩
    · have hb : Nat.beq k s = false := by rw [← Bool.not_eq_true, Nat.beq_eq]; exact e
      rw [hb, cond_false] at h
      obtain ⟨h1, h2⟩ := look_slots l (k + 1) s v h
      refine ⟨by omega, ?_⟩
      rw [show s - k = (s - (k + 1)) + 1 by omega, List.getElem?_cons_succ]
      exact h2
theorem enter {P : Program} {f : FuncId} {fn : Func} {c : Code} {args : List Value} {w : World} {R : Ending → World → Prop} {n : Nat} (hf : P.funcs[f]? = some fn) (hb : fn.body = some c) (hn : fn.ntmps = n) (hl : Nat.ble args.length n = true)
    (h : C P n (bodyPost P fn R) w (slots 0 args) [] c) : Calls P f args.toArray w R :=
  calls_of_wp hf hb (h _ w ⟨by
    have := Nat.le_of_ble_eq_true hl
    simp [hn]; omega, rfl, fun s v hs => by
    obtain ⟨_, h2⟩ := look_slots args 0 s v hs
    have hlt : s < args.length := by have := (List.getElem?_eq_some_iff.1 h2).1; simpa using this
    rw [Array.getElem?_append_left (by simpa using hlt)]
    simpa using h2⟩ (St.start w))
end Go.Proofs.Ytldgadmpclgfhaa.Sx
namespace Go.Proofs.Ytldgadmpclgfhaa.Sx
set_option maxRecDepth 100000
open Go.ChangeShapes Go.WideShapes Go.ChangeAt Go.RowKit Go.Deep
open Go.Proofs.Ytldgadmpclgfhaa.Base Go.Proofs.Ytldgadmpclgfhaa.Mem Go.Proofs.Ytldgadmpclgfhaa.Data Go.Proofs.Ytldgadmpclgfhaa.Stt
set_option linter.unusedVariables false
set_option linter.unusedSimpArgs false
def resRun (tmps : Array Value) : ResultVar → Sem Value
  | .tmp t => pure (tmps.getD t undef)
  | .cell a t => do loadVar t (← asAddr (tmps.getD a undef))
def IsRes (P : Program) (n : Nat) (w0 : World) (T : Tl) (L : List Res) (r : ResultVar) (v : Value) : Prop := ∀ a w, Ag n T a → St w0 w L → (resRun a.tmps r).run P w = .ok v w
section
variable {P : Program} {n : Nat} {Q : Exit → Act → World → Prop} {w0 : World} {T : Tl} {L : List Res} {fn : Func} {R : Ending → World → Prop}
theorem IsRes.slot {t : Tmp} {v : Value} (ht : look T t = some v) : IsRes P n w0 T L (.tmp t) v := fun a w hA S => by
  simp only [resRun, Sem.run_pure]
  rw [Array.getD_eq_getD_getElem?, hA.at_ t v ht]; rfl
theorem IsRes.row {t : Tmp} {ty : TypeId} (b i : Nat) (vs : List Value) (ht : look T t = some (.pointer (some ⟨b, 0, none⟩))) (hL : L[i]? = some (vr b vs)) (hrow : isRow P ty = true) (hi : (P.info? ty).map (·.size) = some vs.length) : IsRes P n w0 T L (.cell t ty) (.agg vs.toArray) := fun a w hA S => by
  obtain ⟨d, hu, hd⟩ := isRow_spec hrow
  have hl := run_loadVar_mid (P := P) w b 0 ty vs d (S.range i hL) hu hd hi
  have hg : a.tmps.getD t undef = .pointer (some ⟨b, 0, none⟩) := by rw [Array.getD_eq_getD_getElem?, hA.at_ t _ ht]; rfl
  simp only [resRun, hg, asAddr, Sem.run_bind, Sem.run_pure, Result.andThen_ok, hl]
theorem IsRes.one {t : Tmp} {ty : TypeId} (b i : Nat) (v : Value) (ht : look T t = some (.pointer (some ⟨b, 0, none⟩))) (hL : L[i]? = some (vr b [v])) (hr : isCell P ty = true) : IsRes P n w0 T L (.cell t ty) v := fun a w hA S => by
  obtain ⟨d, hu, hd⟩ := isCell_spec hr
  have hcell := S.cell i hL 0 (v := v) rfl
  have hagg : (isAgg ty).run P w = .ok false w := by
    unfold isAgg
    rw [Sem.run_bind, run_underlying hu w]
    cases d <;> simp_all
  have hg : a.tmps.getD t undef = .pointer (some ⟨b, 0, none⟩) := by rw [Array.getD_eq_getD_getElem?, hA.at_ t _ ht]; rfl
  simp only [resRun, hg, asAddr, loadVar, Sem.run_bind, Sem.run_pure, Result.andThen_ok, hagg, Bool.false_eq_true, if_false, run_load, hcell]
end
end Go.Proofs.Ytldgadmpclgfhaa.Sx
namespace Go.Proofs.Ytldgadmpclgfhaa.Draw
set_option maxRecDepth 100000
open Go.ChangeShapes Go.WideShapes Go.ChangeAt Go.RowKit
open Go.Proofs.Ytldgadmpclgfhaa.Base
/-- The bytes of a slice lie in memory. -/
def CodeAt (w : World) (A : Option Addr) (n : Nat) : Prop :=
  ∀ k, k < n → ∃ (b off : Nat) (x : Int), A = some ⟨b, off, none⟩ ∧ b < w.heap.size ∧ 0 ≤ x ∧ x ≤ 255 ∧ w.cell? ⟨b, off + k, none⟩ = some (.int .u8 x)
theorem CodeAt.below {w w' : World} {A : Option Addr} {n : Nat} (h : CodeAt w A n) (hb : Below w.heap.size w w') : CodeAt w' A n := fun k hk => by
  obtain ⟨b, off, x, e, h1, h2, h3, h4⟩ := h k hk
  exact ⟨b, off, x, e, Nat.lt_of_lt_of_le h1 hb.size, h2, h3, (hb.cell h1).trans h4⟩
end Go.Proofs.Ytldgadmpclgfhaa.Draw
namespace Go.Proofs.Ytldgadmpclgfhaa.Sx
set_option maxRecDepth 100000
open Go.ChangeShapes Go.WideShapes Go.ChangeAt Go.RowKit Go.Deep
open Go.Proofs.Ytldgadmpclgfhaa.Base Go.Proofs.Ytldgadmpclgfhaa.Mem Go.Proofs.Ytldgadmpclgfhaa.Data Go.Proofs.Ytldgadmpclgfhaa.Stt Go.Proofs.Ytldgadmpclgfhaa.Draw
set_option linter.unusedVariables false
/-- All other blocks that were there when the call began. -/
def frm (w0 w : World) (g : Nat) : Res where
  says w' := ∀ k, w0.heap.size ≤ k → k < w.heap.size → k ≠ g → w'.heap[k]? = w.heap[k]?
  foot k := w0.heap.size ≤ k ∧ k < w.heap.size ∧ k ≠ g
  lo := w0.heap.size
  hi := w.heap.size
  inn k h := ⟨h.1, h.2.1⟩
  kept h hk := fun k h1 h2 h3 => (hk k ⟨h1, h2, h3⟩).trans (h k h1 h2 h3)
section
variable {w0 w w' : World} {L : List Res} {A : Option Addr} {n c g : Nat} {r : Res}
/-- What the whole call has left alone. -/
theorem St.grown (S : St w0 w' L) (i : Nat) (h : L[i]? = some (frm w0 w g)) (hb : Below w0.heap.size w0 w) : w.grownBy w' (some g) :=
  ⟨S.below.os.trans hb.os.symm, S.below.tape.trans hb.tape.symm, S.below.output.trans hb.output.symm, S.hi i _ h, fun k hk hne => by
    by_cases h0 : k < w0.heap.size
    · exact (S.below.block k h0).trans (hb.block k h0).symm
    · exact S.at_ i h k (by omega) hk (fun e => hne (by rw [e]))⟩
/-- What a draw has made. -/
structure Fresh (w0 w w' : World) (M : List Res) : Prop where
  says : ∀ (i : Nat) (r : Res), M[i]? = some r → r.says w'
  lo : ∀ (i : Nat) (r : Res), M[i]? = some r → w0.heap.size ≤ r.lo
  hi : ∀ (i : Nat) (r : Res), M[i]? = some r → r.hi ≤ w'.heap.size
  new : ∀ (i : Nat) (r : Res), M[i]? = some r → ∀ k, r.foot k → w.heap.size ≤ k
  apart : ∀ (i j : Nat) (r s : Res), M[i]? = some r → M[j]? = some s → i ≠ j → ∀ k, r.foot k → ¬ s.foot k
/-- A block as it was made. -/
def bk (b : Nat) (cs : List Value) (t : TypeId) : Res where
  says w := w.heap[b]? = some (.cells cs.toArray t (0, 0))
  foot k := k = b
  lo := b
  hi := b + 1
  inn k h := by omega
  kept h hk := (hk b rfl).trans h
theorem G.block {P : Program} {n : Nat} {ops : Array Oper} {Q : Exit → Act → World → Prop} {T : Tl} {rest : List Oper} {o : Oper} (e : TypeId) (vs : List Value) (m : Nat) (hc : chk n T ops o = true) (hr : ∀ w : World, (execOp (ev T) o).run P w = .ok (.value (.slice (some ⟨w.heap.size, 0, none⟩) m m)) (w.alloc (.cells vs.toArray e)))
    (k : ∀ b, G P n ops Q w0 (up o.dst (.slice (some ⟨b, 0, none⟩) m m) T) (bk b vs e :: L) rest) : G P n ops Q w0 T L (o :: rest) :=
  G.turns hc fun w S => ⟨_, _, _, hr w, S.add ((Below.refl _ _).alloc (Nat.le_refl _) _) (bk w.heap.size vs e) (heap_alloc_new w _) (Nat.le_refl _) (by simp [bk]), k _⟩
end
end Go.Proofs.Ytldgadmpclgfhaa.Sx
namespace Go.Proofs.Ytldgadmpclgfhaa.Sx
set_option maxRecDepth 100000
open Go.ChangeShapes Go.WideShapes Go.ChangeAt Go.RowKit Go.Deep
open Go.Proofs.Ytldgadmpclgfhaa.Base Go.Proofs.Ytldgadmpclgfhaa.Mem Go.Proofs.Ytldgadmpclgfhaa.Data Go.Proofs.Ytldgadmpclgfhaa.Stt
set_option linter.unusedVariables false
section
variable {P : Program} {n : Nat} {w0 : World} {T : Tl} {L : List Res} {fn : Func} {R : Ending → World → Prop}
end
section
variable {P : Program} {n : Nat} {Q : Exit → Act → World → Prop} {Z : World → Prop} {w0 : World} {T : Tl} {L : List Res} {l : List Oper} {o : Oper} {r : Ord.Ot}
theorem Alone.box {i : Nat} (t : TypeId) (x : Operand) (vs : List Value) (ho : l[i]? = some o) (hop : o.op = .box t x) (hc : chk n T l.toArray o = true) (hx : (ev T x).cells = vs.toArray) (hZ : ∀ w, St w0 w L → Z w)
    (k : ∀ b, GT P n l.toArray Q Z w0 (up o.dst (.pointer (some ⟨b, 0, none⟩)) T) (vr b vs :: L) r) : Alone P n l.toArray Q Z w0 T L i r :=
  Alone.turns ho hc fun w S => ⟨_, _, _, by
    unfold execOp
    simp only [hop, Sem.run_bind, Instr.box, newVar, newRow, run_newObj_alloc, Sem.run_pure, Result.andThen_ok, hx], S.alloc vs t, fun w S => hZ w (St.tail S), k _⟩
end
end Go.Proofs.Ytldgadmpclgfhaa.Sx
namespace Go.Proofs.Ytldgadmpclgfhaa.Sx
set_option maxRecDepth 100000
open Go.ChangeShapes Go.WideShapes Go.ChangeAt Go.RowKit Go.Deep
open Go.Proofs.Ytldgadmpclgfhaa.Base Go.Proofs.Ytldgadmpclgfhaa.Mem Go.Proofs.Ytldgadmpclgfhaa.Data Go.Proofs.Ytldgadmpclgfhaa.Stt Go.Proofs.Ytldgadmpclgfhaa.Draw
set_option linter.unusedVariables false
section
variable {α : Type} {r : Rp α} {w0 w w' : World} {L : List Res} {x : α} {cs : List Value} {lo hi : Nat}
/-- What the claims say is known. -/
theorem C.know {P : Program} {n : Nat} {Q : Exit → Act → World → Prop} {T : Tl} {c : Code} {p : Prop} (h : ∀ w, St w0 w L → p) (k : p → C P n Q w0 T L c) : C P n Q w0 T L c := fun a w hA S => k (h w S) a w hA S
end
end Go.Proofs.Ytldgadmpclgfhaa.Sx
namespace Go.Proofs.Ytldgadmpclgfhaa.Sx
set_option maxRecDepth 100000
open Go.ChangeShapes Go.WideShapes Go.ChangeAt Go.RowKit Go.Deep
open Go.Proofs.Ytldgadmpclgfhaa.Base Go.Proofs.Ytldgadmpclgfhaa.Mem Go.Proofs.Ytldgadmpclgfhaa.Data Go.Proofs.Ytldgadmpclgfhaa.Stt
set_option linter.unusedVariables false
set_option linter.unusedSimpArgs false
set_option linter.unnecessarySimpa false
section
variable {α : Type} {r : Rp α} {w0 w w' : World} {L T : List Res} {lo hi : Nat}
theorem ownAll_split : ∀ {xs : List α} {ds : List Value} {F : List Nat} (i : Nat) (h : i < xs.length), ownAll r w lo hi xs ds F → ∃ d1 es d2 F1 Fi F2, ds = d1 ++ (es ++ d2) ∧ F = F1 ++ (Fi ++ F2) ∧ ownAll r w lo hi (xs.take i) d1 F1 ∧ r.own w lo hi xs[i] es Fi ∧ ownAll r w lo hi (xs.drop (i + 1)) d2 F2
  | x :: xs, ds, F, 0, _, h => by
    obtain ⟨c1, c2, G1, G2, rfl, rfl, h1, h2⟩ := h
    exact ⟨[], c1, c2, [], G1, G2, rfl, rfl, ⟨rfl, rfl⟩, h1, h2⟩
  | x :: xs, ds, F, i + 1, hi', h => by
    obtain ⟨c1, c2, G1, G2, rfl, rfl, h1, h2⟩ := h
    obtain ⟨d1, es, d2, F1, Fi, F2, rfl, rfl, k1, k2, k3⟩ := ownAll_split i (by simpa using hi') h2
    exact ⟨c1 ++ d1, es, d2, G1 ++ F1, Fi, F2, by simp, by simp, ⟨c1, d1, G1, F1, rfl, rfl, h1, k1⟩, k2, k3⟩
/-- All of a list but one element; the element's own cells are told. -/
def hole (r : Rp α) (b off lo hi : Nat) (pre post : List α) (es : List Value) (F1 F2 : List Nat) : Res where
  says w := (b :: (F1 ++ F2)).Nodup ∧ (lo ≤ b ∧ b < hi) ∧ ∃ d1 d2, ownAll r w lo hi pre d1 F1 ∧ ownAll r w lo hi post d2 F2 ∧ es.length = r.sz ∧ Owned w lo hi (some ⟨b, off, none⟩) (d1 ++ (es ++ d2))
  foot k := k ∈ b :: (F1 ++ F2) ∧ lo ≤ k ∧ k < hi
  lo := lo
  hi := hi
  inn k h := h.2
  kept h hk := by
    obtain ⟨hn, hb, d1, d2, h1, h2, h3, h4⟩ := h
    refine ⟨hn, hb, d1, d2, ownAll_kept h1 fun k hk' => hk k ⟨by simp [hk'], ownAll_inF h1 k hk'⟩, ownAll_kept h2 fun k hk' => hk k ⟨by simp [hk'], ownAll_inF h2 k hk'⟩, h3, owned_agree h4 fun k hk' => ?_⟩
    have e : k = b := by
      unfold blks at hk'
      split at hk'
      · cases hk'
      · simpa using hk'
    subst e
    exact hk k ⟨by simp, hb⟩
theorem own_nodup4 {b : Nat} {F1 Fi F2 : List Nat} (h : (b :: (F1 ++ (Fi ++ F2))).Nodup) : (b :: (F1 ++ F2)).Nodup ∧ Fi.Nodup ∧ ∀ k ∈ Fi, k ∉ b :: (F1 ++ F2) := by
  simp only [List.nodup_cons, List.nodup_append, List.mem_append, List.mem_cons, not_or] at h ⊢
  obtain ⟨⟨a1, a2, a3⟩, n1, ⟨ni, n2, d2⟩, d1⟩ := h
  refine ⟨⟨⟨a1, a3⟩, n1, n2, fun x hx y hy => d1 x hx y (.inr hy)⟩, ni, fun k hk => ⟨fun e => a2 (e ▸ hk), fun hk1 => d1 k hk1 k (.inl hk) rfl, fun hk2 => d2 k hk k hk2 rfl⟩⟩
theorem own_nodup4' {b : Nat} {F1 Fi F2 : List Nat} (h : (b :: (F1 ++ F2)).Nodup) (hi : Fi.Nodup) (hd : ∀ k ∈ Fi, k ∉ b :: (F1 ++ F2)) : (b :: (F1 ++ (Fi ++ F2))).Nodup := by
  simp only [List.nodup_cons, List.nodup_append, List.mem_append, List.mem_cons, not_or] at h hd ⊢
  obtain ⟨⟨a1, a3⟩, n1, n2, d⟩ := h
  exact ⟨⟨a1, fun hk => (hd b hk).1 rfl, a3⟩, n1, ⟨hi, n2, fun x hx y hy e => (hd x hx).2.2 (e ▸ hy)⟩, fun x hx y hy e => hy.elim (fun q => (hd y q).2.1 (e ▸ hx)) (fun q => d x hx y q e)⟩
/-- A list is opened at an element. -/
theorem St.open_ {xs : List α} {A : Option Addr} {n c : Nat} {F : List Nat} (S : St w0 w (ow (rLsw r) lo hi xs [.slice A n c] F :: T)) (hs : 0 < r.sz) (i : Nat) (hi' : i < xs.length) :
    ∃ b off es F1 Fi F2, A = some ⟨b, off, none⟩ ∧ n = xs.length ∧ xs.length ≤ c ∧ F = b :: (F1 ++ (Fi ++ F2)) ∧ es.length = r.sz ∧ St w0 w (hole r b off lo hi (xs.take i) (xs.drop (i + 1)) es F1 F2 :: ow r lo hi xs[i] es Fi :: T) := by
  obtain ⟨⟨A', c', ds, G, e, hc, rfl, hall, hown⟩, hnd⟩ := S.at_ 0 rfl
  cases e
  obtain ⟨d1, es, d2, F1, Fi, F2, rfl, rfl, k1, k2, k3⟩ := ownAll_split i hi' hall
  have hes : es.length = r.sz := r.len (r.reads k2)
  have hne : d1 ++ (es ++ d2) ≠ [] := fun e => by simp at e; rw [e.2.1] at hes; simp at hes; omega
  obtain ⟨b, off, rfl, x, y, _⟩ := hown.1.at_ (List.length_pos_iff.2 hne)
  have hb : blks (some ⟨b, off, none⟩) (d1 ++ (es ++ d2)) = [b] := by unfold blks; rw [if_neg hne]; rfl
  rw [hb] at hnd
  have hnd' : (b :: (F1 ++ (Fi ++ F2))).Nodup := hnd
  obtain ⟨n1, n2, n3⟩ := own_nodup4 hnd'
  refine ⟨b, off, es, F1, Fi, F2, rfl, rfl, hc, by rw [hb]; rfl, hes, ?_⟩
  have hlo := S.lo 0 _ rfl
  have hhi := S.hi 0 _ rfl
  refine S.parts [hole r b off lo hi (xs.take i) (xs.drop (i + 1)) es F1 F2, ow r lo hi xs[i] es Fi] ?_ ?_
  · intro s hs'
    simp only [List.mem_cons, List.not_mem_nil, or_false] at hs'
    rcases hs' with rfl | rfl
    · refine ⟨⟨n1, ⟨x, y⟩, d1, d2, k1, k3, hes, hown⟩, fun k hk => ⟨?_, hk.2⟩, hlo, hhi⟩
      rw [hb]
      have := hk.1
      simp only [List.mem_cons, List.mem_append] at this ⊢
      rcases this with h | h | h
      · exact .inl (.inl h)
      · exact .inr (.inl h)
      · exact .inr (.inr (.inr h))
    · exact ⟨⟨k2, n2⟩, fun k hk => ⟨by simp [hk.1], hk.2⟩, hlo, hhi⟩
  · simp only [List.pairwise_cons, List.mem_cons, List.not_mem_nil, or_false, forall_eq, List.Pairwise.nil, and_true, false_implies, implies_true]
    exact fun k hk hk' => n3 k hk'.1 hk.1
/-- Claims become one. -/
theorem St.merge {rs : List Res} (S : St w0 w (rs ++ T)) (r' : Res) (hs : r'.says w) (hf : ∀ k, r'.foot k → ∃ s ∈ rs, s.foot k) (hlo : w0.heap.size ≤ r'.lo) (hhi : r'.hi ≤ w.heap.size) : St w0 w (r' :: T) := by
  have key : ∀ (j : Nat) (s : Res), T[j]? = some s → (rs ++ T)[rs.length + j]? = some s := fun j s h => by rw [List.getElem?_append_right (by omega)]; simpa using h
  have mem : ∀ s ∈ rs, ∃ i, i < rs.length ∧ (rs ++ T)[i]? = some s := fun s h => by
    obtain ⟨i, hi, e⟩ := List.getElem_of_mem h
    exact ⟨i, hi, by rw [List.getElem?_append_left hi, List.getElem?_eq_getElem hi, e]⟩
  refine ⟨S.below, fun j s hj => ?_, fun j s hj => ?_, fun j s hj => ?_, fun j j' s t hj hj' hne k hk hk' => ?_⟩
  · cases j with
    | zero => cases hj; exact hs
    | succ j => exact S.says _ s (key j s hj)
  · cases j with
    | zero => cases hj; exact hlo
    | succ j => exact S.lo _ s (key j s hj)
  · cases j with
    | zero => cases hj; exact hhi
    | succ j => exact S.hi _ s (key j s hj)
  · cases j with
    | zero =>
      cases hj
      cases j' with
      | zero => exact hne rfl
      | succ j' =>
        obtain ⟨u, hu, hfu⟩ := hf k hk
        obtain ⟨i, hi, e⟩ := mem u hu
        exact S.apart i _ u t e (key j' t hj') (by omega) k hfu hk'
    | succ j =>
      cases j' with
      | zero =>
        cases hj'
        obtain ⟨u, hu, hfu⟩ := hf k hk'
        obtain ⟨i, hi, e⟩ := mem u hu
        exact S.apart _ i s u (key j s hj) e (by omega) k hk hfu
      | succ j' => exact S.apart _ _ s t (key j s hj) (key j' t hj') (by omega) k hk hk'
theorem St.back {q : Res} {i : Nat} (S : St w0 w (q :: L.eraseIdx i)) (hi : i < L.length) : St w0 w (L.set i q) := by
  have key : ∀ (j : Nat) (s : Res), (L.set i q)[j]? = some s → ∃ j', (j' = if j = i then 0 else if j < i then j + 1 else j) ∧ (q :: L.eraseIdx i)[j']? = some s := fun j s hj => by
    by_cases e : j = i
    · subst e
      rw [List.getElem?_set_self hi] at hj
      exact ⟨0, by rw [if_pos rfl], hj⟩
    · rw [List.getElem?_set_ne (fun x => e x.symm)] at hj
      by_cases h : j < i
      · exact ⟨j + 1, by rw [if_neg e, if_pos h], by rw [List.getElem?_cons_succ, List.getElem?_eraseIdx, if_pos h]; exact hj⟩
      · refine ⟨j, by rw [if_neg e, if_neg h], ?_⟩
        obtain ⟨m, rfl⟩ : ∃ m, j = m + 1 := ⟨j - 1, by omega⟩
        rw [List.getElem?_cons_succ, List.getElem?_eraseIdx, if_neg (by omega)]; exact hj
  refine ⟨S.below, fun j s hj => ?_, fun j s hj => ?_, fun j s hj => ?_, fun j j' s t hj hj' hne k hk hk' => ?_⟩
  · obtain ⟨m, _, e⟩ := key j s hj; exact S.says m s e
  · obtain ⟨m, _, e⟩ := key j s hj; exact S.lo m s e
  · obtain ⟨m, _, e⟩ := key j s hj; exact S.hi m s e
  · obtain ⟨m, em, e⟩ := key j s hj
    obtain ⟨m', em', e'⟩ := key j' t hj'
    refine S.apart m m' s t e e' (fun x => hne ?_) k hk hk'
    rw [em, em'] at x
    split at x <;> split at x <;> (try split at x) <;> (try split at x) <;> omega
theorem St.openAt {pre post : List α} {x : α} {A : Option Addr} {n c : Nat} {F : List Nat} (S : St w0 w (ow (rLsw r) lo hi (pre ++ x :: post) [.slice A n c] F :: T)) (hs : 0 < r.sz) :
    ∃ b off es F1 Fi F2, A = some ⟨b, off, none⟩ ∧ F = b :: (F1 ++ (Fi ++ F2)) ∧ es.length = r.sz ∧ n = (pre ++ x :: post).length ∧ n ≤ c ∧ St w0 w (hole r b off lo hi pre post es F1 F2 :: ow r lo hi x es Fi :: T) := by
  obtain ⟨b, off, es, F1, Fi, F2, h1, h2, h3, h4, h5, h6⟩ := St.open_ S hs pre.length (by simp)
  refine ⟨b, off, es, F1, Fi, F2, h1, h4, h5, h2, by omega, ?_⟩
  have e1 : (pre ++ x :: post).take pre.length = pre := by simp
  have e2 : (pre ++ x :: post).drop (pre.length + 1) = post := by clear S h1 h2 h3 h4 h5 h6; induction pre with
    | nil => rfl
    | cons a l ih => simpa using ih
  have e3 : ∀ h, (pre ++ x :: post)[pre.length]'h = x := fun h => by rw [List.getElem_append_right (Nat.le_refl _)]; simp
  rwa [e1, e2, e3] at h6
theorem St.close {b off : Nat} {pre post : List α} {x : α} {es : List Value} {F1 F2 Fi : List Nat} (S : St w0 w (hole r b off lo hi pre post es F1 F2 :: ow r lo hi x es Fi :: T)) (hs : 0 < r.sz) (n c : Nat) (hn : (pre ++ x :: post).length = n) (hc : n ≤ c) :
    St w0 w (ow (rLsw r) lo hi (pre ++ x :: post) [.slice (some ⟨b, off, none⟩) n c] (b :: (F1 ++ (Fi ++ F2))) :: T) := by
  obtain ⟨n1, ⟨x1, y1⟩, d1, d2, h1, h2, h3, h4⟩ := S.at_ 0 rfl
  obtain ⟨k1, k2⟩ := S.at_ 1 rfl
  subst hn
  have hne : d1 ++ (es ++ d2) ≠ [] := fun e => by simp at e; rw [e.2.1] at h3; simp at h3; omega
  have hb : blks (some ⟨b, off, none⟩) (d1 ++ (es ++ d2)) = [b] := by unfold blks; rw [if_neg hne]; rfl
  have hd : ∀ k ∈ Fi, k ∉ b :: (F1 ++ F2) := fun k hk hk' => S.apart 0 1 _ _ rfl rfl (by decide) k ⟨hk', by
    rcases List.mem_cons.1 hk' with rfl | hk'
    · exact ⟨x1, y1⟩
    · exact (List.mem_append.1 hk').elim (ownAll_inF h1 k) (ownAll_inF h2 k)⟩ ⟨hk, r.inF k1 k hk⟩
  have hall : ownAll r w lo hi (pre ++ x :: post) (d1 ++ (es ++ d2)) (F1 ++ (Fi ++ F2)) := ownAll_append h1 ⟨es, d2, Fi, F2, rfl, rfl, k1, h2⟩
  refine St.merge (rs := [_, _]) S (ow (rLsw r) lo hi _ _ _) ⟨⟨_, c, _, _, rfl, hc, by rw [hb]; rfl, hall, h4⟩, own_nodup4' n1 k2 hd⟩ (fun k hk => ?_) (show w0.heap.size ≤ lo from S.lo 0 _ rfl) (show hi ≤ w.heap.size from S.hi 0 _ rfl)
  have := hk.1
  simp only [List.mem_cons, List.mem_append] at this
  rcases this with h | h | h | h
  · exact ⟨_, List.mem_cons_self, by simp [h], hk.2⟩
  · exact ⟨_, List.mem_cons_self, by simp [h], hk.2⟩
  · exact ⟨_, List.mem_cons_of_mem _ List.mem_cons_self, h, hk.2⟩
  · exact ⟨_, List.mem_cons_self, by simp [h], hk.2⟩
/-- A claim's bounds are taken wider. -/
theorem St.widen {x : α} {cs : List Value} {F : List Nat} (S : St w0 w L) (i : Nat) (h : L[i]? = some (ow r lo hi x cs F)) {hi' : Nat} (hh : hi ≤ hi') (hw : hi' ≤ w.heap.size) : St w0 w (L.set i (ow r w0.heap.size hi' x cs F)) :=
  S.turn i h (ow r w0.heap.size hi' x cs F) (Only.refl _ _) ⟨r.owide (S.at_ i h).1 (S.lo i _ h) hh, (S.at_ i h).2⟩ (fun k hk => .inl ⟨hk.1, r.inF (S.at_ i h).1 k hk.1⟩) (Nat.le_refl _) hw
theorem St.holeWiden {b off : Nat} {pre post : List α} {es : List Value} {F1 F2 : List Nat} (S : St w0 w L) (i : Nat) (h : L[i]? = some (hole r b off lo hi pre post es F1 F2)) {hi' : Nat} (hh : hi ≤ hi') (hw : hi' ≤ w.heap.size) : St w0 w (L.set i (hole r b off w0.heap.size hi' pre post es F1 F2)) := by
  obtain ⟨n1, hb, d1, d2, h1, h2, h3, h4⟩ := S.at_ i h
  have hlo : w0.heap.size ≤ lo := S.lo i _ h
  refine S.turn i h (hole r b off w0.heap.size hi' pre post es F1 F2) (Only.refl _ _) ⟨n1, ⟨by omega, by omega⟩, d1, d2, ownAll_wide hlo hh h1, ownAll_wide hlo hh h2, h3, h4.wide hlo hh⟩ (fun k hk => .inl ⟨hk.1, ?_⟩) (Nat.le_refl _) hw
  rcases List.mem_cons.1 hk.1 with rfl | hk'
  · exact hb
  · exact (List.mem_append.1 hk').elim (ownAll_inF h1 k) (ownAll_inF h2 k)
/-- A flat value's claim, whatever the value. -/
theorem St.flat {x : α} {cs : List Value} (S : St w0 w L) (i : Nat) (h : L[i]? = some (ow r lo hi x cs [])) (y : α) (es : List Value) (hy : ∀ w, r.own w lo hi y es []) : St w0 w (L.set i (ow r lo hi y es [])) :=
  S.turn i h (ow r lo hi y es []) (Only.refl _ _) ⟨hy w, List.nodup_nil⟩ (fun k hk => absurd hk.1 (by simp)) (S.lo i (ow r lo hi x cs []) h) (S.hi i (ow r lo hi x cs []) h)
/-- .. shut, whatever the bounds. -/
theorem St.closeW {b off lo2 hi2 : Nat} {pre post : List α} {x : α} {es : List Value} {F1 F2 Fi : List Nat} (S : St w0 w (hole r b off lo hi pre post es F1 F2 :: ow r lo2 hi2 x es Fi :: T)) (hs : 0 < r.sz) (n c : Nat) (hn : (pre ++ x :: post).length = n) (hc : n ≤ c) :
    St w0 w (ow (rLsw r) w0.heap.size (max hi hi2) (pre ++ x :: post) [.slice (some ⟨b, off, none⟩) n c] (b :: (F1 ++ (Fi ++ F2))) :: T) := by
  have h1 : max hi hi2 ≤ w.heap.size := Nat.max_le.2 ⟨S.hi 0 _ rfl, S.hi 1 _ rfl⟩
  exact St.close (St.widen (St.holeWiden S 0 rfl (Nat.le_max_left hi hi2) h1) 1 rfl (Nat.le_max_right hi hi2) h1) hs n c hn hc
section
variable {b off k size : Nat} {pre post : List α} {es : List Value} {F1 F2 : List Nat}
theorem hole_cell (h : (hole r b off lo hi pre post es F1 F2).says w) (hk : pre.length = k) (hz : r.sz = size) (j : Nat) {v : Value} (hv : es[j]? = some v) : w.cell? ⟨b, off + k * size + j, none⟩ = some v ∧ w.frozen? ⟨b, off + k * size + j, none⟩ = false := by
  obtain ⟨_, _, d1, d2, h1, h2, h3, h4⟩ := h
  have hl : d1.length = k * size := by rw [rdAll_len (ownAll_reads h1), hk, hz]
  have hj := (List.getElem?_eq_some_iff.1 hv).1
  have hg : (d1 ++ (es ++ d2))[k * size + j]? = some v := by
    rw [List.getElem?_append_right (by omega), hl, Nat.add_sub_cancel_left, List.getElem?_append_left hj]; exact hv
  obtain ⟨b', off', e, _, _, hc⟩ := h4.1 _ v hg
  cases e
  refine ⟨by rw [Nat.add_assoc]; exact hc, h4.2 b off rfl (by have := (List.getElem?_eq_some_iff.1 hg).1; omega) _⟩
theorem foldl_set_len (us : List Value) : ∀ (vs : List Value) (o : Nat), (us.foldl (fun (p : List Value × Nat) u => (p.1.set p.2 u, p.2 + 1)) (vs, o)).1.length = vs.length := by
  induction us with
  | nil => intro vs o; rfl
  | cons u us ih => intro vs o; rw [List.foldl_cons, ih, List.length_set]
theorem owned_sets {b off lo hi : Nat} : ∀ (us ds : List Value) (o : Nat) (w : World), Owned w lo hi (some ⟨b, off, none⟩) ds → Owned (w.setCells b (off + o) us) lo hi (some ⟨b, off, none⟩) (us.foldl (fun (p : List Value × Nat) u => (p.1.set p.2 u, p.2 + 1)) (ds, o)).1
  | [], ds, o, w, h => h
  | u :: us, ds, o, w, h => by
    rw [World.setCells, List.foldl_cons]
    exact owned_sets us (ds.set o u) (o + 1) _ (h.set o u)
theorem foldl_mid : ∀ (us d1 es d2 : List Value) (o : Nat), o + us.length ≤ es.length → (us.foldl (fun (p : List Value × Nat) u => (p.1.set p.2 u, p.2 + 1)) (d1 ++ (es ++ d2), d1.length + o)).1 = d1 ++ ((us.foldl (fun (p : List Value × Nat) u => (p.1.set p.2 u, p.2 + 1)) (es, o)).1 ++ d2)
  | [], d1, es, d2, o, h => rfl
  | u :: us, d1, es, d2, o, h => by
    have h' : o + us.length + 1 ≤ es.length := by simpa [Nat.add_assoc] using h
    rw [List.foldl_cons, List.foldl_cons]
    simp only
    have e : (d1 ++ (es ++ d2)).set (d1.length + o) u = d1 ++ (es.set o u ++ d2) := by
      rw [List.set_append, if_neg (by omega), Nat.add_sub_cancel_left, List.set_append, if_pos (by omega)]
    rw [e, show d1.length + o + 1 = d1.length + (o + 1) by omega]
    exact foldl_mid us d1 (es.set o u) d2 (o + 1) (by rw [List.length_set]; omega)
/-- A store into the open element. -/
theorem St.holeSets (S : St w0 w L) (i : Nat) (h : L[i]? = some (hole r b off lo hi pre post es F1 F2)) (hk : pre.length = k) (hz : r.sz = size) (j : Nat) (us es' : List Value) (hes : (us.foldl (fun (p : List Value × Nat) u => (p.1.set p.2 u, p.2 + 1)) (es, j)).1 = es') (hl : j + us.length ≤ es.length) :
    St w0 (w.setCells b (off + k * size + j) us) (L.set i (hole r b off lo hi pre post es' F1 F2)) := by
  obtain ⟨n1, hb, d1, d2, h1, h2, h3, h4⟩ := S.at_ i h
  subst hes
  have hl1 : d1.length = k * size := by rw [rdAll_len (ownAll_reads h1), hk, hz]
  have hO : Only (hole r b off lo hi pre post es F1 F2).foot w (w.setCells b (off + k * size + j) us) := Only.setCells (show (hole r b off lo hi pre post es F1 F2).foot b from ⟨by simp, hb⟩) us _ w
  have hF : ∀ (G : List Nat), (∀ q ∈ G, q ≠ b) → (∀ q ∈ G, q < w.heap.size) → ∀ q ∈ G, (w.setCells b (off + k * size + j) us).heap[q]? = w.heap[q]? := fun G hG hG' q hq => (Only.setCells (f := fun x => x = b) rfl us _ w).block q (hG' q hq) (hG q hq)
  have hsz : ∀ q, lo ≤ q ∧ q < hi → q < w.heap.size := fun q hq => Nat.lt_of_lt_of_le hq.2 (S.hi i _ h)
  have nb : ∀ q ∈ F1 ++ F2, q ≠ b := fun q hq e => (List.nodup_cons.1 n1).1 (e ▸ hq)
  refine S.turn i h (hole r b off lo hi pre post _ F1 F2) hO ⟨n1, hb, d1, d2, ownAll_kept h1 (hF F1 (fun q hq => nb q (by simp [hq])) fun q hq => hsz q (ownAll_inF h1 q hq)), ownAll_kept h2 (hF F2 (fun q hq => nb q (by simp [hq])) fun q hq => hsz q (ownAll_inF h2 q hq)), by rw [foldl_set_len]; exact h3, ?_⟩ (fun q hq => .inl hq) (S.lo i (hole r b off lo hi pre post es F1 F2) h) (by rw [setCells_size]; exact S.hi i (hole r b off lo hi pre post es F1 F2) h)
  have := owned_sets us (d1 ++ (es ++ d2)) (k * size + j) w h4
  rw [show k * size + j = d1.length + j by omega, foldl_mid us d1 es d2 j hl] at this
  rwa [show off + k * size + j = off + (d1.length + j) by omega]
end
end
section
variable {α : Type} {r : Rp α} {P : Program} {n : Nat} {ops : Array Oper} {Q : Exit → Act → World → Prop} {w0 : World} {T : Tl} {L : List Res} {rest : List Oper} {o : Oper}
variable {off lo hi k size : Nat} {pre post : List α} {es : List Value} {F1 F2 : List Nat}
/-- A store into the open element. -/
theorem G.hsto (t : TypeId) (x y : Operand) (b p j i : Nat) (us es' : List Value) (L' : List Res) (hop : o.op = .store t x y) (hc : chk n T ops o = true) (hx : ev T x = .pointer (some ⟨b, p, none⟩)) (hy : (ev T y).cells = us.toArray) (hL : L[i]? = some (hole r b off lo hi pre post es F1 F2)) (hk : pre.length = k) (hz : r.sz = size) (hp : p = off + k * size + j)
    (hes : (us.foldl (fun (p : List Value × Nat) u => (p.1.set p.2 u, p.2 + 1)) (es, j)).1 = es') (hL' : L.set i (hole r b off lo hi pre post es' F1 F2) = L') (hl : Nat.ble (j + us.length) es.length = true) (hi' : (P.info? t).map (·.size) = some us.length) (h1 : us.all (·.oneCell') = true)
    (kk : G P n ops Q w0 (up o.dst undef T) L' rest) : G P n ops Q w0 T L (o :: rest) :=
  G.acts hc fun w S => by
    have hl' : j + us.length ≤ es.length := Nat.le_of_ble_eq_true hl
    have ht : w.there b p us.toArray.size := fun q hq => by
      have hq' : j + q < es.length := by simp at hq; omega
      have := hole_cell (S.at_ i hL) hk hz (j + q) (List.getElem?_eq_getElem hq')
      rw [← Nat.add_assoc, ← hp] at this
      exact ⟨by rw [this.1]; rfl, this.2⟩
    refine ⟨w.setCells b p us, L', ?_, ?_, kk⟩
    · unfold execOp
      have hcells : (storeVar t ⟨b, p, none⟩ (ev T y)).run P w = (storeVar t ⟨b, p, none⟩ (.agg us.toArray)).run P w := by
        unfold storeVar
        rw [hy]
        rfl
      have hs := run_storeVar_mid (P := P) w b p t us.toArray ht (by simpa using hi') (by simpa using h1)
      simp only [hop, Sem.run_bind, Instr.storeAt, Instr.sureAddr, hx, Sem.run_pure, Result.andThen_ok, hcells, hs]
    · subst hL' hp
      exact St.holeSets S i hL hk hz j us es' hes hl'
/-- The claims are taken otherwise. -/
theorem C.turn {ι : Type} {Q : Exit → Act → World → Prop} {c : Code} {p : ι → Prop} (L' : ι → List Res) (h : ∀ w, St w0 w L → ∃ x, p x ∧ St w0 w (L' x)) (kk : ∀ x, p x → C P n Q w0 T (L' x) c) : C P n Q w0 T L c := fun a w hA S => by
  obtain ⟨x, hp, S'⟩ := h w S
  exact kk x hp a w hA S'
/-- A list is opened at an element. -/
theorem C.open {Q : Exit → Act → World → Prop} {code : Code} {lo hi : Nat} {xs : List α} {x : α} {A : Option Addr} {m c : Nat} {F : List Nat} (hxs : xs = pre ++ x :: post) (hs : 0 < r.sz)
    (kk : ∀ b off es F1 Fi F2, A = some ⟨b, off, none⟩ → F = b :: (F1 ++ (Fi ++ F2)) → es.length = r.sz → m = xs.length → m ≤ c → C P n Q w0 T (hole r b off lo hi pre post es F1 F2 :: ow r lo hi x es Fi :: L) code) : C P n Q w0 T (ow (rLsw r) lo hi xs [.slice A m c] F :: L) code := fun a w hA S => by
  subst hxs
  obtain ⟨b, off, es, F1, Fi, F2, h1, h2, h3, h4, h5, S'⟩ := St.openAt S hs
  exact kk b off es F1 Fi F2 h1 h2 h3 h4 h5 a w hA S'
/-- A list is made. -/
theorem own_replicate {z : α} {zs : List Value} {w : World} {lo hi : Nat} (hz : r.own w lo hi z zs []) : ∀ m : Nat, ownAll r w lo hi (List.replicate m z) (List.replicate m zs).flatten []
  | 0 => ⟨rfl, rfl⟩
  | m + 1 => ⟨zs, _, [], [], rfl, rfl, hz, own_replicate hz m⟩
theorem made_flat {zs : List Value} (hz : 0 < zs.length) (m : Nat) : (madeCells zs.toArray (m * zs.length)).toList = (List.replicate m zs).flatten := by
  induction m with
  | zero => simp [madeCells]
  | succ m ih =>
    rw [List.replicate_succ, List.flatten_cons, ← ih]
    apply List.ext_getElem?
    intro j
    simp only [madeCells, Array.toList_map, Array.toList_range, List.getElem?_map]
    by_cases hj : j < zs.length
    · rw [List.getElem?_append_left hj, List.getElem?_range (by rw [Nat.add_mul]; omega)]
      simp [Nat.mod_eq_of_lt hj, hj]
    · rw [List.getElem?_append_right (by omega), List.getElem?_map]
      by_cases hm : j < (m + 1) * zs.length
      · rw [Nat.add_mul, Nat.one_mul] at hm
        rw [List.getElem?_range (by rw [Nat.add_mul, Nat.one_mul]; omega), List.getElem?_range (by omega)]
        have : j % zs.length = (j - zs.length) % zs.length := by rw [← Nat.mod_eq_sub_mod (by omega)]
        simp [this]
      · rw [Nat.add_mul, Nat.one_mul] at hm
        rw [List.getElem?_eq_none (by simp [Nat.add_mul]; omega), List.getElem?_eq_none (by simp; omega)]
theorem G.mks (z : α) (zs : List Value) (t e : TypeId) (x y : Operand) (size bytes m : Nat) (hop : o.op = .makeSlice t x y) (hc : chk n T ops o = true) (he : elemB P t e size bytes = true) (hi : (P.info? e).map (·.zero.map (·.cells)) = some (some zs.toArray)) (hr : r.sz = size) (hzl : zs.length = size) (hz : ∀ w lo hi, r.own w lo hi z zs [])
    (hx : ev T x = .int .i64 (m : Int)) (hy : ev T y = .int .i64 (m : Int)) (hm : m ≤ maxLen) (hb : bytes * m ≤ 281474976710656)
    (kk : ∀ b hi F, G P n ops Q w0 (up o.dst (.slice (some ⟨b, 0, none⟩) m m) T) (ow (rLsw r) b hi (List.replicate m z) [.slice (some ⟨b, 0, none⟩) m m] F :: L) rest) : G P n ops Q w0 T L (o :: rest) :=
  G.turns hc fun w S => by
    obtain ⟨ht, hsz, i, zz, hi', hz', hsize, hby, hzs⟩ := elemB_spec he
    have hzz : zz.cells = zs.toArray := by rw [hi', Option.map_some, hz'] at hi; simpa using hi
    obtain ⟨wm, hrun, hown, hg⟩ := run_make_full (P := P) w w.heap.size t e i zz size ht hi' hz' hsize .i64 .i64 m (by rw [hby]; exact hb) hm (Nat.le_refl _)
    have hbl : Below w.heap.size w wm := (Below.refl _ _).grown hg (Nat.le_refl _) (fun j hj => by cases hj)
    rw [hzz, ← hzl, made_flat (by omega)] at hown
    have hO : Owned wm w.heap.size wm.heap.size (some ⟨w.heap.size, 0, none⟩) (List.replicate m zs).flatten := (Owned.of_row hown).wide (Nat.le_refl _) (Nat.le_refl _)
    have hnd : (blks (some ⟨w.heap.size, 0, none⟩) (List.replicate m zs).flatten).Nodup := by unfold blks; split <;> simp
    refine ⟨_, wm, _, ?_, S.add hbl (ow (rLsw r) w.heap.size wm.heap.size (List.replicate m z) [.slice (some ⟨w.heap.size, 0, none⟩) m m] (blks (some ⟨w.heap.size, 0, none⟩) (List.replicate m zs).flatten ++ [])) ⟨⟨_, m, _, [], by rw [List.length_replicate], by rw [List.length_replicate]; exact Nat.le_refl _, rfl, own_replicate (hz _ _ _) m, hO⟩, by rw [List.append_nil]; exact hnd⟩ (Nat.le_refl _) (Nat.le_refl _), kk _ _ _⟩
    unfold execOp
    simp only [hop, hx, hy, Sem.run_bind, hrun, Sem.run_pure, Result.andThen_ok]
end
section
variable {P : Program} {n : Nat} {Q : Exit → Act → World → Prop} {w0 : World} {T : Tl} {Z : World → Prop} {L Lz : List Res} {l : List Oper} {o : Oper} {r : Ord.Ot}
theorem GT.elem (t e : TypeId) (x y : Operand) (size bytes b off m c k : Nat) (i : Nat) (ho : l[i]? = some o) (hop : o.op = .indexAddr t x y) (hc : chk n T l.toArray o = true) (he : elemB P t e size bytes = true) (hx : ev T x = .slice (some ⟨b, off, none⟩) m c) (hy : ev T y = .int .i64 (k : Int)) (hk : k < m)
    (h : GT P n l.toArray Q Z w0 (up o.dst (.pointer (some ⟨b, off + k * size, none⟩)) T) L r) : GT P n l.toArray Q Z w0 T L (.take i r) :=
  GT.pure _ i ho hc (fun w => by
    unfold execOp
    simp only [hop, hx, hy, Sem.run_bind, run_elem he b off m c k hk w, Sem.run_pure, Result.andThen_ok]) h
theorem GT.ldr (t : TypeId) (x : Operand) (b off : Nat) (cs : List Value) (i : Nat) (ho : l[i]? = some o) (hop : o.op = .load t x) (hc : chk n T l.toArray o = true) (hx : ev T x = .pointer (some ⟨b, off, none⟩)) (hrd : ∀ w, St w0 w Lz → w.rangeAt b off cs) (hr : isRow P t = true) (hi : (P.info? t).map (·.size) = some cs.length)
    (k : GT P n l.toArray Q (fun w => St w0 w Lz) w0 (up o.dst (.agg cs.toArray) T) L r) : GT P n l.toArray Q (fun w => St w0 w Lz) w0 T L (.take i r) :=
  GT.reads _ i ho hc (fun w S => by
    obtain ⟨d, hu, hd⟩ := isRow_spec hr
    unfold execOp
    have h := run_loadAt_mid (P := P) w b off t cs d (hrd w S) hu hd hi
    simp only [hop, hx, Sem.run_bind, h, Sem.run_pure, Result.andThen_ok]) k
theorem GT.ldr1 (t : TypeId) (x : Operand) (b off : Nat) (v : Value) (i : Nat) (ho : l[i]? = some o) (hop : o.op = .load t x) (hc : chk n T l.toArray o = true) (hx : ev T x = .pointer (some ⟨b, off, none⟩)) (hrd : ∀ w, St w0 w Lz → w.cell? ⟨b, off, none⟩ = some v) (hr : isCell P t = true)
    (k : GT P n l.toArray Q (fun w => St w0 w Lz) w0 (up o.dst v T) L r) : GT P n l.toArray Q (fun w => St w0 w Lz) w0 T L (.take i r) :=
  GT.reads _ i ho hc (fun w S => by
    unfold execOp
    simp only [hop, hx, Sem.run_bind, run_cell hr (hrd w S), Sem.run_pure, Result.andThen_ok]) k
end
end Go.Proofs.Ytldgadmpclgfhaa.Sx
namespace Go.Proofs.Ytldgadmpclgfhaa.Kit
set_option maxRecDepth 100000
open Go.ChangeShapes Go.WideShapes Go.ChangeAt Go.RowKit Go.Deep
open Go.Proofs.Ytldgadmpclgfhaa.Base Go.Proofs.Ytldgadmpclgfhaa.Mem Go.Proofs.Ytldgadmpclgfhaa.Data Go.Proofs.Ytldgadmpclgfhaa.Stt
set_option linter.unusedVariables false
set_option linter.unusedSimpArgs false
set_option linter.unnecessarySimpa false
/-- What a helper that takes a size leaves: what is left, or -1. -/
def Sz (left : Int) (s : Nat) (l : Int) : Prop := ((s : Int) ≤ left ∧ l = left - s) ∨ (left < (s : Int) ∧ l = -1)
section
variable {α : Type} (r : Rp α)
theorem size_append : ∀ (xs ys : List α), sizeAll r (xs ++ ys) = sizeAll r xs + sizeAll r ys
  | [], ys => by simp [sizeAll]
  | x :: xs, ys => by rw [List.cons_append, sizeAll, sizeAll, size_append, Nat.add_assoc]
variable {r} {xs : List α} {i : Nat}
theorem take_step (h : i < xs.length) : xs.take (i + 1) = xs.take i ++ [xs[i]] := List.take_succ_eq_append_getElem h
theorem size_step (h : i < xs.length) : sizeAll r (xs.take (i + 1)) = sizeAll r (xs.take i) + r.size xs[i] := by rw [take_step h, size_append]; simp [sizeAll]
theorem size_le (i : Nat) : sizeAll r (xs.take i) ≤ sizeAll r xs := by
  have := size_append r (xs.take i) (xs.drop i)
  rw [List.take_append_drop] at this
  omega
end
section
variable {α : Type} {r : Rp α}
theorem size_mem : ∀ {xs : List α} {x : α}, x ∈ xs → r.size x ≤ sizeAll r xs
  | y :: xs, x, h => by
    rw [sizeAll]
    rcases List.mem_cons.1 h with rfl | h
    · omega
    · have := size_mem h; omega
theorem cntz {c : Nat} (h : ∀ x, r.cnt x ≤ 16 * r.size x + c) (hc : c ≤ 16) : ∀ xs : List α, cntAll r xs ≤ 16 * (xs.length + sizeAll r xs)
  | [] => by simp [cntAll]
  | x :: xs => by
    have h1 := h x
    have h2 := cntz h hc xs
    rw [cntAll, sizeAll, List.length_cons]
    omega
theorem capz (h : ∀ x, r.size x ≤ 1048576 → r.cap x) {xs : List α} (hs : xs.length + sizeAll r xs ≤ 1048576) : (rLsw r).cap xs := ⟨by omega, fun x hx => h x (by have := size_mem (r := r) hx; omega)⟩
end
end Go.Proofs.Ytldgadmpclgfhaa.Kit
namespace Go.Proofs.Ytldgadmpclgfhaa.Kit
set_option maxRecDepth 100000
open Go.ChangeShapes Go.WideShapes Go.ChangeAt Go.RowKit Go.Deep
open Go.Proofs.Ytldgadmpclgfhaa.Base Go.Proofs.Ytldgadmpclgfhaa.Mem Go.Proofs.Ytldgadmpclgfhaa.Data Go.Proofs.Ytldgadmpclgfhaa.Stt
set_option linter.unusedVariables false
set_option linter.unusedSimpArgs false
theorem open_nil {α : Type} {r : Rp α} {w : World} {lo hi : Nat} {es : List Value} {F : List Nat} (h : (rLsw r).own w lo hi [] es F) : ∃ A c, es = [.slice A 0 c] := by
  obtain ⟨A, c, ds, F1, e, -⟩ := h
  exact ⟨A, c, e⟩
theorem own_nil {α : Type} {r : Rp α} (w : World) (lo hi : Nat) : (rLsw r).own w lo hi [] [.slice none 0 0] [] := ⟨none, 0, [], [], rfl, Nat.le_refl _, rfl, ⟨rfl, rfl⟩, ⟨Lies.nil, fun b off e => by cases e⟩⟩
theorem rd_Int {w : World} {lo hi : Nat} {x : Int} {es : List Value} (h : rInt.rd w lo hi x es) : es = [.int .i64 x] := by
  exact h
theorem own_Int {w : World} {lo hi : Nat} {x : Int} {es : List Value} {F : List Nat} (h : rInt.own w lo hi x es F) : es = [.int .i64 x] ∧ F = [] := by
  exact h
theorem own_mk_Int (w : World) (lo hi : Nat) (x : Int) : rInt.own w lo hi x [.int .i64 x] [] := ⟨rfl, rfl⟩
theorem sz0_Int : ∀ xs : List Int, sizeAll rInt xs = 0
  | [] => rfl
  | x :: xs => by rw [sizeAll, sz0_Int xs]; rfl
theorem rd_Slot {w : World} {lo hi : Nat} {x : (Int × Int)} {es : List Value} (h : (rPair rInt rInt).rd w lo hi x es) : es = [.int .i64 x.1, .int .i64 x.2] := by
  obtain ⟨u0, v0, rfl, x0, h⟩ := h
  obtain rfl := show _ = _ from x0
  obtain rfl := show _ = _ from h
  rfl
theorem own_Slot {w : World} {lo hi : Nat} {x : (Int × Int)} {es : List Value} {F : List Nat} (h : (rPair rInt rInt).own w lo hi x es F) : es = [.int .i64 x.1, .int .i64 x.2] ∧ F = [] := by
  obtain ⟨u0, v0, U0, V0, rfl, rfl, ⟨rfl, rfl⟩, h⟩ := h
  obtain ⟨rfl, rfl⟩ := h
  exact ⟨rfl, rfl⟩
theorem own_mk_Slot (w : World) (lo hi : Nat) (x : (Int × Int)) : (rPair rInt rInt).own w lo hi x [.int .i64 x.1, .int .i64 x.2] [] := ⟨[_], _, [], [], rfl, rfl, ⟨rfl, rfl⟩, ⟨rfl, rfl⟩⟩
theorem sz0_Slot : ∀ xs : List (Int × Int), sizeAll (rPair rInt rInt) xs = 0
  | [] => rfl
  | x :: xs => by rw [sizeAll, sz0_Slot xs]; rfl
set_option maxRecDepth 100000 in
set_option maxHeartbeats 4000000 in
theorem keq_Slot (x : (Int × Int)) (w : World)  : Calls Try.prog 109 #[.agg #[.int .i64 x.1, .int .i64 x.2], .agg #[.int .i64 x.1, .int .i64 x.2]] w (fun e w' => e = .returned (.bool true) ∧ Below w.heap.size w w') := by
  refine Sx.enter (args := [.agg #[.int .i64 x.1, .int .i64 x.2], .agg #[.int .i64 x.1, .int .i64 x.2]]) Try.func109 rfl Try.ntmps109 rfl ?_
  refine Sx.C.seq ?_
  refine Sx.C.region ?_
  refine Sx.G.box 129 (.tmp 0) [.int .i64 x.1, .int .i64 x.2] rfl (by kernel_rfl) (by kernel_rfl) (fun b1 => ?_)
  refine Sx.G.box 129 (.tmp 1) [.int .i64 x.1, .int .i64 x.2] rfl (by kernel_rfl) (by kernel_rfl) (fun b2 => ?_)
  refine Sx.G.pure (.bool false) (by kernel_rfl) (fun w => by kernel_rfl) ?_
  refine Sx.G.nil ?_
  refine Sx.E.next ?_
  refine Sx.C.seq ?_
  refine Sx.C.seq ?_
  refine Sx.C.region ?_
  refine Sx.G.pure (.pointer (some ⟨b1, 0, none⟩)) (by kernel_rfl) (fun w => by kernel_rfl) ?_
  refine Sx.G.ld1 3 (.tmp 5) b1 0 1 [.int .i64 x.1, .int .i64 x.2] (.int .i64 x.1) rfl (by kernel_rfl) (by kernel_rfl) rfl (by kernel_rfl) (by kernel_rfl) ?_
  refine Sx.G.pure (.pointer (some ⟨b2, 0, none⟩)) (by kernel_rfl) (fun w => by kernel_rfl) ?_
  refine Sx.G.ld1 3 (.tmp 7) b2 0 0 [.int .i64 x.1, .int .i64 x.2] (.int .i64 x.1) rfl (by kernel_rfl) (by kernel_rfl) rfl (by kernel_rfl) (by kernel_rfl) ?_
  refine Sx.G.pureq (.bool (x.1 != x.1)) (.bool false) (by kernel_rfl) (fun w => by kernel_rfl) (congrArg Value.bool (bne_self_eq_false _)) ?_
  refine Sx.G.nil ?_
  refine Sx.E.next ?_
  refine Sx.C.no (by kernel_rfl) (by kernel_rfl) ?_
  refine Sx.C.skip ?_
  refine Sx.E.next ?_
  refine Sx.C.seq ?_
  refine Sx.C.seq ?_
  refine Sx.C.region ?_
  refine Sx.G.pure (.pointer (some ⟨b1, 1, none⟩)) (by kernel_rfl) (fun w => by kernel_rfl) ?_
  refine Sx.G.ld1 3 (.tmp 10) b1 1 1 [.int .i64 x.1, .int .i64 x.2] (.int .i64 x.2) rfl (by kernel_rfl) (by kernel_rfl) rfl (by kernel_rfl) (by kernel_rfl) ?_
  refine Sx.G.pure (.pointer (some ⟨b2, 1, none⟩)) (by kernel_rfl) (fun w => by kernel_rfl) ?_
  refine Sx.G.ld1 3 (.tmp 12) b2 1 0 [.int .i64 x.1, .int .i64 x.2] (.int .i64 x.2) rfl (by kernel_rfl) (by kernel_rfl) rfl (by kernel_rfl) (by kernel_rfl) ?_
  refine Sx.G.pureq (.bool (x.2 != x.2)) (.bool false) (by kernel_rfl) (fun w => by kernel_rfl) (congrArg Value.bool (bne_self_eq_false _)) ?_
  refine Sx.G.nil ?_
  refine Sx.E.next ?_
  refine Sx.C.no (by kernel_rfl) (by kernel_rfl) ?_
  refine Sx.C.skip ?_
  refine Sx.E.next ?_
  refine Sx.C.seq ?_
  refine Sx.C.region ?_
  refine Sx.G.pure (.bool true) (by kernel_rfl) (fun w => by kernel_rfl) ?_
  refine Sx.G.nil ?_
  refine Sx.E.next ?_
  refine Sx.C.ret ?_
  refine Sx.E.ret1 (.bool true) rfl (by kernel_rfl) (fun w S => ?_)
  exact ⟨rfl, S.below⟩
set_option maxRecDepth 100000 in
set_option maxHeartbeats 4000000 in
theorem kto_Slot (x : (Int × Int)) (w : World)  : Calls Try.prog 112 #[.agg #[.int .i64 x.1, .int .i64 x.2]] w (fun e w' => e = .returned (.agg #[.int .i64 x.1, .int .i64 x.2]) ∧ Below w.heap.size w w') := by
  refine Sx.enter (args := [.agg #[.int .i64 x.1, .int .i64 x.2]]) Try.func112 rfl Try.ntmps112 rfl ?_
  refine Sx.C.seq ?_
  refine Sx.C.region ?_
  refine Sx.G.box 132 (.tmp 0) [.int .i64 x.1, .int .i64 x.2] rfl (by kernel_rfl) (by kernel_rfl) (fun b1 => ?_)
  refine Sx.G.alloc 129 (.agg #[.int .i64 0, .int .i64 0]) [.int .i64 0, .int .i64 0] rfl (by kernel_rfl) (fun w => by kernel_rfl) (by kernel_rfl) (fun b2 => ?_)
  refine Sx.G.nil ?_
  refine Sx.E.next ?_
  refine Sx.C.seq ?_
  refine Sx.C.region ?_
  refine Sx.G.alloc 129 (.agg #[.int .i64 0, .int .i64 0]) [.int .i64 0, .int .i64 0] rfl (by kernel_rfl) (fun w => by kernel_rfl) (by kernel_rfl) (fun b3 => ?_)
  refine Sx.G.nil ?_
  refine Sx.E.next ?_
  refine Sx.C.seq ?_
  refine Sx.C.region ?_
  refine Sx.G.pure (.pointer (some ⟨b1, 0, none⟩)) (by kernel_rfl) (fun w => by kernel_rfl) ?_
  refine Sx.G.ld1 3 (.tmp 4) b1 0 2 [.int .i64 x.1, .int .i64 x.2] (.int .i64 x.1) rfl (by kernel_rfl) (by kernel_rfl) rfl (by kernel_rfl) (by kernel_rfl) ?_
  refine Sx.G.pure (.pointer (some ⟨b3, 0, none⟩)) (by kernel_rfl) (fun w => by kernel_rfl) ?_
  refine Sx.G.sto 3 (.tmp 6) (.tmp 5) b3 0 0 [.int .i64 0, .int .i64 0] [.int .i64 x.1] [.int .i64 x.1, .int .i64 0] [vr b3 [.int .i64 x.1, .int .i64 0], vr b2 [.int .i64 0, .int .i64 0], vr b1 [.int .i64 x.1, .int .i64 x.2]] rfl (by kernel_rfl) (by kernel_rfl) (by kernel_rfl) rfl (by kernel_rfl) rfl (by kernel_rfl) (by kernel_rfl) (by kernel_rfl) ?_
  refine Sx.G.nil ?_
  refine Sx.E.next ?_
  refine Sx.C.seq ?_
  refine Sx.C.region ?_
  refine Sx.G.pure (.pointer (some ⟨b1, 1, none⟩)) (by kernel_rfl) (fun w => by kernel_rfl) ?_
  refine Sx.G.ld1 3 (.tmp 7) b1 1 2 [.int .i64 x.1, .int .i64 x.2] (.int .i64 x.2) rfl (by kernel_rfl) (by kernel_rfl) rfl (by kernel_rfl) (by kernel_rfl) ?_
  refine Sx.G.pure (.pointer (some ⟨b3, 1, none⟩)) (by kernel_rfl) (fun w => by kernel_rfl) ?_
  refine Sx.G.sto 3 (.tmp 9) (.tmp 8) b3 1 0 [.int .i64 x.1, .int .i64 0] [.int .i64 x.2] [.int .i64 x.1, .int .i64 x.2] [vr b3 [.int .i64 x.1, .int .i64 x.2], vr b2 [.int .i64 0, .int .i64 0], vr b1 [.int .i64 x.1, .int .i64 x.2]] rfl (by kernel_rfl) (by kernel_rfl) (by kernel_rfl) rfl (by kernel_rfl) rfl (by kernel_rfl) (by kernel_rfl) (by kernel_rfl) ?_
  refine Sx.G.nil ?_
  refine Sx.E.next ?_
  refine Sx.C.seq ?_
  refine Sx.C.region ?_
  refine Sx.G.ld 129 (.tmp 3) b3 0 0 [.int .i64 x.1, .int .i64 x.2] [.int .i64 x.1, .int .i64 x.2] rfl (by kernel_rfl) (by kernel_rfl) rfl (by kernel_rfl) (by kernel_rfl) (by kernel_rfl) ?_
  refine Sx.G.sto 129 (.tmp 2) (.tmp 10) b2 0 1 [.int .i64 0, .int .i64 0] [.int .i64 x.1, .int .i64 x.2] [.int .i64 x.1, .int .i64 x.2] [vr b3 [.int .i64 x.1, .int .i64 x.2], vr b2 [.int .i64 x.1, .int .i64 x.2], vr b1 [.int .i64 x.1, .int .i64 x.2]] rfl (by kernel_rfl) (by kernel_rfl) (by kernel_rfl) rfl (by kernel_rfl) rfl (by kernel_rfl) (by kernel_rfl) (by kernel_rfl) ?_
  refine Sx.G.nil ?_
  refine Sx.E.next ?_
  refine Sx.C.ret ?_
  refine Sx.E.retc b2 1 [.int .i64 x.1, .int .i64 x.2] rfl (by kernel_rfl) rfl (by kernel_rfl) (by kernel_rfl) (fun w S => ?_)
  exact ⟨rfl, S.below⟩
theorem rd_Ins {w : World} {lo hi : Nat} {x : (Int × Int)} {es : List Value} (h : (rPair rInt rInt).rd w lo hi x es) : es = [.int .i64 x.1, .int .i64 x.2] := by
  obtain ⟨u0, v0, rfl, x0, h⟩ := h
  obtain rfl := show _ = _ from x0
  obtain rfl := show _ = _ from h
  rfl
theorem own_Ins {w : World} {lo hi : Nat} {x : (Int × Int)} {es : List Value} {F : List Nat} (h : (rPair rInt rInt).own w lo hi x es F) : es = [.int .i64 x.1, .int .i64 x.2] ∧ F = [] := by
  obtain ⟨u0, v0, U0, V0, rfl, rfl, ⟨rfl, rfl⟩, h⟩ := h
  obtain ⟨rfl, rfl⟩ := h
  exact ⟨rfl, rfl⟩
theorem own_mk_Ins (w : World) (lo hi : Nat) (x : (Int × Int)) : (rPair rInt rInt).own w lo hi x [.int .i64 x.1, .int .i64 x.2] [] := ⟨[_], _, [], [], rfl, rfl, ⟨rfl, rfl⟩, ⟨rfl, rfl⟩⟩
theorem sz0_Ins : ∀ xs : List (Int × Int), sizeAll (rPair rInt rInt) xs = 0
  | [] => rfl
  | x :: xs => by rw [sizeAll, sz0_Ins xs]; rfl
set_option maxRecDepth 100000 in
set_option maxHeartbeats 4000000 in
theorem keq_Ins (x : (Int × Int)) (w : World)  : Calls Try.prog 97 #[.agg #[.int .i64 x.1, .int .i64 x.2], .agg #[.int .i64 x.1, .int .i64 x.2]] w (fun e w' => e = .returned (.bool true) ∧ Below w.heap.size w w') := by
  refine Sx.enter (args := [.agg #[.int .i64 x.1, .int .i64 x.2], .agg #[.int .i64 x.1, .int .i64 x.2]]) Try.func97 rfl Try.ntmps97 rfl ?_
  refine Sx.C.seq ?_
  refine Sx.C.region ?_
  refine Sx.G.box 111 (.tmp 0) [.int .i64 x.1, .int .i64 x.2] rfl (by kernel_rfl) (by kernel_rfl) (fun b1 => ?_)
  refine Sx.G.box 111 (.tmp 1) [.int .i64 x.1, .int .i64 x.2] rfl (by kernel_rfl) (by kernel_rfl) (fun b2 => ?_)
  refine Sx.G.pure (.bool false) (by kernel_rfl) (fun w => by kernel_rfl) ?_
  refine Sx.G.nil ?_
  refine Sx.E.next ?_
  refine Sx.C.seq ?_
  refine Sx.C.seq ?_
  refine Sx.C.region ?_
  refine Sx.G.pure (.pointer (some ⟨b1, 0, none⟩)) (by kernel_rfl) (fun w => by kernel_rfl) ?_
  refine Sx.G.ld1 3 (.tmp 5) b1 0 1 [.int .i64 x.1, .int .i64 x.2] (.int .i64 x.1) rfl (by kernel_rfl) (by kernel_rfl) rfl (by kernel_rfl) (by kernel_rfl) ?_
  refine Sx.G.pure (.pointer (some ⟨b2, 0, none⟩)) (by kernel_rfl) (fun w => by kernel_rfl) ?_
  refine Sx.G.ld1 3 (.tmp 7) b2 0 0 [.int .i64 x.1, .int .i64 x.2] (.int .i64 x.1) rfl (by kernel_rfl) (by kernel_rfl) rfl (by kernel_rfl) (by kernel_rfl) ?_
  refine Sx.G.pureq (.bool (x.1 != x.1)) (.bool false) (by kernel_rfl) (fun w => by kernel_rfl) (congrArg Value.bool (bne_self_eq_false _)) ?_
  refine Sx.G.nil ?_
  refine Sx.E.next ?_
  refine Sx.C.no (by kernel_rfl) (by kernel_rfl) ?_
  refine Sx.C.skip ?_
  refine Sx.E.next ?_
  refine Sx.C.seq ?_
  refine Sx.C.seq ?_
  refine Sx.C.region ?_
  refine Sx.G.pure (.pointer (some ⟨b1, 1, none⟩)) (by kernel_rfl) (fun w => by kernel_rfl) ?_
  refine Sx.G.ld1 3 (.tmp 10) b1 1 1 [.int .i64 x.1, .int .i64 x.2] (.int .i64 x.2) rfl (by kernel_rfl) (by kernel_rfl) rfl (by kernel_rfl) (by kernel_rfl) ?_
  refine Sx.G.pure (.pointer (some ⟨b2, 1, none⟩)) (by kernel_rfl) (fun w => by kernel_rfl) ?_
  refine Sx.G.ld1 3 (.tmp 12) b2 1 0 [.int .i64 x.1, .int .i64 x.2] (.int .i64 x.2) rfl (by kernel_rfl) (by kernel_rfl) rfl (by kernel_rfl) (by kernel_rfl) ?_
  refine Sx.G.pureq (.bool (x.2 != x.2)) (.bool false) (by kernel_rfl) (fun w => by kernel_rfl) (congrArg Value.bool (bne_self_eq_false _)) ?_
  refine Sx.G.nil ?_
  refine Sx.E.next ?_
  refine Sx.C.no (by kernel_rfl) (by kernel_rfl) ?_
  refine Sx.C.skip ?_
  refine Sx.E.next ?_
  refine Sx.C.seq ?_
  refine Sx.C.region ?_
  refine Sx.G.pure (.bool true) (by kernel_rfl) (fun w => by kernel_rfl) ?_
  refine Sx.G.nil ?_
  refine Sx.E.next ?_
  refine Sx.C.ret ?_
  refine Sx.E.ret1 (.bool true) rfl (by kernel_rfl) (fun w S => ?_)
  exact ⟨rfl, S.below⟩
set_option maxRecDepth 100000 in
set_option maxHeartbeats 4000000 in
theorem kto_Ins (x : (Int × Int)) (w : World)  : Calls Try.prog 92 #[.agg #[.int .i64 x.1, .int .i64 x.2]] w (fun e w' => e = .returned (.agg #[.int .i64 x.1, .int .i64 x.2]) ∧ Below w.heap.size w w') := by
  refine Sx.enter (args := [.agg #[.int .i64 x.1, .int .i64 x.2]]) Try.func92 rfl Try.ntmps92 rfl ?_
  refine Sx.C.seq ?_
  refine Sx.C.region ?_
  refine Sx.G.box 113 (.tmp 0) [.int .i64 x.1, .int .i64 x.2] rfl (by kernel_rfl) (by kernel_rfl) (fun b1 => ?_)
  refine Sx.G.alloc 111 (.agg #[.int .i64 0, .int .i64 0]) [.int .i64 0, .int .i64 0] rfl (by kernel_rfl) (fun w => by kernel_rfl) (by kernel_rfl) (fun b2 => ?_)
  refine Sx.G.nil ?_
  refine Sx.E.next ?_
  refine Sx.C.seq ?_
  refine Sx.C.region ?_
  refine Sx.G.alloc 111 (.agg #[.int .i64 0, .int .i64 0]) [.int .i64 0, .int .i64 0] rfl (by kernel_rfl) (fun w => by kernel_rfl) (by kernel_rfl) (fun b3 => ?_)
  refine Sx.G.nil ?_
  refine Sx.E.next ?_
  refine Sx.C.seq ?_
  refine Sx.C.region ?_
  refine Sx.G.pure (.pointer (some ⟨b1, 0, none⟩)) (by kernel_rfl) (fun w => by kernel_rfl) ?_
  refine Sx.G.ld1 3 (.tmp 4) b1 0 2 [.int .i64 x.1, .int .i64 x.2] (.int .i64 x.1) rfl (by kernel_rfl) (by kernel_rfl) rfl (by kernel_rfl) (by kernel_rfl) ?_
  refine Sx.G.pure (.pointer (some ⟨b3, 0, none⟩)) (by kernel_rfl) (fun w => by kernel_rfl) ?_
  refine Sx.G.sto 3 (.tmp 6) (.tmp 5) b3 0 0 [.int .i64 0, .int .i64 0] [.int .i64 x.1] [.int .i64 x.1, .int .i64 0] [vr b3 [.int .i64 x.1, .int .i64 0], vr b2 [.int .i64 0, .int .i64 0], vr b1 [.int .i64 x.1, .int .i64 x.2]] rfl (by kernel_rfl) (by kernel_rfl) (by kernel_rfl) rfl (by kernel_rfl) rfl (by kernel_rfl) (by kernel_rfl) (by kernel_rfl) ?_
  refine Sx.G.nil ?_
  refine Sx.E.next ?_
  refine Sx.C.seq ?_
  refine Sx.C.region ?_
  refine Sx.G.pure (.pointer (some ⟨b1, 1, none⟩)) (by kernel_rfl) (fun w => by kernel_rfl) ?_
  refine Sx.G.ld1 3 (.tmp 7) b1 1 2 [.int .i64 x.1, .int .i64 x.2] (.int .i64 x.2) rfl (by kernel_rfl) (by kernel_rfl) rfl (by kernel_rfl) (by kernel_rfl) ?_
  refine Sx.G.pure (.pointer (some ⟨b3, 1, none⟩)) (by kernel_rfl) (fun w => by kernel_rfl) ?_
  refine Sx.G.sto 3 (.tmp 9) (.tmp 8) b3 1 0 [.int .i64 x.1, .int .i64 0] [.int .i64 x.2] [.int .i64 x.1, .int .i64 x.2] [vr b3 [.int .i64 x.1, .int .i64 x.2], vr b2 [.int .i64 0, .int .i64 0], vr b1 [.int .i64 x.1, .int .i64 x.2]] rfl (by kernel_rfl) (by kernel_rfl) (by kernel_rfl) rfl (by kernel_rfl) rfl (by kernel_rfl) (by kernel_rfl) (by kernel_rfl) ?_
  refine Sx.G.nil ?_
  refine Sx.E.next ?_
  refine Sx.C.seq ?_
  refine Sx.C.region ?_
  refine Sx.G.ld 111 (.tmp 3) b3 0 0 [.int .i64 x.1, .int .i64 x.2] [.int .i64 x.1, .int .i64 x.2] rfl (by kernel_rfl) (by kernel_rfl) rfl (by kernel_rfl) (by kernel_rfl) (by kernel_rfl) ?_
  refine Sx.G.sto 111 (.tmp 2) (.tmp 10) b2 0 1 [.int .i64 0, .int .i64 0] [.int .i64 x.1, .int .i64 x.2] [.int .i64 x.1, .int .i64 x.2] [vr b3 [.int .i64 x.1, .int .i64 x.2], vr b2 [.int .i64 x.1, .int .i64 x.2], vr b1 [.int .i64 x.1, .int .i64 x.2]] rfl (by kernel_rfl) (by kernel_rfl) (by kernel_rfl) rfl (by kernel_rfl) rfl (by kernel_rfl) (by kernel_rfl) (by kernel_rfl) ?_
  refine Sx.G.nil ?_
  refine Sx.E.next ?_
  refine Sx.C.ret ?_
  refine Sx.E.retc b2 1 [.int .i64 x.1, .int .i64 x.2] rfl (by kernel_rfl) rfl (by kernel_rfl) (by kernel_rfl) (fun w S => ?_)
  exact ⟨rfl, S.below⟩
set_option maxRecDepth 100000 in
set_option maxHeartbeats 4000000 in
theorem keq_IntS (xs : (List Int)) (A : Option Addr) (c : Nat) (B : Option Addr) (d : Nat) (w : World) (hc : (rLsw rInt).cap xs) (h : rdLst rInt w 0 w.heap.size xs [.slice A xs.length c]) (j : rdLst rInt w 0 w.heap.size xs [.slice B xs.length d]) : Calls Try.prog 43 #[.slice A xs.length c, .slice B xs.length d] w (fun e w' => e = .returned (.bool true) ∧ Below w.heap.size w w') := by
  obtain ⟨hl, hce⟩ := hc
  refine Sx.enter (args := [.slice A xs.length c, .slice B xs.length d]) Try.func43 rfl Try.ntmps43 rfl ?_
  refine Sx.C.seq ?_
  refine Sx.C.region ?_
  refine Sx.G.pure (.bool false) (by kernel_rfl) (fun w => by kernel_rfl) ?_
  refine Sx.G.nil ?_
  refine Sx.E.next ?_
  refine Sx.C.seq ?_
  refine Sx.C.seq ?_
  refine Sx.C.region ?_
  refine Sx.G.pure (.slice A xs.length c) (by kernel_rfl) (fun w => by kernel_rfl) ?_
  refine Sx.G.pure (.int .i64 ((xs.length : Nat) : Int)) (by kernel_rfl) (fun w => by kernel_rfl) ?_
  refine Sx.G.pure (.slice B xs.length d) (by kernel_rfl) (fun w => by kernel_rfl) ?_
  refine Sx.G.pure (.int .i64 ((xs.length : Nat) : Int)) (by kernel_rfl) (fun w => by kernel_rfl) ?_
  refine Sx.G.pureq (.bool (((xs.length : Nat) : Int) != ((xs.length : Nat) : Int))) (.bool false) (by kernel_rfl) (fun w => by kernel_rfl) (congrArg Value.bool (bne_self_eq_false _)) ?_
  refine Sx.G.nil ?_
  refine Sx.E.next ?_
  refine Sx.C.no (by kernel_rfl) (by kernel_rfl) ?_
  refine Sx.C.skip ?_
  refine Sx.E.next ?_
  refine Sx.C.seq ?_
  refine Sx.C.seq ?_
  refine Sx.C.region ?_
  refine Sx.G.pure (.int .i64 0) (by kernel_rfl) (fun w => by kernel_rfl) ?_
  refine Sx.G.nil ?_
  refine Sx.E.next ?_
  refine Sx.C.block ?_
  refine Sx.C.loop (α := Nat) (fun i => i ≤ xs.length) (fun i => [(5, .int .i64 (i : Int)), (0, .slice A xs.length c), (1, .slice B xs.length d), (4, .bool false)]) (fun i => []) (fun i => xs.length - i) 0 (Nat.zero_le _) (fun a hA => (Sx.Ag.and hA (Sx.Ag.and hA (Sx.Ag.and hA (Sx.Ag.and hA (Sx.Ag.none hA) _ _ (by kernel_rfl)) _ _ (by kernel_rfl)) _ _ (by kernel_rfl)) _ _ (by kernel_rfl))) (fun w S => S) (fun i hx => ?_)
  refine Sx.C.seq ?_
  refine Sx.C.seq ?_
  refine Sx.C.region ?_
  refine Sx.G.pure (.int .i64 (i : Int)) (by kernel_rfl) (fun w => by kernel_rfl) ?_
  refine Sx.G.pure (.slice A xs.length c) (by kernel_rfl) (fun w => by kernel_rfl) ?_
  refine Sx.G.pure (.int .i64 ((xs.length : Nat) : Int)) (by kernel_rfl) (fun w => by kernel_rfl) ?_
  refine Sx.G.pure (.bool (decide ((i : Int) < ((xs.length : Nat) : Int)))) (by kernel_rfl) (fun w => by kernel_rfl) ?_
  refine Sx.G.nil ?_
  refine Sx.E.next ?_
  cases hc1 : (decide ((i : Int) < ((xs.length : Nat) : Int)))
  · have hb1 := hc1
    replace hc1 := of_decide_eq_false hc1
    refine Sx.C.no (by kernel_rfl) (by kernel_rfl) ?_
    refine Sx.C.exit ?_
    refine Sx.E.then_exit ?_
    refine Sx.E.then_exit ?_
    refine Sx.E.block_hit ?_
    refine Sx.E.next ?_
    refine Sx.C.seq ?_
    refine Sx.C.region ?_
    refine Sx.G.pure (.bool true) (by kernel_rfl) (fun w => by kernel_rfl) ?_
    refine Sx.G.nil ?_
    refine Sx.E.next ?_
    refine Sx.C.ret ?_
    refine Sx.E.ret1 (.bool true) rfl (by kernel_rfl) (fun w S => ?_)
    exact ⟨rfl, S.below⟩
  · have hb1 := hc1
    replace hc1 := of_decide_eq_true hc1
    refine Sx.C.yes (by kernel_rfl) (by kernel_rfl) ?_
    refine Sx.C.skip ?_
    refine Sx.E.next ?_
    refine Sx.C.seq ?_
    refine Sx.C.block ?_
    refine Sx.C.seq ?_
    refine Sx.C.draw (.take 0 (.take 1 (.take 2 (.take 3 (.take 4 (.take 5 (.take 6 (.take 7 (.take 8 .nil))))))))) [] (fun w S => St.pick S [] _ rfl (by decide)) (by kernel_rfl) (by kernel_rfl) (by kernel_rfl) ?_
    refine Sx.GT.pure (.slice A xs.length c) 0 (by rfl) (by kernel_rfl) (fun w => by kernel_rfl) ?_
    refine Sx.GT.pure (.int .i64 (i : Int)) 1 (by rfl) (by kernel_rfl) (fun w => by kernel_rfl) ?_
    obtain ⟨b2, f2, es2, eA2, hr2, hl2, hm2⟩ := Sx.old_elem (by decide) h i (by omega)
    subst eA2
    obtain ⟨x2, hx2⟩ : ∃ z_, z_ = (xs[i]'(by omega)) := ⟨_, rfl⟩
    rw [← hx2] at hr2
    obtain rfl := Kit.rd_Int hr2
    refine Sx.GT.elem 26 3 (.tmp 17) (.tmp 18) 1 8 b2 f2 xs.length c i 2 (by rfl) (by rfl) (by kernel_rfl) (by kernel_rfl) (by kernel_rfl) (by kernel_rfl) (by omega) ?_
    refine Sx.GT.ldr1 3 (.tmp 19) b2 ((f2 + i * 1) + 0) (.int .i64 x2) 3 (by rfl) (by rfl) (by kernel_rfl) (by kernel_rfl) (fun w S => hm2 w _ S 0 _ rfl) (by kernel_rfl) ?_
    refine Sx.GT.pure (.slice B xs.length d) 4 (by rfl) (by kernel_rfl) (fun w => by kernel_rfl) ?_
    refine Sx.GT.pure (.int .i64 (i : Int)) 5 (by rfl) (by kernel_rfl) (fun w => by kernel_rfl) ?_
    obtain ⟨b3, f3, es3, eA3, hr3, hl3, hm3⟩ := Sx.old_elem (by decide) j i (by omega)
    subst eA3
    rw [← hx2] at hr3
    obtain rfl := Kit.rd_Int hr3
    refine Sx.GT.elem 26 3 (.tmp 21) (.tmp 22) 1 8 b3 f3 xs.length d i 6 (by rfl) (by rfl) (by kernel_rfl) (by kernel_rfl) (by kernel_rfl) (by kernel_rfl) (by omega) ?_
    refine Sx.GT.ldr1 3 (.tmp 23) b3 ((f3 + i * 1) + 0) (.int .i64 x2) 7 (by rfl) (by rfl) (by kernel_rfl) (by kernel_rfl) (fun w S => hm3 w _ S 0 _ rfl) (by kernel_rfl) ?_
    refine Sx.GT.pureq (.bool (x2 != x2)) (.bool false) 8 (by rfl) (by kernel_rfl) (fun w => by kernel_rfl) (congrArg Value.bool (bne_self_eq_false _)) ?_
    refine Sx.GT.nil ?_
    refine Sx.E.next ?_
    refine Sx.C.no (by kernel_rfl) (by kernel_rfl) ?_
    refine Sx.C.skip ?_
    refine Sx.E.block_normal ?_
    refine Sx.E.next ?_
    refine Sx.C.region ?_
    refine Sx.G.pure (.int .i64 (i : Int)) (by kernel_rfl) (fun w => by kernel_rfl) ?_
    refine Sx.G.pureq (.int .i64 (IntKind.i64.wrap ((i : Int) + 1))) (.int .i64 ((i + 1 : Nat) : Int)) (by kernel_rfl) (fun w => by kernel_rfl) (congrArg (Value.int .i64) (Sx.wrap_up i (by omega))) ?_
    refine Sx.G.pure (.int .i64 ((i + 1 : Nat) : Int)) (by kernel_rfl) (fun w => by kernel_rfl) ?_
    refine Sx.G.nil ?_
    exact Sx.E.again (i + 1) (by omega) (by omega) (fun a hA => (Sx.Ag.and hA (Sx.Ag.and hA (Sx.Ag.and hA (Sx.Ag.and hA (Sx.Ag.none hA) _ _ (by kernel_rfl)) _ _ (by kernel_rfl)) _ _ (by kernel_rfl)) _ _ (by kernel_rfl))) (fun w S => S)
set_option maxRecDepth 100000 in
set_option maxHeartbeats 4000000 in
theorem ksz_IntS (xs : (List Int)) (A : Option Addr) (c : Nat) (left : Int) (w : World) (hw : (rLsw rInt).wf xs) (h0 : 0 ≤ left) (h1 : left ≤ 1048576) (h : rdLst rInt w 0 w.heap.size xs [.slice A xs.length c]) : Calls Try.prog 54 #[.slice A xs.length c, .int .i64 left] w (fun e w' => ∃ l, e = .returned (.int .i64 l) ∧ Kit.Sz left ((rLsw rInt).size xs) l ∧ Below w.heap.size w w') := by
  obtain ⟨hl, hwe⟩ := hw
  simp only [maxLen] at hl
  refine Sx.enter (args := [.slice A xs.length c, .int .i64 left]) Try.func54 rfl Try.ntmps54 rfl ?_
  refine Sx.C.seq ?_
  refine Sx.C.region ?_
  refine Sx.G.pure (.int .i64 0) (by kernel_rfl) (fun w => by kernel_rfl) ?_
  refine Sx.G.nil ?_
  refine Sx.E.next ?_
  refine Sx.C.seq ?_
  refine Sx.C.region ?_
  refine Sx.G.pure (.int .i64 left) (by kernel_rfl) (fun w => by kernel_rfl) ?_
  refine Sx.G.pure (.slice A xs.length c) (by kernel_rfl) (fun w => by kernel_rfl) ?_
  refine Sx.G.pure (.int .i64 ((xs.length : Nat) : Int)) (by kernel_rfl) (fun w => by kernel_rfl) ?_
  refine Sx.G.pureq (.int .i64 (IntKind.i64.wrap (left - ((xs.length : Nat) : Int)))) (.int .i64 (left - ((xs.length : Nat) : Int))) (by kernel_rfl) (fun w => by kernel_rfl) (congrArg (Value.int .i64) (by rw [IntKind.wrap_i64]; omega)) ?_
  refine Sx.G.pure (.int .i64 (left - ((xs.length : Nat) : Int))) (by kernel_rfl) (fun w => by kernel_rfl) ?_
  refine Sx.G.nil ?_
  refine Sx.E.next ?_
  refine Sx.C.seq ?_
  refine Sx.C.seq ?_
  refine Sx.C.region ?_
  refine Sx.G.pure (.int .i64 (left - ((xs.length : Nat) : Int))) (by kernel_rfl) (fun w => by kernel_rfl) ?_
  refine Sx.G.pure (.bool (decide ((left - ((xs.length : Nat) : Int)) < 0))) (by kernel_rfl) (fun w => by kernel_rfl) ?_
  refine Sx.G.nil ?_
  refine Sx.E.next ?_
  cases hc1 : (decide ((left - ((xs.length : Nat) : Int)) < 0))
  · have hb1 := hc1
    replace hc1 := of_decide_eq_false hc1
    refine Sx.C.no (by kernel_rfl) (by kernel_rfl) ?_
    refine Sx.C.skip ?_
    refine Sx.E.next ?_
    refine Sx.C.seq ?_
    refine Sx.C.region ?_
    refine Sx.G.pure (.int .i64 (left - ((xs.length : Nat) : Int))) (by kernel_rfl) (fun w => by kernel_rfl) ?_
    refine Sx.G.pure (.int .i64 (left - ((xs.length : Nat) : Int))) (by kernel_rfl) (fun w => by kernel_rfl) ?_
    refine Sx.G.nil ?_
    refine Sx.E.next ?_
    refine Sx.C.ret ?_
    refine Sx.E.ret1 (.int .i64 (left - ((xs.length : Nat) : Int))) rfl (by kernel_rfl) (fun w S => ?_)
    exact ⟨_, rfl, show Kit.Sz left (xs.length + sizeAll rInt xs) _ by rw [sz0_Int]; unfold Kit.Sz; omega, S.below⟩
  · have hb1 := hc1
    replace hc1 := of_decide_eq_true hc1
    refine Sx.C.yes (by kernel_rfl) (by kernel_rfl) ?_
    refine Sx.C.seq ?_
    refine Sx.C.region ?_
    refine Sx.G.pure (.int .i64 (-1)) (by kernel_rfl) (fun w => by kernel_rfl) ?_
    refine Sx.G.nil ?_
    refine Sx.E.next ?_
    refine Sx.C.ret ?_
    refine Sx.E.then_ret ?_
    refine Sx.E.ret1 (.int .i64 (-1)) rfl (by kernel_rfl) (fun w S => ?_)
    exact ⟨_, rfl, show Kit.Sz left (xs.length + sizeAll rInt xs) _ by rw [sz0_Int]; unfold Kit.Sz; omega, S.below⟩
set_option maxRecDepth 100000 in
set_option maxHeartbeats 4000000 in
theorem kto_IntS (xs : (List Int)) (A : Option Addr) (c : Nat) (w : World) (hc : (rLsw rInt).cap xs) (h : rdLst rInt w 0 w.heap.size xs [.slice A xs.length c]) : Calls Try.prog 61 #[.slice A xs.length c] w (Gives (rLsw rInt) w xs) := by
  obtain ⟨hl, hce⟩ := hc
  refine Sx.enter (args := [.slice A xs.length c]) Try.func61 rfl Try.ntmps61 rfl ?_
  refine Sx.C.seq ?_
  refine Sx.C.region ?_
  refine Sx.G.pure (.slice none 0 0) (by kernel_rfl) (fun w => by kernel_rfl) ?_
  refine Sx.G.nil ?_
  refine Sx.E.next ?_
  refine Sx.C.seq ?_
  refine Sx.C.region ?_
  refine Sx.G.pure (.slice A xs.length c) (by kernel_rfl) (fun w => by kernel_rfl) ?_
  refine Sx.G.pure (.int .i64 ((xs.length : Nat) : Int)) (by kernel_rfl) (fun w => by kernel_rfl) ?_
  refine Sx.G.mks (r := rInt) (0 : Int) [.int .i64 0] 26 3 (.tmp 6) (.tmp 6) 1 8 xs.length rfl (by kernel_rfl) (by kernel_rfl) (by kernel_rfl) rfl rfl (fun w lo hi => Kit.own_mk_Int w lo hi 0) (by kernel_rfl) (by kernel_rfl) (by simp only [maxLen]; omega) (by omega) (fun b1 hi1 F1 => ?_)
  refine Sx.G.pure (.slice (some ⟨b1, 0, none⟩) xs.length xs.length) (by kernel_rfl) (fun w => by kernel_rfl) ?_
  refine Sx.G.nil ?_
  refine Sx.E.next ?_
  refine Sx.C.seq ?_
  refine Sx.C.seq ?_
  refine Sx.C.region ?_
  refine Sx.G.pure (.int .i64 0) (by kernel_rfl) (fun w => by kernel_rfl) ?_
  refine Sx.G.nil ?_
  refine Sx.E.next ?_
  refine Sx.C.block ?_
  refine Sx.C.loop (α := Nat × Nat × List Nat) (fun x => x.1 ≤ xs.length) (fun x => [(4, .int .i64 (x.1 : Int)), (0, .slice A xs.length c), (2, .slice none 0 0), (3, .slice (some ⟨b1, 0, none⟩) xs.length xs.length)]) (fun x => [ow (rLsw rInt) w.heap.size x.2.1 (xs.take x.1 ++ List.replicate (xs.length - x.1) (0 : Int)) [.slice (some ⟨b1, 0, none⟩) xs.length xs.length] x.2.2]) (fun x => xs.length - x.1) (0, hi1, F1) (Nat.zero_le _) (fun a hA => (Sx.Ag.and hA (Sx.Ag.and hA (Sx.Ag.and hA (Sx.Ag.and hA (Sx.Ag.none hA) _ _ (by kernel_rfl)) _ _ (by kernel_rfl)) _ _ (by kernel_rfl)) _ _ (by kernel_rfl))) (fun w' S => by have S2 := Sx.St.widen S 0 rfl (Nat.le_refl _) (S.hi 0 _ rfl); exact S2) (fun x hx => ?_)
  obtain ⟨i, hi, F⟩ := x
  dsimp only at hx
  obtain hi' := hx
  refine Sx.C.seq ?_
  refine Sx.C.seq ?_
  refine Sx.C.region ?_
  refine Sx.G.pure (.int .i64 (i : Int)) (by kernel_rfl) (fun w => by kernel_rfl) ?_
  refine Sx.G.pure (.slice A xs.length c) (by kernel_rfl) (fun w => by kernel_rfl) ?_
  refine Sx.G.pure (.int .i64 ((xs.length : Nat) : Int)) (by kernel_rfl) (fun w => by kernel_rfl) ?_
  refine Sx.G.pure (.bool (decide ((i : Int) < ((xs.length : Nat) : Int)))) (by kernel_rfl) (fun w => by kernel_rfl) ?_
  refine Sx.G.nil ?_
  refine Sx.E.next ?_
  cases hc2 : (decide ((i : Int) < ((xs.length : Nat) : Int)))
  · have hb2 := hc2
    replace hc2 := of_decide_eq_false hc2
    refine Sx.C.no (by kernel_rfl) (by kernel_rfl) ?_
    refine Sx.C.exit ?_
    refine Sx.E.then_exit ?_
    refine Sx.E.then_exit ?_
    refine Sx.E.block_hit ?_
    refine Sx.E.next ?_
    refine Sx.C.seq ?_
    refine Sx.C.region ?_
    refine Sx.G.pure (.slice (some ⟨b1, 0, none⟩) xs.length xs.length) (by kernel_rfl) (fun w => by kernel_rfl) ?_
    refine Sx.G.pure (.slice (some ⟨b1, 0, none⟩) xs.length xs.length) (by kernel_rfl) (fun w => by kernel_rfl) ?_
    refine Sx.G.nil ?_
    refine Sx.E.next ?_
    refine Sx.C.ret ?_
    refine Sx.E.ret1 (.slice (some ⟨b1, 0, none⟩) xs.length xs.length) rfl (by kernel_rfl) (fun w S => ?_)
    have h2' : xs.take i = xs := List.take_of_length_le (by omega)
    rw [h2', show xs.length - i = 0 by omega, List.replicate_zero, List.append_nil] at S
    exact ⟨[_], F, rfl, S.own 0 rfl, S.nodup 0 rfl, S.below⟩
  · have hb2 := hc2
    replace hc2 := of_decide_eq_true hc2
    refine Sx.C.yes (by kernel_rfl) (by kernel_rfl) ?_
    refine Sx.C.skip ?_
    refine Sx.E.next ?_
    refine Sx.C.seq ?_
    have hlt : i < xs.length := by omega
    refine Sx.C.open (r := rInt) (pre := xs.take i) (x := (0 : Int)) (post := List.replicate (xs.length - (i + 1)) (0 : Int)) (by rw [show xs.length - i = (xs.length - (i + 1)) + 1 by omega, List.replicate_succ]) (by decide) (fun b off es F1 Fi F2 eA eF hes hm hmc => ?_)
    obtain ⟨rfl, rfl⟩ : b1 = b ∧ 0 = off := by cases eA; exact ⟨rfl, rfl⟩
    subst eF
    refine Sx.C.know (p := es = [.int .i64 0] ∧ Fi = []) (fun w S => Kit.own_Int (St.at_ S 1 rfl).1) ?_
    rintro ⟨rfl, rfl⟩
    refine Sx.C.block ?_
    refine Sx.C.region ?_
    refine Sx.G.pure (.slice (some ⟨b1, 0, none⟩) xs.length xs.length) (by kernel_rfl) (fun w => by kernel_rfl) ?_
    refine Sx.G.pure (.int .i64 (i : Int)) (by kernel_rfl) (fun w => by kernel_rfl) ?_
    refine Sx.G.pure (.slice A xs.length c) (by kernel_rfl) (fun w => by kernel_rfl) ?_
    refine Sx.G.pure (.int .i64 (i : Int)) (by kernel_rfl) (fun w => by kernel_rfl) ?_
    obtain ⟨b3, f3, es3, eA3, hr3, hl3, hm3⟩ := Sx.old_elem (by decide) h i (by omega)
    subst eA3
    obtain ⟨x3, hx3⟩ : ∃ z_, z_ = (xs[i]'(by omega)) := ⟨_, rfl⟩
    rw [← hx3] at hr3
    obtain rfl := Kit.rd_Int hr3
    refine Sx.G.elem 26 3 (.tmp 16) (.tmp 17) 1 8 b3 f3 xs.length c i rfl (by kernel_rfl) (by kernel_rfl) (by kernel_rfl) (by kernel_rfl) (by omega) ?_
    refine Sx.G.ldr1 3 (.tmp 18) b3 ((f3 + i * 1) + 0) (.int .i64 x3) rfl (by kernel_rfl) (by kernel_rfl) (fun w S => hm3 w _ S 0 _ rfl) (by kernel_rfl) ?_
    refine Sx.G.elem 26 3 (.tmp 14) (.tmp 15) 1 8 b1 0 xs.length xs.length i rfl (by kernel_rfl) (by kernel_rfl) (by kernel_rfl) (by kernel_rfl) (by omega) ?_
    refine Sx.G.hsto (k := i) (size := 1) 3 (.tmp 20) (.tmp 19) b1 ((0 + i * 1) + 0) 0 0 [.int .i64 x3] [.int .i64 x3] [Sx.hole rInt b1 0 w.heap.size hi (xs.take i) (List.replicate (xs.length - (i + 1)) (0 : Int)) [.int .i64 x3] F1 F2, ow rInt w.heap.size hi (0 : Int) [.int .i64 0] []] rfl (by kernel_rfl) (by kernel_rfl) (by kernel_rfl) rfl (by rw [List.length_take]; omega) rfl rfl rfl rfl (by kernel_rfl) (by kernel_rfl) (by kernel_rfl) ?_
    refine Sx.G.nil ?_
    refine Sx.E.block_normal ?_
    refine Sx.E.next ?_
    refine Sx.C.region ?_
    refine Sx.G.pure (.int .i64 (i : Int)) (by kernel_rfl) (fun w => by kernel_rfl) ?_
    refine Sx.G.pureq (.int .i64 (IntKind.i64.wrap ((i : Int) + 1))) (.int .i64 ((i + 1 : Nat) : Int)) (by kernel_rfl) (fun w => by kernel_rfl) (congrArg (Value.int .i64) (Sx.wrap_up i (by omega))) ?_
    refine Sx.G.pure (.int .i64 ((i + 1 : Nat) : Int)) (by kernel_rfl) (fun w => by kernel_rfl) ?_
    refine Sx.G.nil ?_
    exact Sx.E.again (i + 1, hi, _) (show i + 1 ≤ xs.length by omega) (show xs.length - (i + 1) < xs.length - i by omega) (fun a hA => (Sx.Ag.and hA (Sx.Ag.and hA (Sx.Ag.and hA (Sx.Ag.and hA (Sx.Ag.none hA) _ _ (by kernel_rfl)) _ _ (by kernel_rfl)) _ _ (by kernel_rfl)) _ _ (by kernel_rfl))) (fun w' S => by
      have S := Sx.St.flat S 1 rfl x3 [.int .i64 x3] (fun w => Kit.own_mk_Int w _ _ x3)
      have S3 := Sx.St.close S (by decide) xs.length xs.length (by simp [List.length_take]; omega) hmc
      rw [hx3] at S3
      rw [show xs.take i ++ xs[i] :: List.replicate (xs.length - (i + 1)) (0 : Int) = xs.take (i + 1) ++ List.replicate (xs.length - (i + 1)) (0 : Int) by rw [Kit.take_step hlt, List.append_assoc]; rfl] at S3
      exact S3
      )
set_option maxRecDepth 100000 in
set_option maxHeartbeats 4000000 in
theorem keq_SlotS (xs : (List (Int × Int))) (A : Option Addr) (c : Nat) (B : Option Addr) (d : Nat) (w : World) (hc : (rLsw (rPair rInt rInt)).cap xs) (h : rdLst (rPair rInt rInt) w 0 w.heap.size xs [.slice A xs.length c]) (j : rdLst (rPair rInt rInt) w 0 w.heap.size xs [.slice B xs.length d]) : Calls Try.prog 70 #[.slice A xs.length c, .slice B xs.length d] w (fun e w' => e = .returned (.bool true) ∧ Below w.heap.size w w') := by
  obtain ⟨hl, hce⟩ := hc
  refine Sx.enter (args := [.slice A xs.length c, .slice B xs.length d]) Try.func70 rfl Try.ntmps70 rfl ?_
  refine Sx.C.seq ?_
  refine Sx.C.region ?_
  refine Sx.G.pure (.bool false) (by kernel_rfl) (fun w => by kernel_rfl) ?_
  refine Sx.G.nil ?_
  refine Sx.E.next ?_
  refine Sx.C.seq ?_
  refine Sx.C.seq ?_
  refine Sx.C.region ?_
  refine Sx.G.pure (.slice A xs.length c) (by kernel_rfl) (fun w => by kernel_rfl) ?_
  refine Sx.G.pure (.int .i64 ((xs.length : Nat) : Int)) (by kernel_rfl) (fun w => by kernel_rfl) ?_
  refine Sx.G.pure (.slice B xs.length d) (by kernel_rfl) (fun w => by kernel_rfl) ?_
  refine Sx.G.pure (.int .i64 ((xs.length : Nat) : Int)) (by kernel_rfl) (fun w => by kernel_rfl) ?_
  refine Sx.G.pureq (.bool (((xs.length : Nat) : Int) != ((xs.length : Nat) : Int))) (.bool false) (by kernel_rfl) (fun w => by kernel_rfl) (congrArg Value.bool (bne_self_eq_false _)) ?_
  refine Sx.G.nil ?_
  refine Sx.E.next ?_
  refine Sx.C.no (by kernel_rfl) (by kernel_rfl) ?_
  refine Sx.C.skip ?_
  refine Sx.E.next ?_
  refine Sx.C.seq ?_
  refine Sx.C.seq ?_
  refine Sx.C.region ?_
  refine Sx.G.pure (.int .i64 0) (by kernel_rfl) (fun w => by kernel_rfl) ?_
  refine Sx.G.nil ?_
  refine Sx.E.next ?_
  refine Sx.C.block ?_
  refine Sx.C.loop (α := Nat) (fun i => i ≤ xs.length) (fun i => [(5, .int .i64 (i : Int)), (0, .slice A xs.length c), (1, .slice B xs.length d), (4, .bool false)]) (fun i => []) (fun i => xs.length - i) 0 (Nat.zero_le _) (fun a hA => (Sx.Ag.and hA (Sx.Ag.and hA (Sx.Ag.and hA (Sx.Ag.and hA (Sx.Ag.none hA) _ _ (by kernel_rfl)) _ _ (by kernel_rfl)) _ _ (by kernel_rfl)) _ _ (by kernel_rfl))) (fun w S => S) (fun i hx => ?_)
  refine Sx.C.seq ?_
  refine Sx.C.seq ?_
  refine Sx.C.region ?_
  refine Sx.G.pure (.int .i64 (i : Int)) (by kernel_rfl) (fun w => by kernel_rfl) ?_
  refine Sx.G.pure (.slice A xs.length c) (by kernel_rfl) (fun w => by kernel_rfl) ?_
  refine Sx.G.pure (.int .i64 ((xs.length : Nat) : Int)) (by kernel_rfl) (fun w => by kernel_rfl) ?_
  refine Sx.G.pure (.bool (decide ((i : Int) < ((xs.length : Nat) : Int)))) (by kernel_rfl) (fun w => by kernel_rfl) ?_
  refine Sx.G.nil ?_
  refine Sx.E.next ?_
  cases hc1 : (decide ((i : Int) < ((xs.length : Nat) : Int)))
  · have hb1 := hc1
    replace hc1 := of_decide_eq_false hc1
    refine Sx.C.no (by kernel_rfl) (by kernel_rfl) ?_
    refine Sx.C.exit ?_
    refine Sx.E.then_exit ?_
    refine Sx.E.then_exit ?_
    refine Sx.E.block_hit ?_
    refine Sx.E.next ?_
    refine Sx.C.seq ?_
    refine Sx.C.region ?_
    refine Sx.G.pure (.bool true) (by kernel_rfl) (fun w => by kernel_rfl) ?_
    refine Sx.G.nil ?_
    refine Sx.E.next ?_
    refine Sx.C.ret ?_
    refine Sx.E.ret1 (.bool true) rfl (by kernel_rfl) (fun w S => ?_)
    exact ⟨rfl, S.below⟩
  · have hb1 := hc1
    replace hc1 := of_decide_eq_true hc1
    refine Sx.C.yes (by kernel_rfl) (by kernel_rfl) ?_
    refine Sx.C.skip ?_
    refine Sx.E.next ?_
    refine Sx.C.seq ?_
    refine Sx.C.block ?_
    refine Sx.C.seq ?_
    refine Sx.C.draw (.take 0 (.take 1 (.take 2 (.take 3 (.take 4 (.take 5 (.take 6 (.take 7 (.alone 8 (.take 9 .nil)))))))))) [] (fun w S => St.pick S [] _ rfl (by decide)) (by kernel_rfl) (by kernel_rfl) (by kernel_rfl) ?_
    refine Sx.GT.pure (.slice A xs.length c) 0 (by rfl) (by kernel_rfl) (fun w => by kernel_rfl) ?_
    refine Sx.GT.pure (.int .i64 (i : Int)) 1 (by rfl) (by kernel_rfl) (fun w => by kernel_rfl) ?_
    obtain ⟨b2, f2, es2, eA2, hr2, hl2, hm2⟩ := Sx.old_elem (by decide) h i (by omega)
    subst eA2
    obtain ⟨x2, hx2⟩ : ∃ z_, z_ = (xs[i]'(by omega)) := ⟨_, rfl⟩
    rw [← hx2] at hr2
    obtain rfl := Kit.rd_Slot hr2
    refine Sx.GT.elem 45 129 (.tmp 17) (.tmp 18) 2 16 b2 f2 xs.length c i 2 (by rfl) (by rfl) (by kernel_rfl) (by kernel_rfl) (by kernel_rfl) (by kernel_rfl) (by omega) ?_
    refine Sx.GT.ldr 129 (.tmp 19) b2 (f2 + i * 2) [.int .i64 x2.1, .int .i64 x2.2] 3 (by rfl) (by rfl) (by kernel_rfl) (by kernel_rfl) (fun w S => hm2 w _ S) (by kernel_rfl) (by kernel_rfl) ?_
    refine Sx.GT.pure (.slice B xs.length d) 4 (by rfl) (by kernel_rfl) (fun w => by kernel_rfl) ?_
    refine Sx.GT.pure (.int .i64 (i : Int)) 5 (by rfl) (by kernel_rfl) (fun w => by kernel_rfl) ?_
    obtain ⟨b3, f3, es3, eA3, hr3, hl3, hm3⟩ := Sx.old_elem (by decide) j i (by omega)
    subst eA3
    rw [← hx2] at hr3
    obtain rfl := Kit.rd_Slot hr3
    refine Sx.GT.elem 45 129 (.tmp 21) (.tmp 22) 2 16 b3 f3 xs.length d i 6 (by rfl) (by rfl) (by kernel_rfl) (by kernel_rfl) (by kernel_rfl) (by kernel_rfl) (by omega) ?_
    refine Sx.GT.ldr 129 (.tmp 23) b3 (f3 + i * 2) [.int .i64 x2.1, .int .i64 x2.2] 7 (by rfl) (by rfl) (by kernel_rfl) (by kernel_rfl) (fun w S => hm3 w _ S) (by kernel_rfl) (by kernel_rfl) ?_
    refine Sx.GT.alone (Sx.Alone.plain 109 #[.agg #[.int .i64 x2.1, .int .i64 x2.2], .agg #[.int .i64 x2.1, .int .i64 x2.2]] (.bool true) (by rfl) (by kernel_rfl) (fun w => by kernel_rfl) (fun w S => by exact Kit.keq_Slot x2 _) (fun w S => St.pick S [] _ rfl (by decide)) ?_)
    refine Sx.GT.pure (.bool false) 9 (by rfl) (by kernel_rfl) (fun w => by kernel_rfl) ?_
    refine Sx.GT.nil ?_
    refine Sx.E.next ?_
    refine Sx.C.no (by kernel_rfl) (by kernel_rfl) ?_
    refine Sx.C.skip ?_
    refine Sx.E.block_normal ?_
    refine Sx.E.next ?_
    refine Sx.C.region ?_
    refine Sx.G.pure (.int .i64 (i : Int)) (by kernel_rfl) (fun w => by kernel_rfl) ?_
    refine Sx.G.pureq (.int .i64 (IntKind.i64.wrap ((i : Int) + 1))) (.int .i64 ((i + 1 : Nat) : Int)) (by kernel_rfl) (fun w => by kernel_rfl) (congrArg (Value.int .i64) (Sx.wrap_up i (by omega))) ?_
    refine Sx.G.pure (.int .i64 ((i + 1 : Nat) : Int)) (by kernel_rfl) (fun w => by kernel_rfl) ?_
    refine Sx.G.nil ?_
    exact Sx.E.again (i + 1) (by omega) (by omega) (fun a hA => (Sx.Ag.and hA (Sx.Ag.and hA (Sx.Ag.and hA (Sx.Ag.and hA (Sx.Ag.none hA) _ _ (by kernel_rfl)) _ _ (by kernel_rfl)) _ _ (by kernel_rfl)) _ _ (by kernel_rfl))) (fun w S => S)
set_option maxRecDepth 100000 in
set_option maxHeartbeats 4000000 in
theorem ksz_SlotS (xs : (List (Int × Int))) (A : Option Addr) (c : Nat) (left : Int) (w : World) (hw : (rLsw (rPair rInt rInt)).wf xs) (h0 : 0 ≤ left) (h1 : left ≤ 1048576) (h : rdLst (rPair rInt rInt) w 0 w.heap.size xs [.slice A xs.length c]) : Calls Try.prog 76 #[.slice A xs.length c, .int .i64 left] w (fun e w' => ∃ l, e = .returned (.int .i64 l) ∧ Kit.Sz left ((rLsw (rPair rInt rInt)).size xs) l ∧ Below w.heap.size w w') := by
  obtain ⟨hl, hwe⟩ := hw
  simp only [maxLen] at hl
  refine Sx.enter (args := [.slice A xs.length c, .int .i64 left]) Try.func76 rfl Try.ntmps76 rfl ?_
  refine Sx.C.seq ?_
  refine Sx.C.region ?_
  refine Sx.G.pure (.int .i64 0) (by kernel_rfl) (fun w => by kernel_rfl) ?_
  refine Sx.G.nil ?_
  refine Sx.E.next ?_
  refine Sx.C.seq ?_
  refine Sx.C.region ?_
  refine Sx.G.pure (.int .i64 left) (by kernel_rfl) (fun w => by kernel_rfl) ?_
  refine Sx.G.pure (.slice A xs.length c) (by kernel_rfl) (fun w => by kernel_rfl) ?_
  refine Sx.G.pure (.int .i64 ((xs.length : Nat) : Int)) (by kernel_rfl) (fun w => by kernel_rfl) ?_
  refine Sx.G.pureq (.int .i64 (IntKind.i64.wrap (left - ((xs.length : Nat) : Int)))) (.int .i64 (left - ((xs.length : Nat) : Int))) (by kernel_rfl) (fun w => by kernel_rfl) (congrArg (Value.int .i64) (by rw [IntKind.wrap_i64]; omega)) ?_
  refine Sx.G.pure (.int .i64 (left - ((xs.length : Nat) : Int))) (by kernel_rfl) (fun w => by kernel_rfl) ?_
  refine Sx.G.nil ?_
  refine Sx.E.next ?_
  refine Sx.C.seq ?_
  refine Sx.C.seq ?_
  refine Sx.C.region ?_
  refine Sx.G.pure (.int .i64 (left - ((xs.length : Nat) : Int))) (by kernel_rfl) (fun w => by kernel_rfl) ?_
  refine Sx.G.pure (.bool (decide ((left - ((xs.length : Nat) : Int)) < 0))) (by kernel_rfl) (fun w => by kernel_rfl) ?_
  refine Sx.G.nil ?_
  refine Sx.E.next ?_
  cases hc1 : (decide ((left - ((xs.length : Nat) : Int)) < 0))
  · have hb1 := hc1
    replace hc1 := of_decide_eq_false hc1
    refine Sx.C.no (by kernel_rfl) (by kernel_rfl) ?_
    refine Sx.C.skip ?_
    refine Sx.E.next ?_
    refine Sx.C.seq ?_
    refine Sx.C.region ?_
    refine Sx.G.pure (.int .i64 (left - ((xs.length : Nat) : Int))) (by kernel_rfl) (fun w => by kernel_rfl) ?_
    refine Sx.G.pure (.int .i64 (left - ((xs.length : Nat) : Int))) (by kernel_rfl) (fun w => by kernel_rfl) ?_
    refine Sx.G.nil ?_
    refine Sx.E.next ?_
    refine Sx.C.ret ?_
    refine Sx.E.ret1 (.int .i64 (left - ((xs.length : Nat) : Int))) rfl (by kernel_rfl) (fun w S => ?_)
    exact ⟨_, rfl, show Kit.Sz left (xs.length + sizeAll (rPair rInt rInt) xs) _ by rw [sz0_Slot]; unfold Kit.Sz; omega, S.below⟩
  · have hb1 := hc1
    replace hc1 := of_decide_eq_true hc1
    refine Sx.C.yes (by kernel_rfl) (by kernel_rfl) ?_
    refine Sx.C.seq ?_
    refine Sx.C.region ?_
    refine Sx.G.pure (.int .i64 (-1)) (by kernel_rfl) (fun w => by kernel_rfl) ?_
    refine Sx.G.nil ?_
    refine Sx.E.next ?_
    refine Sx.C.ret ?_
    refine Sx.E.then_ret ?_
    refine Sx.E.ret1 (.int .i64 (-1)) rfl (by kernel_rfl) (fun w S => ?_)
    exact ⟨_, rfl, show Kit.Sz left (xs.length + sizeAll (rPair rInt rInt) xs) _ by rw [sz0_Slot]; unfold Kit.Sz; omega, S.below⟩
set_option maxRecDepth 100000 in
set_option maxHeartbeats 4000000 in
theorem kto_SlotS (xs : (List (Int × Int))) (A : Option Addr) (c : Nat) (w : World) (hc : (rLsw (rPair rInt rInt)).cap xs) (h : rdLst (rPair rInt rInt) w 0 w.heap.size xs [.slice A xs.length c]) : Calls Try.prog 78 #[.slice A xs.length c] w (Gives (rLsw (rPair rInt rInt)) w xs) := by
  obtain ⟨hl, hce⟩ := hc
  refine Sx.enter (args := [.slice A xs.length c]) Try.func78 rfl Try.ntmps78 rfl ?_
  refine Sx.C.seq ?_
  refine Sx.C.region ?_
  refine Sx.G.pure (.slice none 0 0) (by kernel_rfl) (fun w => by kernel_rfl) ?_
  refine Sx.G.nil ?_
  refine Sx.E.next ?_
  refine Sx.C.seq ?_
  refine Sx.C.region ?_
  refine Sx.G.pure (.slice A xs.length c) (by kernel_rfl) (fun w => by kernel_rfl) ?_
  refine Sx.G.pure (.int .i64 ((xs.length : Nat) : Int)) (by kernel_rfl) (fun w => by kernel_rfl) ?_
  refine Sx.G.mks (r := (rPair rInt rInt)) ((0, 0) : (Int × Int)) [.int .i64 0, .int .i64 0] 45 129 (.tmp 6) (.tmp 6) 2 16 xs.length rfl (by kernel_rfl) (by kernel_rfl) (by kernel_rfl) rfl rfl (fun w lo hi => Kit.own_mk_Slot w lo hi (0, 0)) (by kernel_rfl) (by kernel_rfl) (by simp only [maxLen]; omega) (by omega) (fun b1 hi1 F1 => ?_)
  refine Sx.G.pure (.slice (some ⟨b1, 0, none⟩) xs.length xs.length) (by kernel_rfl) (fun w => by kernel_rfl) ?_
  refine Sx.G.nil ?_
  refine Sx.E.next ?_
  refine Sx.C.seq ?_
  refine Sx.C.seq ?_
  refine Sx.C.region ?_
  refine Sx.G.pure (.int .i64 0) (by kernel_rfl) (fun w => by kernel_rfl) ?_
  refine Sx.G.nil ?_
  refine Sx.E.next ?_
  refine Sx.C.block ?_
  refine Sx.C.loop (α := Nat × Nat × List Nat) (fun x => x.1 ≤ xs.length) (fun x => [(4, .int .i64 (x.1 : Int)), (0, .slice A xs.length c), (2, .slice none 0 0), (3, .slice (some ⟨b1, 0, none⟩) xs.length xs.length)]) (fun x => [ow (rLsw (rPair rInt rInt)) w.heap.size x.2.1 (xs.take x.1 ++ List.replicate (xs.length - x.1) ((0, 0) : (Int × Int))) [.slice (some ⟨b1, 0, none⟩) xs.length xs.length] x.2.2]) (fun x => xs.length - x.1) (0, hi1, F1) (Nat.zero_le _) (fun a hA => (Sx.Ag.and hA (Sx.Ag.and hA (Sx.Ag.and hA (Sx.Ag.and hA (Sx.Ag.none hA) _ _ (by kernel_rfl)) _ _ (by kernel_rfl)) _ _ (by kernel_rfl)) _ _ (by kernel_rfl))) (fun w' S => by have S2 := Sx.St.widen S 0 rfl (Nat.le_refl _) (S.hi 0 _ rfl); exact S2) (fun x hx => ?_)
  obtain ⟨i, hi, F⟩ := x
  dsimp only at hx
  obtain hi' := hx
  refine Sx.C.seq ?_
  refine Sx.C.seq ?_
  refine Sx.C.region ?_
  refine Sx.G.pure (.int .i64 (i : Int)) (by kernel_rfl) (fun w => by kernel_rfl) ?_
  refine Sx.G.pure (.slice A xs.length c) (by kernel_rfl) (fun w => by kernel_rfl) ?_
  refine Sx.G.pure (.int .i64 ((xs.length : Nat) : Int)) (by kernel_rfl) (fun w => by kernel_rfl) ?_
  refine Sx.G.pure (.bool (decide ((i : Int) < ((xs.length : Nat) : Int)))) (by kernel_rfl) (fun w => by kernel_rfl) ?_
  refine Sx.G.nil ?_
  refine Sx.E.next ?_
  cases hc2 : (decide ((i : Int) < ((xs.length : Nat) : Int)))
  · have hb2 := hc2
    replace hc2 := of_decide_eq_false hc2
    refine Sx.C.no (by kernel_rfl) (by kernel_rfl) ?_
    refine Sx.C.exit ?_
    refine Sx.E.then_exit ?_
    refine Sx.E.then_exit ?_
    refine Sx.E.block_hit ?_
    refine Sx.E.next ?_
    refine Sx.C.seq ?_
    refine Sx.C.region ?_
    refine Sx.G.pure (.slice (some ⟨b1, 0, none⟩) xs.length xs.length) (by kernel_rfl) (fun w => by kernel_rfl) ?_
    refine Sx.G.pure (.slice (some ⟨b1, 0, none⟩) xs.length xs.length) (by kernel_rfl) (fun w => by kernel_rfl) ?_
    refine Sx.G.nil ?_
    refine Sx.E.next ?_
    refine Sx.C.ret ?_
    refine Sx.E.ret1 (.slice (some ⟨b1, 0, none⟩) xs.length xs.length) rfl (by kernel_rfl) (fun w S => ?_)
    have h2' : xs.take i = xs := List.take_of_length_le (by omega)
    rw [h2', show xs.length - i = 0 by omega, List.replicate_zero, List.append_nil] at S
    exact ⟨[_], F, rfl, S.own 0 rfl, S.nodup 0 rfl, S.below⟩
  · have hb2 := hc2
    replace hc2 := of_decide_eq_true hc2
    refine Sx.C.yes (by kernel_rfl) (by kernel_rfl) ?_
    refine Sx.C.skip ?_
    refine Sx.E.next ?_
    refine Sx.C.seq ?_
    have hlt : i < xs.length := by omega
    refine Sx.C.open (r := (rPair rInt rInt)) (pre := xs.take i) (x := ((0, 0) : (Int × Int))) (post := List.replicate (xs.length - (i + 1)) ((0, 0) : (Int × Int))) (by rw [show xs.length - i = (xs.length - (i + 1)) + 1 by omega, List.replicate_succ]) (by decide) (fun b off es F1 Fi F2 eA eF hes hm hmc => ?_)
    obtain ⟨rfl, rfl⟩ : b1 = b ∧ 0 = off := by cases eA; exact ⟨rfl, rfl⟩
    subst eF
    refine Sx.C.know (p := es = [.int .i64 0, .int .i64 0] ∧ Fi = []) (fun w S => Kit.own_Slot (St.at_ S 1 rfl).1) ?_
    rintro ⟨rfl, rfl⟩
    refine Sx.C.block ?_
    refine Sx.C.region ?_
    refine Sx.G.pure (.slice (some ⟨b1, 0, none⟩) xs.length xs.length) (by kernel_rfl) (fun w => by kernel_rfl) ?_
    refine Sx.G.pure (.int .i64 (i : Int)) (by kernel_rfl) (fun w => by kernel_rfl) ?_
    refine Sx.G.pure (.slice A xs.length c) (by kernel_rfl) (fun w => by kernel_rfl) ?_
    refine Sx.G.pure (.int .i64 (i : Int)) (by kernel_rfl) (fun w => by kernel_rfl) ?_
    obtain ⟨b3, f3, es3, eA3, hr3, hl3, hm3⟩ := Sx.old_elem (by decide) h i (by omega)
    subst eA3
    obtain ⟨x3, hx3⟩ : ∃ z_, z_ = (xs[i]'(by omega)) := ⟨_, rfl⟩
    rw [← hx3] at hr3
    obtain rfl := Kit.rd_Slot hr3
    refine Sx.G.elem 58 132 (.tmp 16) (.tmp 17) 2 16 b3 f3 xs.length c i rfl (by kernel_rfl) (by kernel_rfl) (by kernel_rfl) (by kernel_rfl) (by omega) ?_
    refine Sx.G.ldr 132 (.tmp 18) b3 (f3 + i * 2) [.int .i64 x3.1, .int .i64 x3.2] rfl (by kernel_rfl) (by kernel_rfl) (fun w S => hm3 w _ S) (by kernel_rfl) (by kernel_rfl) ?_
    refine Sx.G.plain 112 #[.agg #[.int .i64 x3.1, .int .i64 x3.2]] (.agg #[.int .i64 x3.1, .int .i64 x3.2]) (by kernel_rfl) (fun w => by kernel_rfl) (fun w S => by exact Kit.kto_Slot x3 _) ?_
    refine Sx.G.elem 45 129 (.tmp 14) (.tmp 15) 2 16 b1 0 xs.length xs.length i rfl (by kernel_rfl) (by kernel_rfl) (by kernel_rfl) (by kernel_rfl) (by omega) ?_
    refine Sx.G.hsto (k := i) (size := 2) 129 (.tmp 21) (.tmp 20) b1 ((0 + i * 2) + 0) 0 0 [.int .i64 x3.1, .int .i64 x3.2] [.int .i64 x3.1, .int .i64 x3.2] [Sx.hole (rPair rInt rInt) b1 0 w.heap.size hi (xs.take i) (List.replicate (xs.length - (i + 1)) ((0, 0) : (Int × Int))) [.int .i64 x3.1, .int .i64 x3.2] F1 F2, ow (rPair rInt rInt) w.heap.size hi ((0, 0) : (Int × Int)) [.int .i64 0, .int .i64 0] []] rfl (by kernel_rfl) (by kernel_rfl) (by kernel_rfl) rfl (by rw [List.length_take]; omega) rfl rfl rfl rfl (by kernel_rfl) (by kernel_rfl) (by kernel_rfl) ?_
    refine Sx.G.nil ?_
    refine Sx.E.block_normal ?_
    refine Sx.E.next ?_
    refine Sx.C.region ?_
    refine Sx.G.pure (.int .i64 (i : Int)) (by kernel_rfl) (fun w => by kernel_rfl) ?_
    refine Sx.G.pureq (.int .i64 (IntKind.i64.wrap ((i : Int) + 1))) (.int .i64 ((i + 1 : Nat) : Int)) (by kernel_rfl) (fun w => by kernel_rfl) (congrArg (Value.int .i64) (Sx.wrap_up i (by omega))) ?_
    refine Sx.G.pure (.int .i64 ((i + 1 : Nat) : Int)) (by kernel_rfl) (fun w => by kernel_rfl) ?_
    refine Sx.G.nil ?_
    exact Sx.E.again (i + 1, hi, _) (show i + 1 ≤ xs.length by omega) (show xs.length - (i + 1) < xs.length - i by omega) (fun a hA => (Sx.Ag.and hA (Sx.Ag.and hA (Sx.Ag.and hA (Sx.Ag.and hA (Sx.Ag.none hA) _ _ (by kernel_rfl)) _ _ (by kernel_rfl)) _ _ (by kernel_rfl)) _ _ (by kernel_rfl))) (fun w' S => by
      have S := Sx.St.flat S 1 rfl x3 [.int .i64 x3.1, .int .i64 x3.2] (fun w => Kit.own_mk_Slot w _ _ x3)
      have S3 := Sx.St.close S (by decide) xs.length xs.length (by simp [List.length_take]; omega) hmc
      rw [hx3] at S3
      rw [show xs.take i ++ xs[i] :: List.replicate (xs.length - (i + 1)) ((0, 0) : (Int × Int)) = xs.take (i + 1) ++ List.replicate (xs.length - (i + 1)) ((0, 0) : (Int × Int)) by rw [Kit.take_step hlt, List.append_assoc]; rfl] at S3
      exact S3
      )
set_option maxRecDepth 100000 in
set_option maxHeartbeats 4000000 in
theorem keq_InsS (xs : (List (Int × Int))) (A : Option Addr) (c : Nat) (B : Option Addr) (d : Nat) (w : World) (hc : (rLsw (rPair rInt rInt)).cap xs) (h : rdLst (rPair rInt rInt) w 0 w.heap.size xs [.slice A xs.length c]) (j : rdLst (rPair rInt rInt) w 0 w.heap.size xs [.slice B xs.length d]) : Calls Try.prog 44 #[.slice A xs.length c, .slice B xs.length d] w (fun e w' => e = .returned (.bool true) ∧ Below w.heap.size w w') := by
  obtain ⟨hl, hce⟩ := hc
  refine Sx.enter (args := [.slice A xs.length c, .slice B xs.length d]) Try.func44 rfl Try.ntmps44 rfl ?_
  refine Sx.C.seq ?_
  refine Sx.C.region ?_
  refine Sx.G.pure (.bool false) (by kernel_rfl) (fun w => by kernel_rfl) ?_
  refine Sx.G.nil ?_
  refine Sx.E.next ?_
  refine Sx.C.seq ?_
  refine Sx.C.seq ?_
  refine Sx.C.region ?_
  refine Sx.G.pure (.slice A xs.length c) (by kernel_rfl) (fun w => by kernel_rfl) ?_
  refine Sx.G.pure (.int .i64 ((xs.length : Nat) : Int)) (by kernel_rfl) (fun w => by kernel_rfl) ?_
  refine Sx.G.pure (.slice B xs.length d) (by kernel_rfl) (fun w => by kernel_rfl) ?_
  refine Sx.G.pure (.int .i64 ((xs.length : Nat) : Int)) (by kernel_rfl) (fun w => by kernel_rfl) ?_
  refine Sx.G.pureq (.bool (((xs.length : Nat) : Int) != ((xs.length : Nat) : Int))) (.bool false) (by kernel_rfl) (fun w => by kernel_rfl) (congrArg Value.bool (bne_self_eq_false _)) ?_
  refine Sx.G.nil ?_
  refine Sx.E.next ?_
  refine Sx.C.no (by kernel_rfl) (by kernel_rfl) ?_
  refine Sx.C.skip ?_
  refine Sx.E.next ?_
  refine Sx.C.seq ?_
  refine Sx.C.seq ?_
  refine Sx.C.region ?_
  refine Sx.G.pure (.int .i64 0) (by kernel_rfl) (fun w => by kernel_rfl) ?_
  refine Sx.G.nil ?_
  refine Sx.E.next ?_
  refine Sx.C.block ?_
  refine Sx.C.loop (α := Nat) (fun i => i ≤ xs.length) (fun i => [(5, .int .i64 (i : Int)), (0, .slice A xs.length c), (1, .slice B xs.length d), (4, .bool false)]) (fun i => []) (fun i => xs.length - i) 0 (Nat.zero_le _) (fun a hA => (Sx.Ag.and hA (Sx.Ag.and hA (Sx.Ag.and hA (Sx.Ag.and hA (Sx.Ag.none hA) _ _ (by kernel_rfl)) _ _ (by kernel_rfl)) _ _ (by kernel_rfl)) _ _ (by kernel_rfl))) (fun w S => S) (fun i hx => ?_)
  refine Sx.C.seq ?_
  refine Sx.C.seq ?_
  refine Sx.C.region ?_
  refine Sx.G.pure (.int .i64 (i : Int)) (by kernel_rfl) (fun w => by kernel_rfl) ?_
  refine Sx.G.pure (.slice A xs.length c) (by kernel_rfl) (fun w => by kernel_rfl) ?_
  refine Sx.G.pure (.int .i64 ((xs.length : Nat) : Int)) (by kernel_rfl) (fun w => by kernel_rfl) ?_
  refine Sx.G.pure (.bool (decide ((i : Int) < ((xs.length : Nat) : Int)))) (by kernel_rfl) (fun w => by kernel_rfl) ?_
  refine Sx.G.nil ?_
  refine Sx.E.next ?_
  cases hc1 : (decide ((i : Int) < ((xs.length : Nat) : Int)))
  · have hb1 := hc1
    replace hc1 := of_decide_eq_false hc1
    refine Sx.C.no (by kernel_rfl) (by kernel_rfl) ?_
    refine Sx.C.exit ?_
    refine Sx.E.then_exit ?_
    refine Sx.E.then_exit ?_
    refine Sx.E.block_hit ?_
    refine Sx.E.next ?_
    refine Sx.C.seq ?_
    refine Sx.C.region ?_
    refine Sx.G.pure (.bool true) (by kernel_rfl) (fun w => by kernel_rfl) ?_
    refine Sx.G.nil ?_
    refine Sx.E.next ?_
    refine Sx.C.ret ?_
    refine Sx.E.ret1 (.bool true) rfl (by kernel_rfl) (fun w S => ?_)
    exact ⟨rfl, S.below⟩
  · have hb1 := hc1
    replace hc1 := of_decide_eq_true hc1
    refine Sx.C.yes (by kernel_rfl) (by kernel_rfl) ?_
    refine Sx.C.skip ?_
    refine Sx.E.next ?_
    refine Sx.C.seq ?_
    refine Sx.C.block ?_
    refine Sx.C.seq ?_
    refine Sx.C.draw (.take 0 (.take 1 (.take 2 (.take 3 (.take 4 (.take 5 (.take 6 (.take 7 (.alone 8 (.take 9 .nil)))))))))) [] (fun w S => St.pick S [] _ rfl (by decide)) (by kernel_rfl) (by kernel_rfl) (by kernel_rfl) ?_
    refine Sx.GT.pure (.slice A xs.length c) 0 (by rfl) (by kernel_rfl) (fun w => by kernel_rfl) ?_
    refine Sx.GT.pure (.int .i64 (i : Int)) 1 (by rfl) (by kernel_rfl) (fun w => by kernel_rfl) ?_
    obtain ⟨b2, f2, es2, eA2, hr2, hl2, hm2⟩ := Sx.old_elem (by decide) h i (by omega)
    subst eA2
    obtain ⟨x2, hx2⟩ : ∃ z_, z_ = (xs[i]'(by omega)) := ⟨_, rfl⟩
    rw [← hx2] at hr2
    obtain rfl := Kit.rd_Ins hr2
    refine Sx.GT.elem 44 111 (.tmp 17) (.tmp 18) 2 16 b2 f2 xs.length c i 2 (by rfl) (by rfl) (by kernel_rfl) (by kernel_rfl) (by kernel_rfl) (by kernel_rfl) (by omega) ?_
    refine Sx.GT.ldr 111 (.tmp 19) b2 (f2 + i * 2) [.int .i64 x2.1, .int .i64 x2.2] 3 (by rfl) (by rfl) (by kernel_rfl) (by kernel_rfl) (fun w S => hm2 w _ S) (by kernel_rfl) (by kernel_rfl) ?_
    refine Sx.GT.pure (.slice B xs.length d) 4 (by rfl) (by kernel_rfl) (fun w => by kernel_rfl) ?_
    refine Sx.GT.pure (.int .i64 (i : Int)) 5 (by rfl) (by kernel_rfl) (fun w => by kernel_rfl) ?_
    obtain ⟨b3, f3, es3, eA3, hr3, hl3, hm3⟩ := Sx.old_elem (by decide) j i (by omega)
    subst eA3
    rw [← hx2] at hr3
    obtain rfl := Kit.rd_Ins hr3
    refine Sx.GT.elem 44 111 (.tmp 21) (.tmp 22) 2 16 b3 f3 xs.length d i 6 (by rfl) (by rfl) (by kernel_rfl) (by kernel_rfl) (by kernel_rfl) (by kernel_rfl) (by omega) ?_
    refine Sx.GT.ldr 111 (.tmp 23) b3 (f3 + i * 2) [.int .i64 x2.1, .int .i64 x2.2] 7 (by rfl) (by rfl) (by kernel_rfl) (by kernel_rfl) (fun w S => hm3 w _ S) (by kernel_rfl) (by kernel_rfl) ?_
    refine Sx.GT.alone (Sx.Alone.plain 97 #[.agg #[.int .i64 x2.1, .int .i64 x2.2], .agg #[.int .i64 x2.1, .int .i64 x2.2]] (.bool true) (by rfl) (by kernel_rfl) (fun w => by kernel_rfl) (fun w S => by exact Kit.keq_Ins x2 _) (fun w S => St.pick S [] _ rfl (by decide)) ?_)
    refine Sx.GT.pure (.bool false) 9 (by rfl) (by kernel_rfl) (fun w => by kernel_rfl) ?_
    refine Sx.GT.nil ?_
    refine Sx.E.next ?_
    refine Sx.C.no (by kernel_rfl) (by kernel_rfl) ?_
    refine Sx.C.skip ?_
    refine Sx.E.block_normal ?_
    refine Sx.E.next ?_
    refine Sx.C.region ?_
    refine Sx.G.pure (.int .i64 (i : Int)) (by kernel_rfl) (fun w => by kernel_rfl) ?_
    refine Sx.G.pureq (.int .i64 (IntKind.i64.wrap ((i : Int) + 1))) (.int .i64 ((i + 1 : Nat) : Int)) (by kernel_rfl) (fun w => by kernel_rfl) (congrArg (Value.int .i64) (Sx.wrap_up i (by omega))) ?_
    refine Sx.G.pure (.int .i64 ((i + 1 : Nat) : Int)) (by kernel_rfl) (fun w => by kernel_rfl) ?_
    refine Sx.G.nil ?_
    exact Sx.E.again (i + 1) (by omega) (by omega) (fun a hA => (Sx.Ag.and hA (Sx.Ag.and hA (Sx.Ag.and hA (Sx.Ag.and hA (Sx.Ag.none hA) _ _ (by kernel_rfl)) _ _ (by kernel_rfl)) _ _ (by kernel_rfl)) _ _ (by kernel_rfl))) (fun w S => S)
set_option maxRecDepth 100000 in
set_option maxHeartbeats 4000000 in
theorem ksz_InsS (xs : (List (Int × Int))) (A : Option Addr) (c : Nat) (left : Int) (w : World) (hw : (rLsw (rPair rInt rInt)).wf xs) (h0 : 0 ≤ left) (h1 : left ≤ 1048576) (h : rdLst (rPair rInt rInt) w 0 w.heap.size xs [.slice A xs.length c]) : Calls Try.prog 35 #[.slice A xs.length c, .int .i64 left] w (fun e w' => ∃ l, e = .returned (.int .i64 l) ∧ Kit.Sz left ((rLsw (rPair rInt rInt)).size xs) l ∧ Below w.heap.size w w') := by
  obtain ⟨hl, hwe⟩ := hw
  simp only [maxLen] at hl
  refine Sx.enter (args := [.slice A xs.length c, .int .i64 left]) Try.func35 rfl Try.ntmps35 rfl ?_
  refine Sx.C.seq ?_
  refine Sx.C.region ?_
  refine Sx.G.pure (.int .i64 0) (by kernel_rfl) (fun w => by kernel_rfl) ?_
  refine Sx.G.nil ?_
  refine Sx.E.next ?_
  refine Sx.C.seq ?_
  refine Sx.C.region ?_
  refine Sx.G.pure (.int .i64 left) (by kernel_rfl) (fun w => by kernel_rfl) ?_
  refine Sx.G.pure (.slice A xs.length c) (by kernel_rfl) (fun w => by kernel_rfl) ?_
  refine Sx.G.pure (.int .i64 ((xs.length : Nat) : Int)) (by kernel_rfl) (fun w => by kernel_rfl) ?_
  refine Sx.G.pureq (.int .i64 (IntKind.i64.wrap (left - ((xs.length : Nat) : Int)))) (.int .i64 (left - ((xs.length : Nat) : Int))) (by kernel_rfl) (fun w => by kernel_rfl) (congrArg (Value.int .i64) (by rw [IntKind.wrap_i64]; omega)) ?_
  refine Sx.G.pure (.int .i64 (left - ((xs.length : Nat) : Int))) (by kernel_rfl) (fun w => by kernel_rfl) ?_
  refine Sx.G.nil ?_
  refine Sx.E.next ?_
  refine Sx.C.seq ?_
  refine Sx.C.seq ?_
  refine Sx.C.region ?_
  refine Sx.G.pure (.int .i64 (left - ((xs.length : Nat) : Int))) (by kernel_rfl) (fun w => by kernel_rfl) ?_
  refine Sx.G.pure (.bool (decide ((left - ((xs.length : Nat) : Int)) < 0))) (by kernel_rfl) (fun w => by kernel_rfl) ?_
  refine Sx.G.nil ?_
  refine Sx.E.next ?_
  cases hc1 : (decide ((left - ((xs.length : Nat) : Int)) < 0))
  · have hb1 := hc1
    replace hc1 := of_decide_eq_false hc1
    refine Sx.C.no (by kernel_rfl) (by kernel_rfl) ?_
    refine Sx.C.skip ?_
    refine Sx.E.next ?_
    refine Sx.C.seq ?_
    refine Sx.C.region ?_
    refine Sx.G.pure (.int .i64 (left - ((xs.length : Nat) : Int))) (by kernel_rfl) (fun w => by kernel_rfl) ?_
    refine Sx.G.pure (.int .i64 (left - ((xs.length : Nat) : Int))) (by kernel_rfl) (fun w => by kernel_rfl) ?_
    refine Sx.G.nil ?_
    refine Sx.E.next ?_
    refine Sx.C.ret ?_
    refine Sx.E.ret1 (.int .i64 (left - ((xs.length : Nat) : Int))) rfl (by kernel_rfl) (fun w S => ?_)
    exact ⟨_, rfl, show Kit.Sz left (xs.length + sizeAll (rPair rInt rInt) xs) _ by rw [sz0_Ins]; unfold Kit.Sz; omega, S.below⟩
  · have hb1 := hc1
    replace hc1 := of_decide_eq_true hc1
    refine Sx.C.yes (by kernel_rfl) (by kernel_rfl) ?_
    refine Sx.C.seq ?_
    refine Sx.C.region ?_
    refine Sx.G.pure (.int .i64 (-1)) (by kernel_rfl) (fun w => by kernel_rfl) ?_
    refine Sx.G.nil ?_
    refine Sx.E.next ?_
    refine Sx.C.ret ?_
    refine Sx.E.then_ret ?_
    refine Sx.E.ret1 (.int .i64 (-1)) rfl (by kernel_rfl) (fun w S => ?_)
    exact ⟨_, rfl, show Kit.Sz left (xs.length + sizeAll (rPair rInt rInt) xs) _ by rw [sz0_Ins]; unfold Kit.Sz; omega, S.below⟩
set_option maxRecDepth 100000 in
set_option maxHeartbeats 4000000 in
theorem kto_InsS (xs : (List (Int × Int))) (A : Option Addr) (c : Nat) (w : World) (hc : (rLsw (rPair rInt rInt)).cap xs) (h : rdLst (rPair rInt rInt) w 0 w.heap.size xs [.slice A xs.length c]) : Calls Try.prog 38 #[.slice A xs.length c] w (Gives (rLsw (rPair rInt rInt)) w xs) := by
  obtain ⟨hl, hce⟩ := hc
  refine Sx.enter (args := [.slice A xs.length c]) Try.func38 rfl Try.ntmps38 rfl ?_
  refine Sx.C.seq ?_
  refine Sx.C.region ?_
  refine Sx.G.pure (.slice none 0 0) (by kernel_rfl) (fun w => by kernel_rfl) ?_
  refine Sx.G.nil ?_
  refine Sx.E.next ?_
  refine Sx.C.seq ?_
  refine Sx.C.region ?_
  refine Sx.G.pure (.slice A xs.length c) (by kernel_rfl) (fun w => by kernel_rfl) ?_
  refine Sx.G.pure (.int .i64 ((xs.length : Nat) : Int)) (by kernel_rfl) (fun w => by kernel_rfl) ?_
  refine Sx.G.mks (r := (rPair rInt rInt)) ((0, 0) : (Int × Int)) [.int .i64 0, .int .i64 0] 44 111 (.tmp 6) (.tmp 6) 2 16 xs.length rfl (by kernel_rfl) (by kernel_rfl) (by kernel_rfl) rfl rfl (fun w lo hi => Kit.own_mk_Ins w lo hi (0, 0)) (by kernel_rfl) (by kernel_rfl) (by simp only [maxLen]; omega) (by omega) (fun b1 hi1 F1 => ?_)
  refine Sx.G.pure (.slice (some ⟨b1, 0, none⟩) xs.length xs.length) (by kernel_rfl) (fun w => by kernel_rfl) ?_
  refine Sx.G.nil ?_
  refine Sx.E.next ?_
  refine Sx.C.seq ?_
  refine Sx.C.seq ?_
  refine Sx.C.region ?_
  refine Sx.G.pure (.int .i64 0) (by kernel_rfl) (fun w => by kernel_rfl) ?_
  refine Sx.G.nil ?_
  refine Sx.E.next ?_
  refine Sx.C.block ?_
  refine Sx.C.loop (α := Nat × Nat × List Nat) (fun x => x.1 ≤ xs.length) (fun x => [(4, .int .i64 (x.1 : Int)), (0, .slice A xs.length c), (2, .slice none 0 0), (3, .slice (some ⟨b1, 0, none⟩) xs.length xs.length)]) (fun x => [ow (rLsw (rPair rInt rInt)) w.heap.size x.2.1 (xs.take x.1 ++ List.replicate (xs.length - x.1) ((0, 0) : (Int × Int))) [.slice (some ⟨b1, 0, none⟩) xs.length xs.length] x.2.2]) (fun x => xs.length - x.1) (0, hi1, F1) (Nat.zero_le _) (fun a hA => (Sx.Ag.and hA (Sx.Ag.and hA (Sx.Ag.and hA (Sx.Ag.and hA (Sx.Ag.none hA) _ _ (by kernel_rfl)) _ _ (by kernel_rfl)) _ _ (by kernel_rfl)) _ _ (by kernel_rfl))) (fun w' S => by have S2 := Sx.St.widen S 0 rfl (Nat.le_refl _) (S.hi 0 _ rfl); exact S2) (fun x hx => ?_)
  obtain ⟨i, hi, F⟩ := x
  dsimp only at hx
  obtain hi' := hx
  refine Sx.C.seq ?_
  refine Sx.C.seq ?_
  refine Sx.C.region ?_
  refine Sx.G.pure (.int .i64 (i : Int)) (by kernel_rfl) (fun w => by kernel_rfl) ?_
  refine Sx.G.pure (.slice A xs.length c) (by kernel_rfl) (fun w => by kernel_rfl) ?_
  refine Sx.G.pure (.int .i64 ((xs.length : Nat) : Int)) (by kernel_rfl) (fun w => by kernel_rfl) ?_
  refine Sx.G.pure (.bool (decide ((i : Int) < ((xs.length : Nat) : Int)))) (by kernel_rfl) (fun w => by kernel_rfl) ?_
  refine Sx.G.nil ?_
  refine Sx.E.next ?_
  cases hc2 : (decide ((i : Int) < ((xs.length : Nat) : Int)))
  · have hb2 := hc2
    replace hc2 := of_decide_eq_false hc2
    refine Sx.C.no (by kernel_rfl) (by kernel_rfl) ?_
    refine Sx.C.exit ?_
    refine Sx.E.then_exit ?_
    refine Sx.E.then_exit ?_
    refine Sx.E.block_hit ?_
    refine Sx.E.next ?_
    refine Sx.C.seq ?_
    refine Sx.C.region ?_
    refine Sx.G.pure (.slice (some ⟨b1, 0, none⟩) xs.length xs.length) (by kernel_rfl) (fun w => by kernel_rfl) ?_
    refine Sx.G.pure (.slice (some ⟨b1, 0, none⟩) xs.length xs.length) (by kernel_rfl) (fun w => by kernel_rfl) ?_
    refine Sx.G.nil ?_
    refine Sx.E.next ?_
    refine Sx.C.ret ?_
    refine Sx.E.ret1 (.slice (some ⟨b1, 0, none⟩) xs.length xs.length) rfl (by kernel_rfl) (fun w S => ?_)
    have h2' : xs.take i = xs := List.take_of_length_le (by omega)
    rw [h2', show xs.length - i = 0 by omega, List.replicate_zero, List.append_nil] at S
    exact ⟨[_], F, rfl, S.own 0 rfl, S.nodup 0 rfl, S.below⟩
  · have hb2 := hc2
    replace hc2 := of_decide_eq_true hc2
    refine Sx.C.yes (by kernel_rfl) (by kernel_rfl) ?_
    refine Sx.C.skip ?_
    refine Sx.E.next ?_
    refine Sx.C.seq ?_
    have hlt : i < xs.length := by omega
    refine Sx.C.open (r := (rPair rInt rInt)) (pre := xs.take i) (x := ((0, 0) : (Int × Int))) (post := List.replicate (xs.length - (i + 1)) ((0, 0) : (Int × Int))) (by rw [show xs.length - i = (xs.length - (i + 1)) + 1 by omega, List.replicate_succ]) (by decide) (fun b off es F1 Fi F2 eA eF hes hm hmc => ?_)
    obtain ⟨rfl, rfl⟩ : b1 = b ∧ 0 = off := by cases eA; exact ⟨rfl, rfl⟩
    subst eF
    refine Sx.C.know (p := es = [.int .i64 0, .int .i64 0] ∧ Fi = []) (fun w S => Kit.own_Ins (St.at_ S 1 rfl).1) ?_
    rintro ⟨rfl, rfl⟩
    refine Sx.C.block ?_
    refine Sx.C.region ?_
    refine Sx.G.pure (.slice (some ⟨b1, 0, none⟩) xs.length xs.length) (by kernel_rfl) (fun w => by kernel_rfl) ?_
    refine Sx.G.pure (.int .i64 (i : Int)) (by kernel_rfl) (fun w => by kernel_rfl) ?_
    refine Sx.G.pure (.slice A xs.length c) (by kernel_rfl) (fun w => by kernel_rfl) ?_
    refine Sx.G.pure (.int .i64 (i : Int)) (by kernel_rfl) (fun w => by kernel_rfl) ?_
    obtain ⟨b3, f3, es3, eA3, hr3, hl3, hm3⟩ := Sx.old_elem (by decide) h i (by omega)
    subst eA3
    obtain ⟨x3, hx3⟩ : ∃ z_, z_ = (xs[i]'(by omega)) := ⟨_, rfl⟩
    rw [← hx3] at hr3
    obtain rfl := Kit.rd_Ins hr3
    refine Sx.G.elem 57 113 (.tmp 16) (.tmp 17) 2 16 b3 f3 xs.length c i rfl (by kernel_rfl) (by kernel_rfl) (by kernel_rfl) (by kernel_rfl) (by omega) ?_
    refine Sx.G.ldr 113 (.tmp 18) b3 (f3 + i * 2) [.int .i64 x3.1, .int .i64 x3.2] rfl (by kernel_rfl) (by kernel_rfl) (fun w S => hm3 w _ S) (by kernel_rfl) (by kernel_rfl) ?_
    refine Sx.G.plain 92 #[.agg #[.int .i64 x3.1, .int .i64 x3.2]] (.agg #[.int .i64 x3.1, .int .i64 x3.2]) (by kernel_rfl) (fun w => by kernel_rfl) (fun w S => by exact Kit.kto_Ins x3 _) ?_
    refine Sx.G.elem 44 111 (.tmp 14) (.tmp 15) 2 16 b1 0 xs.length xs.length i rfl (by kernel_rfl) (by kernel_rfl) (by kernel_rfl) (by kernel_rfl) (by omega) ?_
    refine Sx.G.hsto (k := i) (size := 2) 111 (.tmp 21) (.tmp 20) b1 ((0 + i * 2) + 0) 0 0 [.int .i64 x3.1, .int .i64 x3.2] [.int .i64 x3.1, .int .i64 x3.2] [Sx.hole (rPair rInt rInt) b1 0 w.heap.size hi (xs.take i) (List.replicate (xs.length - (i + 1)) ((0, 0) : (Int × Int))) [.int .i64 x3.1, .int .i64 x3.2] F1 F2, ow (rPair rInt rInt) w.heap.size hi ((0, 0) : (Int × Int)) [.int .i64 0, .int .i64 0] []] rfl (by kernel_rfl) (by kernel_rfl) (by kernel_rfl) rfl (by rw [List.length_take]; omega) rfl rfl rfl rfl (by kernel_rfl) (by kernel_rfl) (by kernel_rfl) ?_
    refine Sx.G.nil ?_
    refine Sx.E.block_normal ?_
    refine Sx.E.next ?_
    refine Sx.C.region ?_
    refine Sx.G.pure (.int .i64 (i : Int)) (by kernel_rfl) (fun w => by kernel_rfl) ?_
    refine Sx.G.pureq (.int .i64 (IntKind.i64.wrap ((i : Int) + 1))) (.int .i64 ((i + 1 : Nat) : Int)) (by kernel_rfl) (fun w => by kernel_rfl) (congrArg (Value.int .i64) (Sx.wrap_up i (by omega))) ?_
    refine Sx.G.pure (.int .i64 ((i + 1 : Nat) : Int)) (by kernel_rfl) (fun w => by kernel_rfl) ?_
    refine Sx.G.nil ?_
    exact Sx.E.again (i + 1, hi, _) (show i + 1 ≤ xs.length by omega) (show xs.length - (i + 1) < xs.length - i by omega) (fun a hA => (Sx.Ag.and hA (Sx.Ag.and hA (Sx.Ag.and hA (Sx.Ag.and hA (Sx.Ag.none hA) _ _ (by kernel_rfl)) _ _ (by kernel_rfl)) _ _ (by kernel_rfl)) _ _ (by kernel_rfl))) (fun w' S => by
      have S := Sx.St.flat S 1 rfl x3 [.int .i64 x3.1, .int .i64 x3.2] (fun w => Kit.own_mk_Ins w _ _ x3)
      have S3 := Sx.St.close S (by decide) xs.length xs.length (by simp [List.length_take]; omega) hmc
      rw [hx3] at S3
      rw [show xs.take i ++ xs[i] :: List.replicate (xs.length - (i + 1)) ((0, 0) : (Int × Int)) = xs.take (i + 1) ++ List.replicate (xs.length - (i + 1)) ((0, 0) : (Int × Int)) by rw [Kit.take_step hlt, List.append_assoc]; rfl] at S3
      exact S3
      )
end Go.Proofs.Ytldgadmpclgfhaa.Kit
namespace Go.Proofs.Ytldgadmpclgfhaa.Slots
set_option maxRecDepth 100000
open Go.ChangeShapes Go.WideShapes Go.ChangeAt Go.RowKit
open Go.Proofs.Ytldgadmpclgfhaa.Base Go.Proofs.Ytldgadmpclgfhaa.Mem
/-- The cells of a list of slots. -/
def scells : List (Int × Int) → List Value
  | [] => []
  | p :: l => .int .i64 p.1 :: .int .i64 p.2 :: scells l
theorem scells_len : ∀ l, (scells l).length = 2 * l.length
  | [] => rfl
  | p :: l => by simp [scells, scells_len l]; omega
theorem scells_fst : ∀ (l : List (Int × Int)) (k : Nat) (h : k < l.length), (scells l)[k * 2]? = some (.int .i64 l[k].1)
  | p :: l, 0, _ => rfl
  | p :: l, k + 1, h => by
    have := scells_fst l k (by simpa using h)
    rw [show (k + 1) * 2 = k * 2 + 1 + 1 by omega]
    simpa [scells] using this
theorem scells_snd : ∀ (l : List (Int × Int)) (k : Nat) (h : k < l.length), (scells l)[k * 2 + 1]? = some (.int .i64 l[k].2)
  | p :: l, 0, _ => rfl
  | p :: l, k + 1, h => by
    have := scells_snd l k (by simpa using h)
    rw [show (k + 1) * 2 + 1 = k * 2 + 1 + 1 + 1 by omega]
    simpa [scells] using this
theorem slot_at {w : World} {lo hi : Nat} {A : Option Addr} {l : List (Int × Int)} (h : Lies w lo hi A (scells l)) (k : Nat) (hk : k < l.length) :
    ∃ b off, A = some ⟨b, off, none⟩ ∧ lo ≤ b ∧ b < hi ∧ w.cell? ⟨b, off + k * 2, none⟩ = some (.int .i64 l[k].1) ∧ w.cell? ⟨b, off + k * 2 + 1, none⟩ = some (.int .i64 l[k].2) := by
  obtain ⟨b, off, e, x, y, hc⟩ := h.at_ (by rw [scells_len]; omega)
  exact ⟨b, off, e, x, y, hc _ _ (scells_fst l k hk), by rw [Nat.add_assoc]; exact hc _ _ (scells_snd l k hk)⟩
theorem grown_of_below {w w' : World} (h : Below w.heap.size w w') (row : Option Nat) : w.grownBy w' row := ⟨h.os, h.tape, h.output, h.size, fun i hi _ => h.block i hi⟩
end Go.Proofs.Ytldgadmpclgfhaa.Slots
namespace Go.Proofs.Ytldgadmpclgfhaa.Ints
set_option maxRecDepth 100000
open Go.ChangeShapes Go.WideShapes Go.ChangeAt Go.RowKit
open Go.Proofs.Ytldgadmpclgfhaa.Base Go.Proofs.Ytldgadmpclgfhaa.Mem
/-- The cells of a list of numbers. -/
def ncells (l : List Int) : List Value := l.map (Value.int .i64)
theorem ncells_len (l : List Int) : (ncells l).length = l.length := by simp [ncells]
theorem ncells_at (l : List Int) (k : Nat) (h : k < l.length) : (ncells l)[k]? = some (.int .i64 l[k]) := by simp [ncells, h]
theorem int_at {w : World} {lo hi : Nat} {A : Option Addr} {l : List Int} (h : Lies w lo hi A (ncells l)) (k : Nat) (hk : k < l.length) :
    ∃ b off, A = some ⟨b, off, none⟩ ∧ lo ≤ b ∧ b < hi ∧ w.cell? ⟨b, off + k, none⟩ = some (.int .i64 l[k]) := by
  obtain ⟨b, off, e, x, y, hc⟩ := h.at_ (by rw [ncells_len]; omega)
  exact ⟨b, off, e, x, y, hc _ _ (ncells_at l k hk)⟩
end Go.Proofs.Ytldgadmpclgfhaa.Ints
namespace Go.Proofs.Ytldgadmpclgfhaa.Rights
set_option maxRecDepth 100000
open Go.ChangeShapes Go.WideShapes Go.ChangeAt Go.RowKit
/-- Valid rights. -/
def rok (r : Int) : Bool := decide (0 ≤ r ∧ r ≤ 3)
/-- The one set contains the other. -/
def has (a b : Int) : Bool := bits .and .i64 a b == b
def both (a b : Int) : Int := if rok a = true ∧ rok b = true then bits .and .i64 a b else 0
end Go.Proofs.Ytldgadmpclgfhaa.Rights
namespace Go.Proofs.Ytldgadmpclgfhaa.Base
set_option maxRecDepth 100000
open Go.ChangeShapes Go.WideShapes Go.ChangeAt Go.RowKit
def inB (n a b : Int) : Bool := decide (a ≤ n) && decide (n ≤ b)
end Go.Proofs.Ytldgadmpclgfhaa.Base
namespace Go.Proofs.Ytldgadmpclgfhaa.Slots
set_option maxRecDepth 100000
open Go.ChangeShapes Go.WideShapes Go.ChangeAt Go.RowKit
open Go.Proofs.Ytldgadmpclgfhaa.Base Go.Proofs.Ytldgadmpclgfhaa.Mem Go.Proofs.Ytldgadmpclgfhaa.Ints
abbrev Sl := Int × Int
end Go.Proofs.Ytldgadmpclgfhaa.Slots
namespace Go.Proofs.Ytldgadmpclgfhaa.Slots
set_option maxRecDepth 100000
open Go.ChangeShapes Go.WideShapes Go.ChangeAt Go.RowKit Go.Deep
open Go.Proofs.Ytldgadmpclgfhaa.Base Go.Proofs.Ytldgadmpclgfhaa.Mem
theorem laid : laidOutB Try.prog = true := by kernel_rfl
section
variable {H : Type} {enc : TypeId × Value → H}
end
end Go.Proofs.Ytldgadmpclgfhaa.Slots
namespace Go.Proofs.Ytldgadmpclgfhaa.Inss
set_option maxRecDepth 100000
open Go.ChangeShapes Go.WideShapes Go.ChangeAt Go.RowKit
open Go.Proofs.Ytldgadmpclgfhaa.Base Go.Proofs.Ytldgadmpclgfhaa.Mem Go.Proofs.Ytldgadmpclgfhaa.Data
set_option linter.unusedVariables false
set_option linter.unusedSimpArgs false
abbrev JT := Int × Int
/-- The cells of a list of them. -/
def jcells : List JT → List Value
  | [] => []
  | p :: l => .int .i64 p.1 :: .int .i64 p.2 :: jcells l
theorem jcells_len : ∀ l, (jcells l).length = 2 * l.length
  | [] => rfl
  | p :: l => by simp [jcells, jcells_len l]; omega
theorem jcells_at0 : ∀ (l : List JT) (k : Nat) (h : k < l.length), (jcells l)[k * 2]? = some (.int .i64 l[k].1)
  | p :: l, 0, _ => rfl
  | p :: l, k + 1, h => by
    have := jcells_at0 l k (by simpa using h)
    rw [show (k + 1) * 2 = k * 2 + 1 + 1 by omega]
    simpa [jcells] using this
theorem jcells_at1 : ∀ (l : List JT) (k : Nat) (h : k < l.length), (jcells l)[k * 2 + 1]? = some (.int .i64 l[k].2)
  | p :: l, 0, _ => rfl
  | p :: l, k + 1, h => by
    have := jcells_at1 l k (by simpa using h)
    rw [show (k + 1) * 2 + 1 = k * 2 + 1 + 1 + 1 by omega]
    simpa [jcells] using this
theorem j_at {w : World} {lo hi : Nat} {A : Option Addr} {l : List JT} (h : Lies w lo hi A (jcells l)) (k : Nat) (hk : k < l.length) :
    ∃ b off, A = some ⟨b, off, none⟩ ∧ lo ≤ b ∧ b < hi ∧ w.cell? ⟨b, off + k * 2, none⟩ = some (.int .i64 l[k].1) ∧ w.cell? ⟨b, off + k * 2 + 1, none⟩ = some (.int .i64 l[k].2) := by
  obtain ⟨b, off, e, x, y, hc⟩ := h.at_ (by rw [jcells_len]; omega)
  exact ⟨b, off, e, x, y, hc _ _ (jcells_at0 l k hk), by rw [Nat.add_assoc]; exact hc _ _ (jcells_at1 l k hk)⟩
def wfJ (s : JT) : Prop := (Lit.int .i64 s.1).wf = true ∧ (Lit.int .i64 s.2).wf = true
def wfJL (l : List JT) : Prop := ∀ s ∈ l, wfJ s
section
variable {w : World} {lo hi : Nat}
end
section
variable {H : Type} {enc : TypeId × Value → H}
end
end Go.Proofs.Ytldgadmpclgfhaa.Inss
namespace Go.Proofs.Ytldgadmpclgfhaa.Grid
set_option maxRecDepth 100000
open Go.ChangeShapes Go.WideShapes Go.ChangeAt Go.RowKit
open Go.Proofs.Ytldgadmpclgfhaa.Base Go.Proofs.Ytldgadmpclgfhaa.Mem Go.Proofs.Ytldgadmpclgfhaa.Ints
abbrev Hd := Option Addr × Nat
/-- A page's header as the outer slice holds it. -/
def hcell (r : List Int) (h : Hd) : Value := .slice h.1 r.length h.2
def hcells (M : List (List Int)) (hs : List Hd) : List Value := List.zipWith hcell M hs
def blk (A : Option Addr) : Option Nat := A.map Addr.block
theorem hcells_at {M : List (List Int)} {hs : List Hd} {i : Nat} {r : List Int} {h : Hd} (h1 : M[i]? = some r) (h2 : hs[i]? = some h) : (hcells M hs)[i]? = some (.slice h.1 r.length h.2) := by
  simp [hcells, List.getElem?_zipWith, h1, h2, hcell]
theorem hcells_snoc {M : List (List Int)} {hs : List Hd} (r : List Int) (h : Hd) (hl : hs.length = M.length) : hcells (M ++ [r]) (hs ++ [h]) = hcells M hs ++ [.slice h.1 r.length h.2] := by
  unfold hcells
  rw [List.zipWith_append (by rw [hl])]
  rfl
/-- The pages, each in memory of its own. -/
def Pages (w : World) (lo hi : Nat) (M : List (List Int)) (hs : List Hd) : Prop :=
  hs.length = M.length ∧ (∀ (i : Nat) (r : List Int) (h : Hd), M[i]? = some r → hs[i]? = some h → Owned w lo hi h.1 (ncells r)) ∧
  (∀ (i j : Nat) (r r' : List Int) (h h' : Hd), i ≠ j → M[i]? = some r → hs[i]? = some h → M[j]? = some r' → hs[j]? = some h' → r ≠ [] → r' ≠ [] → blk h.1 ≠ blk h'.1)
/-- No page lies in the block. -/
def Avoids (g : Option Nat) (M : List (List Int)) (hs : List Hd) : Prop := ∀ (i : Nat) (r : List Int) (h : Hd), M[i]? = some r → hs[i]? = some h → r ≠ [] → blk h.1 ≠ g
/-- The same, read only: pages may share. -/
def Reads (w : World) (lo hi : Nat) (M : List (List Int)) (hs : List Hd) : Prop :=
  hs.length = M.length ∧ ∀ (i : Nat) (r : List Int) (h : Hd), M[i]? = some r → hs[i]? = some h → Lies w lo hi h.1 (ncells r)
section
variable {w w' : World} {lo hi lo' hi' : Nat} {M : List (List Int)} {hs : List Hd}
theorem Pages.reads (h : Pages w lo hi M hs) : Reads w lo hi M hs := ⟨h.1, fun i r k h1 h2 => (h.2.1 i r k h1 h2).1⟩
theorem Pages.nil : Pages w lo hi [] [] := ⟨rfl, fun i r h h1 => by simp at h1, fun i j r r' h h' _ h1 => by simp at h1⟩
theorem Avoids.nil {g : Option Nat} : Avoids g [] [] := fun i r h h1 => by simp at h1
theorem Pages.kept (h : Pages w lo hi M hs) (hb : ∀ k, lo ≤ k → k < hi → w'.heap[k]? = w.heap[k]?) : Pages w' lo hi M hs := ⟨h.1, fun i r k h1 h2 => (h.2.1 i r k h1 h2).kept hb, h.2.2⟩
theorem Pages.below {B : Nat} (h : Pages w lo hi M hs) (hb : Below B w w') (hB : hi ≤ B) : Pages w' lo hi M hs := h.kept fun k _ h2 => hb.block k (by omega)
theorem Pages.wide (h : Pages w lo hi M hs) (h1 : lo' ≤ lo) (h2 : hi ≤ hi') : Pages w lo' hi' M hs := ⟨h.1, fun i r k a b => (h.2.1 i r k a b).wide h1 h2, h.2.2⟩
theorem Reads.kept (h : Reads w lo hi M hs) (hb : ∀ k, lo ≤ k → k < hi → w'.heap[k]? = w.heap[k]?) : Reads w' lo hi M hs := ⟨h.1, fun i r k h1 h2 => (h.2 i r k h1 h2).kept hb⟩
theorem Reads.below {B : Nat} (h : Reads w lo hi M hs) (hb : Below B w w') (hB : hi ≤ B) : Reads w' lo hi M hs := h.kept fun k _ h2 => hb.block k (by omega)
theorem Reads.wide (h : Reads w lo hi M hs) (h1 : lo' ≤ lo) (h2 : hi ≤ hi') : Reads w lo' hi' M hs := ⟨h.1, fun i r k a b => (h.2 i r k a b).wide h1 h2⟩
/-- A page's block lies in the interval. -/
theorem Pages.block (h : Pages w lo hi M hs) {i : Nat} {r : List Int} {k : Hd} (h1 : M[i]? = some r) (h2 : hs[i]? = some k) (hr : r ≠ []) : ∃ b off, k.1 = some ⟨b, off, none⟩ ∧ lo ≤ b ∧ b < hi := by
  obtain ⟨b, off, e, x, y, _⟩ := (h.2.1 i r k h1 h2).1.at_ (by rw [ncells_len]; exact List.length_pos_iff.2 hr)
  exact ⟨b, off, e, x, y⟩
/-- One page more, in later memory. -/
theorem Pages.snoc (h : Pages w lo hi M hs) {r : List Int} {k : Hd} (ho : Owned w lo' hi' k.1 (ncells r)) (h1 : hi ≤ lo') (h2 : lo ≤ lo') (h3 : hi ≤ hi') : Pages w lo hi' (M ++ [r]) (hs ++ [k]) := by
  have hlen := h.1
  have old : ∀ (i : Nat) (r' : List Int) (k' : Hd), (M ++ [r])[i]? = some r' → (hs ++ [k])[i]? = some k' → (M[i]? = some r' ∧ hs[i]? = some k') ∨ (i = M.length ∧ r' = r ∧ k' = k) := fun i r' k' a b => by
    rcases Nat.lt_trichotomy i M.length with hi | hi | hi
    · left
      rw [List.getElem?_append_left hi] at a
      rw [List.getElem?_append_left (by omega)] at b
      exact ⟨a, b⟩
    · right
      subst hi
      rw [List.getElem?_append_right (Nat.le_refl _), Nat.sub_self] at a
      rw [List.getElem?_append_right (by omega), hlen, Nat.sub_self] at b
      simp at a b
      exact ⟨rfl, a.symm, b.symm⟩
    · rw [List.getElem?_eq_none (by simp; omega)] at a
      cases a
  have far : ∀ (i : Nat) (r' : List Int) (k' : Hd), M[i]? = some r' → hs[i]? = some k' → r' ≠ [] → r ≠ [] → blk k'.1 ≠ blk k.1 := fun i r' k' a b c d e => by
    obtain ⟨x, ox, ex, _, hx⟩ := h.block a b c
    obtain ⟨y, oy, ey, hy, _, _⟩ := ho.1.at_ (by rw [ncells_len]; exact List.length_pos_iff.2 d)
    rw [ex, ey] at e
    simp [blk] at e
    omega
  refine ⟨by simp [hlen], fun i r' k' a b => ?_, fun i j r1 r2 k1 k2 hij a b c d e f => ?_⟩
  · rcases old i r' k' a b with ⟨a', b'⟩ | ⟨_, rfl, rfl⟩
    · exact (h.2.1 i r' k' a' b').wide (Nat.le_refl _) h3
    · exact ho.wide h2 (Nat.le_refl _)
  · rcases old i r1 k1 a b with ⟨a', b'⟩ | ⟨ei, rfl, rfl⟩
    · rcases old j r2 k2 c d with ⟨c', d'⟩ | ⟨ej, rfl, rfl⟩
      · exact h.2.2 i j r1 r2 k1 k2 hij a' b' c' d' e f
      · exact far i r1 k1 a' b' e f
    · rcases old j r2 k2 c d with ⟨c', d'⟩ | ⟨ej, rfl, rfl⟩
      · exact (far j r2 k2 c' d' f e).symm
      · exact absurd (ei.trans ej.symm) hij
/-- One page is written anew at its own length: the others are as they were. -/
theorem Pages.turn (h : Pages w lo hi M hs) {i : Nat} {r r' : List Int} {k : Hd} (h1 : M[i]? = some r) (h2 : hs[i]? = some k) (hr : r.length = r'.length) {b off : Nat} (hk : k.1 = some ⟨b, off, none⟩) (hne : r ≠ [])
    (ho : Owned w' lo hi k.1 (ncells r')) (ht : ∀ q, lo ≤ q → q < hi → q ≠ b → w'.heap[q]? = w.heap[q]?) : Pages w' lo hi (M.set i r') hs := by
  have hi' : i < M.length := (List.getElem?_eq_some_iff.1 h1).1
  have old : ∀ (j : Nat) (x : List Int), (M.set i r')[j]? = some x → (j = i ∧ x = r') ∨ (j ≠ i ∧ M[j]? = some x) := fun j x a => by
    by_cases e : j = i
    · subst e
      rw [List.getElem?_set_self hi'] at a
      exact .inl ⟨rfl, by simpa using a.symm⟩
    · rw [List.getElem?_set_ne (fun e' => e e'.symm)] at a
      exact .inr ⟨e, a⟩
  have hne' : r' ≠ [] := fun e => hne (List.length_eq_zero_iff.1 (by rw [hr, e]; rfl))
  refine ⟨by rw [List.length_set]; exact h.1, fun j x q a c => ?_, fun j m x y q q' hjm a c d e f g => ?_⟩
  · rcases old j x a with ⟨rfl, rfl⟩ | ⟨hji, a'⟩
    · rw [h2] at c
      cases c
      exact ho
    · by_cases hx : x = []
      · subst hx
        exact ⟨Lies.nil, fun _ _ _ hn => absurd hn (by simp [ncells])⟩
      · obtain ⟨b', off', e', x1, x2⟩ := h.block a' c hx
        have hbb : b' ≠ b := fun e2 => h.2.2 j i x r q k hji a' c h1 h2 hx hne (by rw [e', hk, e2]; rfl)
        have hoj := h.2.1 j x q a' c
        rw [e'] at hoj ⊢
        have tight : Owned w b' (b' + 1) (some ⟨b', off', none⟩) (ncells x) := ⟨fun j' u hu => by
          obtain ⟨b2, o2, e2, _, _, z⟩ := hoj.1 j' u hu
          cases e2
          exact ⟨b', off', rfl, Nat.le_refl _, Nat.lt_succ_self _, z⟩, hoj.2⟩
        exact (tight.kept fun q2 q3 q4 => ht q2 (by omega) (by omega) (by omega)).wide x1 (by omega)
  · rcases old j x a with ⟨rfl, rfl⟩ | ⟨hji, a'⟩
    · rcases old m y d with ⟨rfl, rfl⟩ | ⟨hmi, d'⟩
      · exact absurd rfl hjm
      · exact h.2.2 j m r y q q' hjm h1 c d' e hne g
    · rcases old m y d with ⟨rfl, rfl⟩ | ⟨hmi, d'⟩
      · exact h.2.2 j m x r q q' hjm a' c h1 e f hne
      · exact h.2.2 j m x y q q' hjm a' c d' e f g
end
end Go.Proofs.Ytldgadmpclgfhaa.Grid
namespace Go.Proofs.Ytldgadmpclgfhaa.Grid
set_option maxRecDepth 100000
open Go.ChangeShapes Go.WideShapes Go.ChangeAt Go.RowKit
open Go.Proofs.Ytldgadmpclgfhaa.Base Go.Proofs.Ytldgadmpclgfhaa.Mem Go.Proofs.Ytldgadmpclgfhaa.Ints
/-- A memory that is only read: its pages may share. -/
def RG (w : World) (lo hi : Nat) (A : Option Addr) (M : List (List Int)) (hs : List Hd) : Prop := Lies w lo hi A (hcells M hs) ∧ Reads w lo hi M hs
/-- A memory with memory of its own. -/
def OG (w : World) (lo hi : Nat) (A : Option Addr) (M : List (List Int)) (hs : List Hd) : Prop := Owned w lo hi A (hcells M hs) ∧ Pages w lo hi M hs ∧ Avoids (blk A) M hs
section
variable {w w' : World} {lo hi lo' hi' : Nat} {A : Option Addr} {M : List (List Int)} {hs : List Hd}
theorem RG.kept (h : RG w lo hi A M hs) (hb : ∀ k, lo ≤ k → k < hi → w'.heap[k]? = w.heap[k]?) : RG w' lo hi A M hs := ⟨h.1.kept hb, h.2.kept hb⟩
theorem OG.kept (h : OG w lo hi A M hs) (hb : ∀ k, lo ≤ k → k < hi → w'.heap[k]? = w.heap[k]?) : OG w' lo hi A M hs := ⟨h.1.kept hb, h.2.1.kept hb, h.2.2⟩
theorem RG.below {B : Nat} (h : RG w lo hi A M hs) (hb : Below B w w') (hB : hi ≤ B) : RG w' lo hi A M hs := h.kept fun k _ h2 => hb.block k (by omega)
theorem OG.below {B : Nat} (h : OG w lo hi A M hs) (hb : Below B w w') (hB : hi ≤ B) : OG w' lo hi A M hs := h.kept fun k _ h2 => hb.block k (by omega)
theorem RG.wide (h : RG w lo hi A M hs) (h1 : lo' ≤ lo) (h2 : hi ≤ hi') : RG w lo' hi' A M hs := ⟨h.1.wide h1 h2, h.2.wide h1 h2⟩
theorem OG.wide (h : OG w lo hi A M hs) (h1 : lo' ≤ lo) (h2 : hi ≤ hi') : OG w lo' hi' A M hs := ⟨h.1.wide h1 h2, h.2.1.wide h1 h2, h.2.2⟩
theorem RG.drewN (h : RG w lo hi A M hs) (n : Nat) : RG (w.drewN n) lo hi A M hs := h
theorem OG.drewN (h : OG w lo hi A M hs) (n : Nat) : OG (w.drewN n) lo hi A M hs := h
theorem OG.turned {lo2 hi2 : Nat} (h : OG w lo hi A M hs) (hb : ∀ k, k < w.heap.size → (k < lo2 ∨ hi2 ≤ k) → w'.heap[k]? = w.heap[k]?) (hh : hi ≤ w.heap.size) (hd : hi ≤ lo2 ∨ hi2 ≤ lo) : OG w' lo hi A M hs :=
  h.kept fun k h1 h2 => hb k (by omega) (by omega)
theorem RG.turned {lo2 hi2 : Nat} (h : RG w lo hi A M hs) (hb : ∀ k, k < w.heap.size → (k < lo2 ∨ hi2 ≤ k) → w'.heap[k]? = w.heap[k]?) (hh : hi ≤ w.heap.size) (hd : hi ≤ lo2 ∨ hi2 ≤ lo) : RG w' lo hi A M hs :=
  h.kept fun k h1 h2 => hb k (by omega) (by omega)
theorem hd_at (h : hs.length = M.length) {i : Nat} (hi : i < M.length) : ∃ k : Hd, hs[i]? = some k := ⟨hs[i]'(by omega), List.getElem?_eq_getElem _⟩
/-- One page of a memory that is read. -/
theorem RG.page (h : RG w lo hi A M hs) (i : Nat) (hi' : i < M.length) : ∃ b off B c, A = some ⟨b, off, none⟩ ∧ lo ≤ b ∧ b < hi ∧ w.cell? ⟨b, off + i, none⟩ = some (.slice B M[i].length c) ∧ Lies w lo hi B (ncells M[i]) := by
  obtain ⟨k, hk⟩ := hd_at h.2.1 hi'
  obtain ⟨b, off, e, x, y, z⟩ := h.1 i _ (hcells_at (List.getElem?_eq_getElem hi') hk)
  exact ⟨b, off, k.1, k.2, e, x, y, z, h.2.2 i _ k (List.getElem?_eq_getElem hi') hk⟩
theorem Owned.keptBut {g : Nat} {cs : List Value} (h : Owned w lo hi A cs) (ha : ∀ b off, A = some ⟨b, off, none⟩ → 0 < cs.length → b ≠ g) (hb : ∀ k, lo ≤ k → k < hi → k ≠ g → w'.heap[k]? = w.heap[k]?) : Owned w' lo hi A cs := by
  by_cases hc : 0 < cs.length
  · obtain ⟨b, off, e, x, y, z⟩ := h.1.at_ hc
    subst e
    have hbg := ha b off rfl hc
    have tight : Owned w b (b + 1) (some ⟨b, off, none⟩) cs := ⟨fun j u hu => ⟨b, off, rfl, Nat.le_refl _, Nat.lt_succ_self _, z j u hu⟩, h.2⟩
    exact (tight.kept fun q q3 q4 => hb q (by omega) (by omega) (by omega)).wide x (by omega)
  · have : cs = [] := List.eq_nil_of_length_eq_zero (by omega)
    subst this
    exact ⟨Lies.nil, fun _ _ _ hn => absurd hn (by simp)⟩
theorem Pages.keptBut {g : Nat} (h : Pages w lo hi M hs) (ha : Avoids (some g) M hs) (hb : ∀ k, lo ≤ k → k < hi → k ≠ g → w'.heap[k]? = w.heap[k]?) : Pages w' lo hi M hs :=
  ⟨h.1, fun i r k h1 h2 => Owned.keptBut (h.2.1 i r k h1 h2) (fun b off e hn e2 => ha i r k h1 h2 (fun er => by subst er; simp [ncells] at hn) (by rw [e, e2]; rfl)) hb, h.2.2⟩
theorem Avoids.of_lo {g : Nat} (h : Pages w lo hi M hs) (hg : g < lo ∨ hi ≤ g) : Avoids (some g) M hs := fun i r k h1 h2 hr e => by
  obtain ⟨b, off, e', x, y⟩ := h.block h1 h2 hr
  rw [e'] at e
  simp [blk] at e
  omega
theorem snoc_cases (hlen : hs.length = M.length) {r : List Int} {k : Hd} (i : Nat) (r' : List Int) (k' : Hd) (a : (M ++ [r])[i]? = some r') (b : (hs ++ [k])[i]? = some k') : (M[i]? = some r' ∧ hs[i]? = some k') ∨ (i = M.length ∧ r' = r ∧ k' = k) := by
  rcases Nat.lt_trichotomy i M.length with hi | hi | hi
  · left
    rw [List.getElem?_append_left hi] at a
    rw [List.getElem?_append_left (by omega)] at b
    exact ⟨a, b⟩
  · right
    subst hi
    rw [List.getElem?_append_right (Nat.le_refl _), Nat.sub_self] at a
    rw [List.getElem?_append_right (by omega), hlen, Nat.sub_self] at b
    simp at a b
    exact ⟨rfl, a.symm, b.symm⟩
  · rw [List.getElem?_eq_none (by simp; omega)] at a
    cases a
theorem Avoids.snoc {g : Option Nat} (h : Avoids g M hs) (hlen : hs.length = M.length) {r : List Int} {k : Hd} (hk : r ≠ [] → blk k.1 ≠ g) : Avoids g (M ++ [r]) (hs ++ [k]) := fun i r' k' a b hr => by
  rcases snoc_cases hlen i r' k' a b with ⟨a', b'⟩ | ⟨_, rfl, rfl⟩
  · exact h i r' k' a' b' hr
  · exact hk hr
theorem hcells_set {i : Nat} {r : List Int} (hi : i < M.length) (hr : r.length = M[i].length) : hcells (M.set i r) hs = hcells M hs := by
  apply List.ext_getElem?
  intro j
  simp only [hcells, List.getElem?_zipWith, List.getElem?_set]
  by_cases e : i = j
  · subst e
    simp only [if_true, List.getElem?_eq_getElem hi]
    cases hs[i]? <;> simp [hi, hcell, hr]
  · simp only [if_neg e]
theorem hcells_put {i : Nat} {r : List Int} {k : Hd} (hl : hs.length = M.length) (hi : i < M.length) : hcells (M.set i r) (hs.set i k) = (hcells M hs).set i (.slice k.1 r.length k.2) := by
  apply List.ext_getElem?
  intro j
  simp only [hcells, List.getElem?_zipWith, List.getElem?_set, List.length_zipWith]
  by_cases e : i = j
  · subst e
    simp [hi, hl, hcell]
  · simp only [if_neg e]
/-- A page that is to be written at its own length. -/
theorem OG.write (h : OG w lo hi A M hs) (hh : hi ≤ w.heap.size) (i : Nat) (hi' : i < M.length) : ∃ b off B c lo' hi', A = some ⟨b, off, none⟩ ∧ b < hi ∧ w.cell? ⟨b, off + i, none⟩ = some (.slice B M[i].length c) ∧ Owned w lo' hi' B (ncells M[i]) ∧
    ∀ w' r', r'.length = M[i].length → Owned w' lo' hi' B (ncells r') → Turned lo' hi' w w' → OG w' lo hi A (M.set i r') hs ∧ Turned lo hi w w' := by
  obtain ⟨k, hk⟩ := hd_at h.2.1.1 hi'
  obtain ⟨b, off, e, x, y, z⟩ := h.1.1 i _ (hcells_at (List.getElem?_eq_getElem hi') hk)
  have ho := h.2.1.2.1 i _ k (List.getElem?_eq_getElem hi') hk
  by_cases hr : M[i] = []
  · refine ⟨b, off, k.1, k.2, 0, 0, e, y, z, ?_, fun w' r' hl _ ht => ?_⟩
    · rw [hr]
      exact ⟨Lies.nil, fun _ _ _ hn => absurd hn (by simp [ncells])⟩
    · have hr' : r' = M[i] := by
        rw [hr] at hl ⊢
        exact List.eq_nil_of_length_eq_zero (by simpa using hl)
      subst hr'
      rw [List.set_getElem_self]
      exact ⟨h.kept fun q _ q2 => ht.block q (by omega) (by omega), ⟨ht.os, ht.tape, ht.output, ht.size, fun q q1 _ => ht.block q q1 (by omega)⟩⟩
  · obtain ⟨b', off', e', x', y', z'⟩ := ho.1.at_ (by rw [ncells_len]; exact List.length_pos_iff.2 hr)
    have hbb : b' ≠ b := fun e2 => h.2.2 i _ k (List.getElem?_eq_getElem hi') hk hr (by rw [e', e, e2]; rfl)
    refine ⟨b, off, k.1, k.2, b', b' + 1, e, y, z, ?_, fun w' r' hl ho' ht => ?_⟩
    · rw [e'] at ho ⊢
      exact ⟨fun j u hu => ⟨b', off', rfl, Nat.le_refl _, Nat.lt_succ_self _, z' j u hu⟩, ho.2⟩
    · have hkeep : ∀ q, lo ≤ q → q < hi → q ≠ b' → w'.heap[q]? = w.heap[q]? := fun q _ q2 q3 => ht.block q (by omega) (by omega)
      refine ⟨⟨?_, h.2.1.turn (List.getElem?_eq_getElem hi') hk hl.symm e' hr (ho'.wide x' (by omega)) hkeep, ?_⟩, ⟨ht.os, ht.tape, ht.output, ht.size, fun q q1 q2 => ht.block q q1 (by omega)⟩⟩
      · rw [hcells_set hi' hl]
        exact Owned.keptBut h.1 (fun b2 off2 e2 _ e3 => by rw [e] at e2; cases e2; exact hbb e3.symm) hkeep
      · intro j r2 k2 h1 h2 hr2
        by_cases e2 : j = i
        · subst e2
          rw [hk] at h2
          cases h2
          rw [e', e]
          intro e3
          simp [blk] at e3
          exact hbb e3
        · rw [List.getElem?_set_ne (fun e3 => e2 e3.symm)] at h1
          exact h.2.2 j r2 k2 h1 h2 hr2
/-- A page is put in another's place. -/
theorem OG.put {b off lo2 hi2 : Nat} (h : OG w lo hi (some ⟨b, off, none⟩) M hs) (i : Nat) (hi' : i < M.length) {r : List Int} {k : Hd} (ho : Owned w lo2 hi2 k.1 (ncells r)) (h1 : hi ≤ lo2) (h2 : lo ≤ lo2) (h3 : hi ≤ hi2) :
    OG (w.setCell ⟨b, off + i, none⟩ (.slice k.1 r.length k.2)) lo hi2 (some ⟨b, off, none⟩) (M.set i r) (hs.set i k) := by
  have hl := h.2.1.1
  obtain ⟨k0, hk0⟩ := hd_at hl hi'
  obtain ⟨b', off', e, x, y, z⟩ := h.1.1 i _ (hcells_at (List.getElem?_eq_getElem hi') hk0)
  cases e
  have hkeep : ∀ q, q ≠ b → (w.setCell ⟨b, off + i, none⟩ (.slice k.1 r.length k.2)).heap[q]? = w.heap[q]? := fun q hq => Below.heap_setCell w ⟨b, off + i, none⟩ _ q hq
  have old : ∀ (j : Nat) (r' : List Int) (k' : Hd), (M.set i r)[j]? = some r' → (hs.set i k)[j]? = some k' → (j ≠ i ∧ M[j]? = some r' ∧ hs[j]? = some k') ∨ (j = i ∧ r' = r ∧ k' = k) := fun j r' k' a c => by
    by_cases e : j = i
    · subst e
      rw [List.getElem?_set_self hi'] at a
      rw [List.getElem?_set_self (by omega)] at c
      exact .inr ⟨rfl, by simpa using a.symm, by simpa using c.symm⟩
    · rw [List.getElem?_set_ne (fun e' => e e'.symm)] at a c
      exact .inl ⟨e, a, c⟩
  have far : ∀ (j : Nat) (r' : List Int) (k' : Hd), M[j]? = some r' → hs[j]? = some k' → r' ≠ [] → r ≠ [] → blk k'.1 ≠ blk k.1 := fun j r' k' a c d f e => by
    obtain ⟨x1, ox, ex, _, hx⟩ := h.2.1.block a c d
    obtain ⟨y1, oy, ey, hy, _, _⟩ := ho.1.at_ (by rw [ncells_len]; exact List.length_pos_iff.2 f)
    rw [ex, ey] at e
    simp [blk] at e
    omega
  have near : r ≠ [] → ∀ b2 off2, k.1 = some ⟨b2, off2, none⟩ → b2 ≠ b := fun hr b2 off2 e e2 => by
    obtain ⟨y1, oy, ey, hy, _, _⟩ := ho.1.at_ (by rw [ncells_len]; exact List.length_pos_iff.2 hr)
    rw [e] at ey
    cases ey
    omega
  refine ⟨?_, ⟨by simp [hl], fun j r' k' a c => ?_, fun j m r1 r2 k1 k2 hjm a c d e f g => ?_⟩, fun j r' k' a c hr => ?_⟩
  · rw [hcells_put hl hi']
    exact (h.1.set i _).wide (Nat.le_refl _) h3
  · rcases old j r' k' a c with ⟨_, a', c'⟩ | ⟨_, rfl, rfl⟩
    · exact (Owned.keptBut (g := b) (h.2.1.2.1 j r' k' a' c') (fun b2 off2 e hn e2 => h.2.2 j r' k' a' c' (fun er => by subst er; simp [ncells] at hn) (by rw [e, e2]; rfl)) (fun q _ _ hq => hkeep q hq)).wide (Nat.le_refl _) h3
    · exact (Owned.keptBut (g := b) ho (fun b2 off2 e hn => near (fun er => by subst er; simp [ncells] at hn) b2 off2 e) (fun q _ _ hq => hkeep q hq)).wide h2 (Nat.le_refl _)
  · rcases old j r1 k1 a c with ⟨_, a', c'⟩ | ⟨ej, rfl, rfl⟩
    · rcases old m r2 k2 d e with ⟨_, d', e'⟩ | ⟨em, rfl, rfl⟩
      · exact h.2.1.2.2 j m r1 r2 k1 k2 hjm a' c' d' e' f g
      · exact far j r1 k1 a' c' f g
    · rcases old m r2 k2 d e with ⟨_, d', e'⟩ | ⟨em, rfl, rfl⟩
      · exact (far m r2 k2 d' e' g f).symm
      · exact absurd (ej.trans em.symm) hjm
  · rcases old j r' k' a c with ⟨_, a', c'⟩ | ⟨ej, rfl, rfl⟩
    · exact h.2.2 j r' k' a' c' hr
    · intro e
      obtain ⟨y1, oy, ey, hy, _, _⟩ := ho.1.at_ (by rw [ncells_len]; exact List.length_pos_iff.2 hr)
      exact near hr y1 oy ey (by rw [ey] at e; simpa [blk] using e)
/-- A memory that grows page by page. -/
structure Built (T : TypeId) (w0 w : World) (g cap k : Nat) (M : List (List Int)) (hs : List Hd) : Prop where
  row : w.ownsRow w0.heap.size T 1 (.slice (some ⟨g, 0, none⟩) k cap) k (hcells M hs)
  pages : Pages w w0.heap.size w.heap.size M hs
  avoid : Avoids (some g) M hs
  below : Below w0.heap.size w0 w
theorem Built.start (T : TypeId) (w0 : World) : Built T w0 (w0.alloc (.cells #[] T)) w0.heap.size 0 0 [] [] :=
  ⟨World.ownsRow_made w0 #[] 0 (Nat.le_refl _) (Nat.zero_le _) rfl, Pages.nil, Avoids.nil, (Below.refl _ _).alloc (Nat.le_refl _) _⟩
theorem Built.step {T : TypeId} {w0 w1 w2 : World} {g cap k g' cap' c : Nat} {B : Option Addr} {r : List Int} {o : Obj} (h : Built T w0 w g cap k M hs) (hb : Below w.heap.size w w1) (ho : Owned w1 w.heap.size w1.heap.size B (ncells r))
    (hrow : w2.ownsRow w0.heap.size T 1 (.slice (some ⟨g', 0, none⟩) (k + 1) cap') (k + 1) (hcells M hs ++ [.slice B r.length c])) (hgrow : (w1.alloc o).grownBy w2 (some g)) (hg : some g = some g' ∨ g' = (w1.alloc o).heap.size) :
    Built T w0 w2 g' cap' (k + 1) (M ++ [r]) (hs ++ [(B, c)]) := by
  have hl := h.pages.1
  have hglt := (h.row.lt g rfl).2
  have hsz := hb.size
  have h12 : w1.heap.size < w2.heap.size := by
    have := hgrow.size
    simp at this
    omega
  have hblock : ∀ q, q < w1.heap.size → q ≠ g → w2.heap[q]? = w1.heap[q]? := fun q hq hqg => by
    rw [hgrow.block q (by simp; omega) (by simp; exact hqg)]
    exact ((Below.refl w1.heap.size w1).alloc (Nat.le_refl _) o).block q hq
  have p1 : Pages w1 w0.heap.size w.heap.size M hs := h.pages.below hb (Nat.le_refl _)
  have p2 := p1.snoc (k := (B, c)) ho (Nat.le_refl _) h.below.size hsz
  have a2 : Avoids (some g) (M ++ [r]) (hs ++ [(B, c)]) := h.avoid.snoc hl fun hr e => by
    obtain ⟨y1, oy, ey, hy, _, _⟩ := ho.1.at_ (by rw [ncells_len]; exact List.length_pos_iff.2 hr)
    simp only [ey] at e
    simp [blk] at e
    omega
  refine ⟨?_, (p2.keptBut a2 (fun q _ q2 q3 => hblock q q2 q3)).wide (Nat.le_refl _) (Nat.le_of_lt h12), ?_, ?_⟩
  · rw [hcells_snoc r (B, c) hl]
    exact hrow
  · rcases hg with e | e
    · cases e
      exact a2
    · subst e
      exact Avoids.of_lo p2 (.inr (by simp))
  · have hgl := (h.row.lt g rfl).1
    exact ((h.below.trans (hb.mono h.below.size)).alloc (Nat.le_trans h.below.size hsz) o).grown hgrow (by have := h.below.size; simp; omega) (fun j hj => by cases hj; exact hgl)
end
end Go.Proofs.Ytldgadmpclgfhaa.Grid
namespace Go.Proofs.Ytldgadmpclgfhaa.Grid
set_option maxRecDepth 100000
open Go.ChangeShapes Go.WideShapes Go.ChangeAt Go.RowKit
open Go.Proofs.Ytldgadmpclgfhaa.Base Go.Proofs.Ytldgadmpclgfhaa.Mem Go.Proofs.Ytldgadmpclgfhaa.Ints
theorem grown_of_below {w w' : World} (h : Below w.heap.size w w') (row : Option Nat) : w.grownBy w' row := ⟨h.os, h.tape, h.output, h.size, fun i hi _ => h.block i hi⟩
theorem take_set1 {xs : List Value} {k : Nat} {ys : List Value} {u : Value} (h : xs.take k = ys) (hl : k < xs.length) : (xs.set k u).take (k + 1) = ys ++ [u] := by
  rw [← h, List.take_succ_eq_append_getElem (by simpa using hl)]
  simp [List.take_set_of_le]
/-- A memory made at its full length whose pages are put one by one. -/
structure Filled (T : TypeId) (w0 w : World) (n k : Nat) (xs : List Value) (M : List (List Int)) (hs : List Hd) : Prop where
  row : w.ownsRow w0.heap.size T 1 (.slice (some ⟨w0.heap.size, 0, none⟩) n n) n xs
  cells : xs.take k = hcells M hs
  pages : Pages w (w0.heap.size + 1) w.heap.size M hs
  below : Below w0.heap.size w0 w
  size : w0.heap.size < w.heap.size
  len : M.length = k
theorem Filled.step {T : TypeId} {w0 w w1 : World} {n k c : Nat} {xs : List Value} {M : List (List Int)} {hs : List Hd} {B : Option Addr} {r : List Int} (h : Filled T w0 w n k xs M hs) (hk : k < n) (hb : Below w.heap.size w w1) (ho : Owned w1 w.heap.size w1.heap.size B (ncells r)) :
    Filled T w0 (w1.setCell ⟨w0.heap.size, k, none⟩ (.slice B r.length c)) n (k + 1) (xs.set k (.slice B r.length c)) (M ++ [r]) (hs ++ [(B, c)]) := by
  have hl := h.pages.1
  have h0 := h.size
  have hr1 := h.row.kept (grown_of_below hb none) (.inr (by simp [Value.ownBlock]))
  refine ⟨(hr1.stored k _).1, ?_, ?_, ((h.below.trans (hb.mono h.below.size)).setCell (p := ⟨w0.heap.size, k, none⟩) (Nat.le_refl _) _), by have := hb.size; simp; omega, by simp [h.len]⟩
  · rw [hcells_snoc r (B, c) hl]
    exact take_set1 h.cells (by have := h.row.1; omega)
  · have p2 := (h.pages.below hb (Nat.le_refl _)).snoc (k := (B, c)) ho (Nat.le_refl _) h0 hb.size
    have e : (w1.setCell ⟨w0.heap.size, k, none⟩ (.slice B r.length c)).heap.size = w1.heap.size := by simp
    rw [e]
    exact p2.kept fun q q1 _ => Below.heap_setCell w1 ⟨w0.heap.size, k, none⟩ _ q (by show q ≠ w0.heap.size; omega)
theorem Filled.start {T : TypeId} {w0 w : World} {n : Nat} {xs : List Value} (hr : w.ownsRow w0.heap.size T 1 (.slice (some ⟨w0.heap.size, 0, none⟩) n n) n xs) (hg : w0.grownBy w none) : Filled T w0 w n 0 xs [] [] :=
  ⟨hr, rfl, Pages.nil, (Below.refl _ _).grown hg (Nat.le_refl _) (fun _ h => by cases h), (hr.lt _ rfl).2, rfl⟩
def tot : List (List Int) → Nat
  | [] => 0
  | r :: M => r.length + tot M
theorem tot_append : ∀ M N, tot (M ++ N) = tot M + tot N
  | [], N => by simp [tot]
  | r :: M, N => by simp [tot, tot_append M N]; omega
theorem tot_take {M : List (List Int)} {k : Nat} (hk : k < M.length) : tot (M.take (k + 1)) = tot (M.take k) + M[k].length := by
  rw [List.take_succ_eq_append_getElem hk, tot_append]; simp [tot]
theorem tot_take_le (M : List (List Int)) (k : Nat) : tot (M.take k) ≤ tot M := by
  have := tot_append (M.take k) (M.drop k)
  rw [List.take_append_drop] at this
  omega
theorem tot_at {M : List (List Int)} {k : Nat} (hk : k < M.length) : M[k].length ≤ tot M := by
  have := tot_take hk
  have := tot_take_le M (k + 1)
  omega
/-- The bounds that the laws keep. -/
structure capG (M : List (List Int)) : Prop where
  len : M.length ≤ 1048576
  all : tot M ≤ 1048580
  page : ∀ r ∈ M, r.length ≤ 1048576
theorem capG.at_ {M : List (List Int)} (h : capG M) {k : Nat} (hk : k < M.length) : M[k].length ≤ 1048576 := h.page _ (List.getElem_mem _)
theorem capG.of {M : List (List Int)} (h : M.length + tot M ≤ 1048576) : capG M := ⟨by omega, by omega, fun r hr => by
  obtain ⟨k, hk, rfl⟩ := List.getElem_of_mem hr
  have := tot_at hk
  omega⟩
end Go.Proofs.Ytldgadmpclgfhaa.Grid
namespace Go.Proofs.Ytldgadmpclgfhaa.Part
set_option maxRecDepth 100000
open Go.ChangeShapes Go.WideShapes Go.ChangeAt Go.RowKit
open Go.Proofs.Ytldgadmpclgfhaa.Base Go.Proofs.Ytldgadmpclgfhaa.Mem Go.Proofs.Ytldgadmpclgfhaa.Slots Go.Proofs.Ytldgadmpclgfhaa.Data Go.Proofs.Ytldgadmpclgfhaa.Ints Go.Proofs.Ytldgadmpclgfhaa.Inss Go.Proofs.Ytldgadmpclgfhaa.Grid
set_option linter.unusedVariables false
set_option linter.unusedSimpArgs false
/-- A slice's value that is read only: its n elements have the cells cs. -/
def SR (w : World) (lo hi : Nat) (cs : List Value) (n : Nat) (P : Value) : Prop := ∃ A c, P = .slice A n c ∧ Lies w lo hi A cs
/-- .. in memory of its own, its length within its capacity. -/
def SO (w : World) (lo hi : Nat) (cs : List Value) (n : Nat) (P : Value) : Prop := ∃ A c, P = .slice A n c ∧ n ≤ c ∧ Owned w lo hi A cs
/-- The block that a slice's value leads to. -/
def bl : Value → List Nat
  | .slice (some a) n _ => if n = 0 then [] else [a.block]
  | _ => []
/-- The blocks F alone have turned. -/
structure Chg (w w' : World) (F : List Nat) : Prop where
  os : w'.os = w.os
  tape : w'.tape = w.tape
  output : w'.output = w.output
  size : w.heap.size ≤ w'.heap.size
  block : ∀ k, k < w.heap.size → k ∉ F → w'.heap[k]? = w.heap[k]?
section
variable {w w' w'' : World} {lo hi lo' hi' n : Nat} {cs : List Value} {P : Value} {F G : List Nat}
theorem SO.reads (h : SO w lo hi cs n P) : SR w lo hi cs n P := by
  obtain ⟨A, c, h1, _, h2⟩ := h
  exact ⟨A, c, h1, h2.1⟩
theorem SR.kept (h : SR w lo hi cs n P) (hb : ∀ k, lo ≤ k → k < hi → w'.heap[k]? = w.heap[k]?) : SR w' lo hi cs n P := by
  obtain ⟨A, c, h1, h2⟩ := h
  exact ⟨A, c, h1, h2.kept hb⟩
theorem SR.wide (h : SR w lo hi cs n P) (a : lo' ≤ lo) (b : hi ≤ hi') : SR w lo' hi' cs n P := by
  obtain ⟨A, c, h1, h2⟩ := h
  exact ⟨A, c, h1, h2.wide a b⟩
theorem SR.below {B : Nat} (h : SR w lo hi cs n P) (hb : Below B w w') (hB : hi ≤ B) : SR w' lo hi cs n P := h.kept fun k _ h2 => hb.block k (by omega)
theorem SO.kept (h : SO w lo hi cs n P) (hb : ∀ k, lo ≤ k → k < hi → w'.heap[k]? = w.heap[k]?) : SO w' lo hi cs n P := by
  obtain ⟨A, c, h1, h3, h2⟩ := h
  exact ⟨A, c, h1, h3, h2.kept hb⟩
theorem SO.wide (h : SO w lo hi cs n P) (a : lo' ≤ lo) (b : hi ≤ hi') : SO w lo' hi' cs n P := by
  obtain ⟨A, c, h1, h3, h2⟩ := h
  exact ⟨A, c, h1, h3, h2.wide a b⟩
theorem SO.below {B : Nat} (h : SO w lo hi cs n P) (hb : Below B w w') (hB : hi ≤ B) : SO w' lo hi cs n P := h.kept fun k _ h2 => hb.block k (by omega)
theorem SO.far (h : SO w lo hi cs n P) {z : Nat} (hz : z < lo ∨ hi ≤ z) (i : Nat) (u : Value) : SO (w.setCell ⟨z, i, none⟩ u) lo hi cs n P :=
  h.kept fun k h1 h2 => Below.heap_setCell w ⟨z, i, none⟩ u k (by show k ≠ z; omega)
theorem bl_blks {A : Option Addr} {c : Nat} (h : cs = [] ↔ n = 0) : bl (.slice A n c) = blks A cs := by
  unfold blks bl
  cases A with
  | none => simp
  | some a =>
    by_cases hn : n = 0
    · rw [if_pos (h.2 hn)]; simp [hn]
    · rw [if_neg (fun e => hn (h.1 e))]; simp [hn]
theorem SO.inB (h : SO w lo hi cs n P) (hc : cs = [] ↔ n = 0) {k : Nat} (hk : k ∈ bl P) : lo ≤ k ∧ k < hi := by
  obtain ⟨A, c, rfl, _, h2⟩ := h
  rw [bl_blks hc] at hk
  exact blks_in h2 hk
theorem Chg.refl (w : World) (F : List Nat) : Chg w w F := ⟨rfl, rfl, rfl, Nat.le_refl _, fun _ _ _ => rfl⟩
theorem Chg.trans (h : Chg w w' F) (k : Chg w' w'' G) : Chg w w'' (F ++ G) :=
  ⟨k.os.trans h.os, k.tape.trans h.tape, k.output.trans h.output, Nat.le_trans h.size k.size, fun b hb hF => (k.block b (Nat.lt_of_lt_of_le hb h.size) fun e => hF (List.mem_append_right _ e)).trans (h.block b hb fun e => hF (List.mem_append_left _ e))⟩
theorem Chg.turned (h : Chg w w' F) (hF : ∀ k ∈ F, lo ≤ k ∧ k < hi) : Turned lo hi w w' := ⟨h.os, h.tape, h.output, h.size, fun k hk hd => h.block k hk fun e => by have := hF k e; omega⟩
theorem Chg.same (h : Chg w w' F) {k : Nat} (hk : k < w.heap.size) (hF : k ∉ F) : w'.heap[k]? = w.heap[k]? := h.block k hk hF
theorem tight {A : Option Addr} (h : Owned w lo hi A cs) : ∃ p q, Owned w p q A cs ∧ (∀ k, k ∉ blks A cs → (k < p ∨ q ≤ k)) := by
  by_cases hc : cs = []
  · subst hc
    exact ⟨0, 0, ⟨Lies.nil, fun b off e h => by simp at h⟩, fun k _ => .inr (Nat.zero_le _)⟩
  · obtain ⟨b, off, rfl, x, y, hx⟩ := h.1.at_ (List.length_pos_iff.2 hc)
    refine ⟨b, b + 1, ⟨fun j u hu => ⟨b, off, rfl, Nat.le_refl _, by omega, hx j u hu⟩, h.2⟩, fun k hk => ?_⟩
    have : k ≠ b := fun e => hk (by simp [blks, hc, e])
    omega
end
end Go.Proofs.Ytldgadmpclgfhaa.Part
namespace Go.Proofs.Ytldgadmpclgfhaa.Ctls
set_option maxRecDepth 100000
open Go.ChangeShapes Go.WideShapes Go.ChangeAt Go.RowKit
open Go.Proofs.Ytldgadmpclgfhaa.Base Go.Proofs.Ytldgadmpclgfhaa.Mem Go.Proofs.Ytldgadmpclgfhaa.Data
set_option linter.unusedVariables false
set_option linter.unusedSimpArgs false
abbrev CT := Int × Int × Bool
def wfC (s : CT) : Prop := (Lit.int .i64 s.1).wf = true ∧ (Lit.int .i64 s.2.1).wf = true ∧ True
def rCtl : Rp CT := rPair rInt (rPair rInt rBool)
section
variable {H : Type} {enc : TypeId × Value → H} {w : World} {lo hi : Nat}
end
end Go.Proofs.Ytldgadmpclgfhaa.Ctls
namespace Go.Proofs.Ytldgadmpclgfhaa.Exits
set_option maxRecDepth 100000
open Go.ChangeShapes Go.WideShapes Go.ChangeAt Go.RowKit
open Go.Proofs.Ytldgadmpclgfhaa.Base Go.Proofs.Ytldgadmpclgfhaa.Mem Go.Proofs.Ytldgadmpclgfhaa.Data
set_option linter.unusedVariables false
set_option linter.unusedSimpArgs false
abbrev QT := Int × Int × Bool × Int
def wfQ (s : QT) : Prop := (Lit.int .i64 s.1).wf = true ∧ (Lit.int .i64 s.2.1).wf = true ∧ True ∧ (Lit.int .i64 s.2.2.2).wf = true
def rExit : Rp QT := rPair rInt (rPair rInt (rPair rBool rInt))
section
variable {H : Type} {enc : TypeId × Value → H} {w : World} {lo hi : Nat}
end
end Go.Proofs.Ytldgadmpclgfhaa.Exits
