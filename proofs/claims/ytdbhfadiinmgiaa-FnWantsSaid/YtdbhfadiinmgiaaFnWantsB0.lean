/-
  The texts that FnWants wants, part 0: Base Mem Var Data DataO St StOp SlotH IntH RightsMath In SlotMath SlotArgs InsH Grid GridA GridH Part CtlH ExitH GuestH GuestR Irq Exit Guest SlotOne With BroughtImpl TabN OrdT Sx GuestX Addrs Ins InsSame Same Page MemMake. No condition.
-/
import Derived.Test.YtdbhfadiinmgiaaRows
import Derived.WalkKit
import Derived.ProofKit
import Derived.OpenShut
import Derived.Below
import Derived.OwnWalk
import Derived.Laws.OwnMore
import Derived.Laws.IdiomStrings
import Derived.Laws.BytesArg
import Derived.Deep.AppendLies
import Derived.Deep.Draws
import Derived.StillTailTactics
import Derived.StillTactics
import Derived.Deep.QuietTactic
import Derived.BigQuiet
import Derived.Lib.Hide
import Derived.Outline
import Derived.IntWalk
import Derived.Carry
import Derived.Deep.Slices
import Derived.ChangeArms
import Derived.Deep.MidRow
import Derived.Deep.RegionHeld3
import Derived.Deep.SlicePairs
import Derived.Lib.SmallJoins
import Derived.Deep.Cut
import Derived.Laws.CopyOwn
import Derived.Maps.AppendAt
namespace Go.Proofs.Ytdbhfadiinmgiaa.Base
end Go.Proofs.Ytdbhfadiinmgiaa.Base
namespace Go.Proofs.Ytdbhfadiinmgiaa.Mem
end Go.Proofs.Ytdbhfadiinmgiaa.Mem
namespace Go.Proofs.Ytdbhfadiinmgiaa.Data
end Go.Proofs.Ytdbhfadiinmgiaa.Data
namespace Go.Proofs.Ytdbhfadiinmgiaa.Stt
end Go.Proofs.Ytdbhfadiinmgiaa.Stt
namespace Go.Proofs.Ytdbhfadiinmgiaa.App
end Go.Proofs.Ytdbhfadiinmgiaa.App
namespace Go.Proofs.Ytdbhfadiinmgiaa.Reg
end Go.Proofs.Ytdbhfadiinmgiaa.Reg
namespace Go.Proofs.Ytdbhfadiinmgiaa.Slots
end Go.Proofs.Ytdbhfadiinmgiaa.Slots
namespace Go.Proofs.Ytdbhfadiinmgiaa.Ints
end Go.Proofs.Ytdbhfadiinmgiaa.Ints
namespace Go.Proofs.Ytdbhfadiinmgiaa.Rights
end Go.Proofs.Ytdbhfadiinmgiaa.Rights
namespace Go.Proofs.Ytdbhfadiinmgiaa.Inss
end Go.Proofs.Ytdbhfadiinmgiaa.Inss
namespace Go.Proofs.Ytdbhfadiinmgiaa.Grid
end Go.Proofs.Ytdbhfadiinmgiaa.Grid
namespace Go.Proofs.Ytdbhfadiinmgiaa.Part
end Go.Proofs.Ytdbhfadiinmgiaa.Part
namespace Go.Proofs.Ytdbhfadiinmgiaa.Ctls
end Go.Proofs.Ytdbhfadiinmgiaa.Ctls
namespace Go.Proofs.Ytdbhfadiinmgiaa.Exits
end Go.Proofs.Ytdbhfadiinmgiaa.Exits
namespace Go.Proofs.Ytdbhfadiinmgiaa.Guests
end Go.Proofs.Ytdbhfadiinmgiaa.Guests
namespace Go.Proofs.Ytdbhfadiinmgiaa.Irqs
end Go.Proofs.Ytdbhfadiinmgiaa.Irqs
namespace Go.Proofs.Ytdbhfadiinmgiaa.BroughtW
end Go.Proofs.Ytdbhfadiinmgiaa.BroughtW
namespace Go.Proofs.Ytdbhfadiinmgiaa.Ord
end Go.Proofs.Ytdbhfadiinmgiaa.Ord
namespace Go.Proofs.Ytdbhfadiinmgiaa.Sx
end Go.Proofs.Ytdbhfadiinmgiaa.Sx
namespace Go.Proofs.Ytdbhfadiinmgiaa.Addrs
end Go.Proofs.Ytdbhfadiinmgiaa.Addrs
namespace Go.Proofs.Ytdbhfadiinmgiaa.Draw
end Go.Proofs.Ytdbhfadiinmgiaa.Draw
namespace Go.Proofs.Ytdbhfadiinmgiaa.SDraw
end Go.Proofs.Ytdbhfadiinmgiaa.SDraw
namespace Go.Proofs.Ytdbhfadiinmgiaa.fnWants
end Go.Proofs.Ytdbhfadiinmgiaa.fnWants
namespace Go.Proofs.Ytdbhfadiinmgiaa.Base
set_option maxRecDepth 100000
open Go.ChangeShapes Go.WideShapes Go.ChangeAt Go.RowKit
theorem own : ownKnob Try.prog.godebug = none := by kernel_rfl
theorem below_drewN {B : Nat} {a w : World} (h : Below B a w) (n : Nat) : Below B a (w.drewN n) := ⟨h.os, h.tape, h.output, h.size, h.block⟩
section
variable {H : Type} {enc : TypeId × Value → H} {P : Program}
/-- The row's last step where of the world behind the call 'Below' alone is known: a row without variables, arguments that may share. -/
theorem post_kept {f : Func} {s : ChangeSpec} {fresh handsOn again : Bool} {W W' : World} {args : Array Value} {v : Value} {ds : List (DataW H)} {ps : List MemPlace}
    (hvs : s.vars = []) (hvr : (s.fn H (ds ++ [])).vars = [])
    (hW : DataW.Whole enc P f.params.toList s.vars false W args.toList ds [] ps) (hb : Below W.heap.size W W')
    (hr : ∀ (b : Nat) (sp : Nat → Bool) (hd : Bool), DataW.TrodAll enc P W' b sp hd f.resultTypes.toList (v.resultList f.resultTypes.size) (s.fn H (ds ++ [])).results [])
    (ha : ∀ sp : Nat → Bool, (∀ p ∈ ps, sp p.block = true) → DataW.TrodAll enc P W' 0 sp true f.params.toList args.toList (s.fn H (ds ++ [])).args ps)
    (hok : ∀ (j : Nat) (t : TypeId) (r : Value), f.resultTypes[j]? = some t → (v.resultList f.resultTypes.size)[j]? = some r → Value.okWide P W' .any 0 t r) :
    s.post enc P f false fresh handsOn again W args v W' := by
  have lt := hW.lt
  have tv : ∀ sp : Nat → Bool, DataW.TrodVars enc P W' sp s.vars (s.fn H (ds ++ [])).vars [] := fun sp => by
    rw [hvs, hvr]; exact rfl
  have fz : W'.noneFrozen ps := by
    obtain ⟨_, _, _, _, _, h, _⟩ := hW
    intro b off hm
    exact (hb.frozen (lt _ hm)).trans (h b off hm)
  have both := trodAll_append (ha (fun _ => true) (fun _ _ => rfl)) (hr 0 (fun _ => true) true)
  rw [List.nil_append] at both
  exact ⟨ds, [], ps, [], ps, [], hW, hr _ _ _, ha _ (fun p hp => decide_eq_true (lt p hp)), tv _, World.keptBut_mono (fun p hp => ⟨hp, Or.inr (Or.inl hp)⟩) (hb.frame (· ∈ ps)),
    fun _ => ⟨hok, _, _, ps, ⟨ps, [], both, tv _, (List.append_nil ps).symm, fz, fun h => by cases h⟩, fun _ hp _ => hp⟩⟩
end
end Go.Proofs.Ytdbhfadiinmgiaa.Base
namespace Go.Proofs.Ytdbhfadiinmgiaa.Mem
set_option maxRecDepth 100000
open Go.ChangeShapes Go.WideShapes Go.ChangeAt Go.RowKit
open Go.Proofs.Ytdbhfadiinmgiaa.Base
/-- The cells of a slice at A are cs; its block lies in lo .. hi - 1. -/
def Lies (w : World) (lo hi : Nat) (A : Option Addr) (cs : List Value) : Prop :=
  ∀ j u, cs[j]? = some u → ∃ b off, A = some ⟨b, off, none⟩ ∧ lo ≤ b ∧ b < hi ∧ w.cell? ⟨b, off + j, none⟩ = some u
/-- .. and none of its block's cells is frozen. -/
def Owned (w : World) (lo hi : Nat) (A : Option Addr) (cs : List Value) : Prop :=
  Lies w lo hi A cs ∧ ∀ b off, A = some ⟨b, off, none⟩ → 0 < cs.length → ∀ j, w.frozen? ⟨b, j, none⟩ = false
section
variable {w w' : World} {lo hi lo' hi' : Nat} {A : Option Addr} {cs : List Value}
theorem Lies.nil : Lies w lo hi A [] := fun j u h => by simp at h
theorem Lies.wide (h : Lies w lo hi A cs) (h1 : lo' ≤ lo) (h2 : hi ≤ hi') : Lies w lo' hi' A cs := fun j u hu => by
  obtain ⟨b, off, e, x, y, z⟩ := h j u hu
  exact ⟨b, off, e, by omega, by omega, z⟩
theorem Owned.wide (h : Owned w lo hi A cs) (h1 : lo' ≤ lo) (h2 : hi ≤ hi') : Owned w lo' hi' A cs := ⟨h.1.wide h1 h2, h.2⟩
theorem Lies.kept (h : Lies w lo hi A cs) (hb : ∀ k, lo ≤ k → k < hi → w'.heap[k]? = w.heap[k]?) : Lies w' lo hi A cs := fun j u hu => by
  obtain ⟨b, off, e, x, y, z⟩ := h j u hu
  exact ⟨b, off, e, x, y, (World.cell?_of_block (w := w) (a := ⟨b, off + j, none⟩) (hb b x y)).trans z⟩
theorem Lies.at_ (h : Lies w lo hi A cs) (hn : 0 < cs.length) : ∃ b off, A = some ⟨b, off, none⟩ ∧ lo ≤ b ∧ b < hi ∧ ∀ j u, cs[j]? = some u → w.cell? ⟨b, off + j, none⟩ = some u := by
  obtain ⟨b, off, e, x, y, _⟩ := h 0 _ (List.getElem?_eq_getElem hn)
  refine ⟨b, off, e, x, y, fun j u hu => ?_⟩
  obtain ⟨b', off', e', _, _, z⟩ := h j u hu
  rw [e] at e'
  cases e'
  exact z
theorem Owned.kept (h : Owned w lo hi A cs) (hb : ∀ k, lo ≤ k → k < hi → w'.heap[k]? = w.heap[k]?) : Owned w' lo hi A cs :=
  ⟨h.1.kept hb, fun b off e hn j => by
    obtain ⟨b', off', e', x, y, _⟩ := h.1.at_ hn
    rw [e] at e'
    cases e'
    exact (World.frozen?_of_block (w := w) (a := ⟨b, j, none⟩) (hb b x y)).trans (h.2 b off e hn j)⟩
theorem Lies.below {B : Nat} (h : Lies w lo hi A cs) (hb : Below B w w') (hB : hi ≤ B) : Lies w' lo hi A cs := h.kept fun k _ h2 => hb.block k (by omega)
theorem Owned.below {B : Nat} (h : Owned w lo hi A cs) (hb : Below B w w') (hB : hi ≤ B) : Owned w' lo hi A cs := h.kept fun k _ h2 => hb.block k (by omega)
theorem Lies.drewN (h : Lies w lo hi A cs) (n : Nat) : Lies (w.drewN n) lo hi A cs := h
theorem Owned.drewN (h : Owned w lo hi A cs) (n : Nat) : Owned (w.drewN n) lo hi A cs := h
theorem Lies.turned {lo2 hi2 : Nat} (h : Lies w lo hi A cs) (hb : ∀ k, k < w.heap.size → (k < lo2 ∨ hi2 ≤ k) → w'.heap[k]? = w.heap[k]?) (hh : hi ≤ w.heap.size) (hd : hi ≤ lo2 ∨ hi2 ≤ lo) : Lies w' lo hi A cs :=
  h.kept fun k h1 h2 => hb k (by omega) (by omega)
theorem Owned.turned {lo2 hi2 : Nat} (h : Owned w lo hi A cs) (hb : ∀ k, k < w.heap.size → (k < lo2 ∨ hi2 ≤ k) → w'.heap[k]? = w.heap[k]?) (hh : hi ≤ w.heap.size) (hd : hi ≤ lo2 ∨ hi2 ≤ lo) : Owned w' lo hi A cs :=
  h.kept fun k h1 h2 => hb k (by omega) (by omega)
theorem Owned.set {b off : Nat} (h : Owned w lo hi (some ⟨b, off, none⟩) cs) (j : Nat) (u : Value) : Owned (w.setCell ⟨b, off + j, none⟩ u) lo hi (some ⟨b, off, none⟩) (cs.set j u) := by
  refine ⟨fun i v hv => ?_, fun b' off' e hn i => ?_⟩
  · have hi : i < cs.length := by
      have := (List.getElem?_eq_some_iff.1 hv).1
      simpa using this
    obtain ⟨b', off', e, x, y, z⟩ := h.1 i _ (List.getElem?_eq_getElem hi)
    cases e
    refine ⟨b, off, rfl, x, y, ?_⟩
    by_cases hij : i = j
    · subst hij
      rw [List.getElem?_set_self hi] at hv
      cases hv
      exact World.cell?_setCell_same w _ _ z
    · rw [List.getElem?_set_ne (fun e => hij e.symm), List.getElem?_eq_getElem hi] at hv
      cases hv
      rw [World.cell?_setCell_other w _ _ u (by intro e; injection e with _ e2; omega)]
      exact z
  · cases e
    have := h.2 b off rfl (by simpa using hn) i
    simpa using this
/-- A row that the call owns. -/
theorem Owned.of_row {base size n c : Nat} {e : TypeId} (h : w.ownsRow base e size (.slice A n c) n cs) : Owned w base w.heap.size A cs := by
  rcases h.2 with ⟨h', h0⟩ | ⟨g, cap, cur, h', hb, hg, hnc, _, hcs, htake⟩
  · have hz : cs = [] := List.eq_nil_of_length_eq_zero (by rw [h.1, h0]; simp)
    subst hz
    exact ⟨Lies.nil, fun _ _ _ hn => absurd hn (by simp)⟩
  · injection h' with h1 h2 h3
    subst h1
    have hlt : g < w.heap.size := by
      rcases Nat.lt_or_ge g w.heap.size with x | x
      · exact x
      · rw [Array.getElem?_eq_none x] at hg; cases hg
    refine ⟨fun j u hu => ⟨g, 0, rfl, hb, hlt, ?_⟩, fun b off e _ j => ?_⟩
    · have := h.cells (g := g) rfl j u hu
      rwa [Addr.add_lit] at this
    · cases e
      exact frozen_of_row w g j cur _ hg
end
/-- Only blocks lo .. hi - 1 have turned, and new ones have come. -/
structure Turned (lo hi : Nat) (w w' : World) : Prop where
  os : w'.os = w.os
  tape : w'.tape = w.tape
  output : w'.output = w.output
  size : w.heap.size ≤ w'.heap.size
  block : ∀ k, k < w.heap.size → (k < lo ∨ hi ≤ k) → w'.heap[k]? = w.heap[k]?
theorem Turned.refl (lo hi : Nat) (w : World) : Turned lo hi w w := ⟨rfl, rfl, rfl, Nat.le_refl _, fun _ _ _ => rfl⟩
theorem Turned.trans {lo hi : Nat} {a b c : World} (h : Turned lo hi a b) (k : Turned lo hi b c) : Turned lo hi a c :=
  ⟨k.os.trans h.os, k.tape.trans h.tape, k.output.trans h.output, Nat.le_trans h.size k.size, fun i hi hd => (k.block i (Nat.lt_of_lt_of_le hi h.size) hd).trans (h.block i hi hd)⟩
theorem Turned.setCell {lo hi : Nat} {a w : World} (h : Turned lo hi a w) {b off : Nat} (h1 : lo ≤ b) (h2 : b < hi) (u : Value) : Turned lo hi a (w.setCell ⟨b, off, none⟩ u) :=
  h.trans ⟨rfl, rfl, rfl, by simp, fun i _ hd => Below.heap_setCell w ⟨b, off, none⟩ u i (by show i ≠ b; omega)⟩
theorem Turned.below {lo hi : Nat} {w w' : World} (h : Turned lo hi w w') {B : Nat} (hB : B ≤ lo) (hw : B ≤ w.heap.size) : Below B w w' :=
  ⟨h.os, h.tape, h.output, h.size, fun k hk => h.block k (by omega) (by omega)⟩
theorem Turned.drewN {lo hi : Nat} {a w : World} (h : Turned lo hi a w) (n : Nat) : Turned lo hi a (w.drewN n) := ⟨h.os, h.tape, h.output, h.size, h.block⟩
section
variable {H : Type} {enc : TypeId × Value → H} {P : Program}
/-- Arguments that were read are read again in every world that agrees on what was there. -/
theorem trodAll_stays (hl : laidOutB P = true) {W W' : World} (hb : Below W.heap.size W W') {sp : Nat → Bool} : ∀ (ts : List TypeId) (vs : List Value) (ds : List (DataW H)) (ps : List MemPlace),
    (∀ t ∈ ts, P.readableRec t = true ∧ t < P.types.size) → DataW.TrodAll enc P W 0 (fun _ => true) true ts vs ds ps → (∀ p ∈ ps, p.block < W.heap.size) → (∀ p ∈ ps, sp p.block = true) → DataW.TrodAll enc P W' 0 sp true ts vs ds ps
  | [], vs, ds, ps, _, h, _, _ => by
    obtain ⟨rfl, rfl, rfl⟩ := trodAll_nil h
    exact trodAll_mk0
  | t :: ts, vs, ds, ps, hr, h, hlt, hsp => by
    obtain ⟨v, vs', d, ds', p, q, rfl, rfl, rfl, h0, h1⟩ := trodAll_cons h
    have g0 := hr t (by simp)
    exact trodAll_cons_mk (WideElems.Trod_stays hl g0.1 g0.2 h0 (fun x hx => hb.same (hlt x (by simp [hx]))) (fun x hx => hsp x (by simp [hx])))
      (trodAll_stays hl hb ts vs' ds' q (fun t' ht => hr t' (by simp [ht])) h1 (fun x hx => hlt x (by simp [hx])) (fun x hx => hsp x (by simp [hx])))
/-- The row's last step where of the world behind the call 'Below' alone is known: whatever arguments, handed back as they came. -/
theorem post_args {f : Func} {s : ChangeSpec} {fresh handsOn again : Bool} {W W' : World} {args : Array Value} {v : Value} {ds : List (DataW H)} {ps : List MemPlace}
    (hl : laidOutB P = true) (hread : f.params.toList.all (fun t => P.readableRec t && decide (t < P.types.size)) = true)
    (hvs : s.vars = []) (hvr : (s.fn H (ds ++ [])).vars = []) (har : (s.fn H (ds ++ [])).args = ds)
    (hW : DataW.Whole enc P f.params.toList s.vars false W args.toList ds [] ps) (hA : DataW.TrodAll enc P W 0 (fun _ => true) true f.params.toList args.toList ds ps) (hb : Below W.heap.size W W')
    (hr : ∀ (b : Nat) (sp : Nat → Bool) (hd : Bool), DataW.TrodAll enc P W' b sp hd f.resultTypes.toList (v.resultList f.resultTypes.size) (s.fn H (ds ++ [])).results [])
    (hok : ∀ (j : Nat) (t : TypeId) (r : Value), f.resultTypes[j]? = some t → (v.resultList f.resultTypes.size)[j]? = some r → Value.okWide P W' .any 0 t r) :
    s.post enc P f false fresh handsOn again W args v W' := by
  refine post_kept hvs hvr hW hb hr (fun sp hsp => ?_) hok
  rw [har]
  refine trodAll_stays hl hb _ _ _ _ (fun t ht => ?_) hA (fun p hp => hW.lt p hp) hsp
  have := List.all_eq_true.1 hread t ht
  simpa using this
end
end Go.Proofs.Ytdbhfadiinmgiaa.Mem
namespace Go.Proofs.Ytdbhfadiinmgiaa.Mem
set_option maxRecDepth 100000
open Go.ChangeShapes Go.WideShapes Go.ChangeAt Go.RowKit
open Go.Proofs.Ytdbhfadiinmgiaa.Base
def Var (w : World) (b : Nat) (vs : List Value) : Prop :=
  (∀ (i : Nat) (v : Value), vs[i]? = some v → w.cell? ⟨b, i, none⟩ = some v ∧ w.frozen? ⟨b, i, none⟩ = false) ∧ b < w.heap.size
theorem Var.new (w : World) (vs : List Value) (T : TypeId) : Var (w.alloc (.cells vs.toArray T)) w.heap.size vs :=
  ⟨fun i v hv => ⟨cell_of_row _ _ i _ _ _ (heap_alloc_new w _) |>.trans (by simpa using hv), frozen_of_row _ _ _ _ _ (heap_alloc_new w _)⟩, by simp⟩
theorem Var.below {w w' : World} {b : Nat} {vs : List Value} {B : Nat} (h : Var w b vs) (hb : Below B w w') (hB : b + 1 ≤ B) : Var w' b vs :=
  ⟨fun i v hv => ⟨(hb.cell (p := ⟨b, i, none⟩) hB).trans (h.1 i v hv).1, (hb.frozen (p := ⟨b, i, none⟩) hB).trans (h.1 i v hv).2⟩, Nat.lt_of_lt_of_le h.2 hb.size⟩
theorem Var.turned {w w' : World} {b lo hi : Nat} {vs : List Value} (h : Var w b vs) (hb : ∀ k, k < w.heap.size → (k < lo ∨ hi ≤ k) → w'.heap[k]? = w.heap[k]?) (hz : w.heap.size ≤ w'.heap.size) (hd : b + 1 ≤ lo ∨ hi ≤ b) : Var w' b vs :=
  have hk := hb b h.2 (by omega)
  ⟨fun i v hv => ⟨(World.cell?_of_block (w := w) (a := ⟨b, i, none⟩) hk).trans (h.1 i v hv).1, (World.frozen?_of_block (w := w) (a := ⟨b, i, none⟩) hk).trans (h.1 i v hv).2⟩, Nat.lt_of_lt_of_le h.2 hz⟩
theorem Var.grown {w w' : World} {b g : Nat} {vs : List Value} (h : Var w b vs) (hG : w.grownBy w' (some g)) (hne : b ≠ g) : Var w' b vs :=
  h.turned (lo := g) (hi := g + 1) (fun k hk hd => hG.block k hk (by simp; omega)) hG.size (by omega)
theorem Var.far {w : World} {b b' : Nat} {vs : List Value} (h : Var w b vs) (hne : b ≠ b') (i : Nat) (x : Value) : Var (w.setCell ⟨b', i, none⟩ x) b vs :=
  have hk := Below.heap_setCell w ⟨b', i, none⟩ x b hne
  ⟨fun j v hv => ⟨(World.cell?_of_block (w := w) (a := ⟨b, j, none⟩) hk).trans (h.1 j v hv).1, (World.frozen?_of_block (w := w) (a := ⟨b, j, none⟩) hk).trans (h.1 j v hv).2⟩, by simpa using h.2⟩
theorem Var.set {w : World} {b : Nat} {vs : List Value} (h : Var w b vs) (i : Nat) (x : Value) : Var (w.setCell ⟨b, i, none⟩ x) b (vs.set i x) :=
  ⟨fun j v hv => by
    refine ⟨?_, (World.frozen?_setCell _ _ _ _).trans ?_⟩
    · rw [List.getElem?_set] at hv
      by_cases hij : i = j
      · subst hij
        rw [if_pos rfl] at hv
        by_cases hl : i < vs.length
        · rw [if_pos hl] at hv
          cases hv
          exact World.cell?_setCell_same _ _ _ (h.1 i vs[i] (by simp [hl])).1
        · rw [if_neg hl] at hv
          cases hv
      · rw [if_neg hij] at hv
        rw [World.cell?_setCell_other _ _ _ x (by intro e; injection e; omega)]
        exact (h.1 j v hv).1
    · have hl : j < vs.length := by have := (List.getElem?_eq_some_iff.1 hv).1; simpa using this
      exact (h.1 j vs[j] (by simp [hl])).2, by simpa using h.2⟩
theorem Var.cell {w : World} {b : Nat} {vs : List Value} (h : Var w b vs) (i : Nat) {v : Value} (hv : vs[i]? = some v) : w.cell? ⟨b, i, none⟩ = some v := (h.1 i v hv).1
theorem Var.loose {w : World} {b : Nat} {vs : List Value} (h : Var w b vs) (i : Nat) {v : Value} (hv : vs[i]? = some v) : w.frozen? ⟨b, i, none⟩ = false := (h.1 i v hv).2
end Go.Proofs.Ytdbhfadiinmgiaa.Mem
namespace Go.Proofs.Ytdbhfadiinmgiaa.Data
set_option maxRecDepth 100000
open Go.ChangeShapes Go.WideShapes Go.ChangeAt Go.RowKit
open Go.Proofs.Ytdbhfadiinmgiaa.Base Go.Proofs.Ytdbhfadiinmgiaa.Mem
set_option linter.unusedVariables false
/-- Values of a type in memory: 'sz' cells each; 'val' is the value that has the cells; 'rd': the cells show x, and what they lead to lies in blocks lo .. hi - 1; 'own': .. in the blocks F, none of them frozen. -/
structure Rp (α : Type) where
  sz : Nat
  val : List Value → Value
  rd : World → Nat → Nat → α → List Value → Prop
  own : World → Nat → Nat → α → List Value → List Nat → Prop
  /-- every number of an int's range, every list of a length that a machine holds -/
  wf : α → Prop
  /-- no list longer than 2^21 -/
  cap : α → Prop
  /-- the laws' size: the lengths of all slices together -/
  size : α → Nat
  /-- how many leaves, and the value with its leaves marked from k on; the same of a value that is handed over by value ('t': what lies behind its slices alone) -/
  cnt : α → Nat
  mark : Nat → α → α
  tcnt : α → Nat
  top : Nat → α → α
  len : ∀ {w : World} {lo hi : Nat} {x : α} {cs : List Value}, rd w lo hi x cs → cs.length = sz
  kept : ∀ {w w' : World} {lo hi : Nat} {x : α} {cs : List Value}, rd w lo hi x cs → (∀ k, lo ≤ k → k < hi → w'.heap[k]? = w.heap[k]?) → rd w' lo hi x cs
  wide : ∀ {w : World} {lo hi lo' hi' : Nat} {x : α} {cs : List Value}, rd w lo hi x cs → lo' ≤ lo → hi ≤ hi' → rd w lo' hi' x cs
  reads : ∀ {w : World} {lo hi : Nat} {x : α} {cs : List Value} {F : List Nat}, own w lo hi x cs F → rd w lo hi x cs
  okept : ∀ {w w' : World} {lo hi : Nat} {x : α} {cs : List Value} {F : List Nat}, own w lo hi x cs F → (∀ k ∈ F, w'.heap[k]? = w.heap[k]?) → own w' lo hi x cs F
  owide : ∀ {w : World} {lo hi lo' hi' : Nat} {x : α} {cs : List Value} {F : List Nat}, own w lo hi x cs F → lo' ≤ lo → hi ≤ hi' → own w lo' hi' x cs F
  inF : ∀ {w : World} {lo hi : Nat} {x : α} {cs : List Value} {F : List Nat}, own w lo hi x cs F → ∀ k ∈ F, lo ≤ k ∧ k < hi
/-- A value of its own: no block is used twice. -/
def Own {α : Type} (r : Rp α) (w : World) (lo hi : Nat) (x : α) (cs : List Value) : Prop := ∃ F, r.own w lo hi x cs F ∧ F.Nodup
section
variable {α : Type} {r : Rp α} {w w' : World} {lo hi lo' hi' : Nat} {x : α} {cs : List Value}
theorem rd_below {B : Nat} (h : r.rd w lo hi x cs) (hb : Below B w w') (hB : hi ≤ B) : r.rd w' lo hi x cs := r.kept h fun k _ h2 => hb.block k (by omega)
theorem Own.reads (h : Own r w lo hi x cs) : r.rd w lo hi x cs := by
  obtain ⟨F, h, _⟩ := h
  exact r.reads h
theorem Own.kept (h : Own r w lo hi x cs) (hb : ∀ k, lo ≤ k → k < hi → w'.heap[k]? = w.heap[k]?) : Own r w' lo hi x cs := by
  obtain ⟨F, h, hF⟩ := h
  exact ⟨F, r.okept h fun k hk => hb k (r.inF h k hk).1 (r.inF h k hk).2, hF⟩
theorem Own.wide (h : Own r w lo hi x cs) (h1 : lo' ≤ lo) (h2 : hi ≤ hi') : Own r w lo' hi' x cs := by
  obtain ⟨F, h, hF⟩ := h
  exact ⟨F, r.owide h h1 h2, hF⟩
theorem Own.below {B : Nat} (h : Own r w lo hi x cs) (hb : Below B w w') (hB : hi ≤ B) : Own r w' lo hi x cs := h.kept fun k _ h2 => hb.block k (by omega)
theorem Own.turned {lo2 hi2 : Nat} (h : Own r w lo hi x cs) (hb : ∀ k, k < w.heap.size → (k < lo2 ∨ hi2 ≤ k) → w'.heap[k]? = w.heap[k]?) (hh : hi ≤ w.heap.size) (hd : hi ≤ lo2 ∨ hi2 ≤ lo) : Own r w' lo hi x cs :=
  h.kept fun k h1 h2 => hb k (by omega) (by omega)
theorem Own.drew (h : Own r w lo hi x cs) : Own r w.drew lo hi x cs := h.kept fun _ _ _ => rfl
end
def rInt : Rp Int where
  sz := 1
  val cs := cs.headD undef
  rd _ _ _ x cs := cs = [.int .i64 x]
  own _ _ _ x cs F := cs = [.int .i64 x] ∧ F = []
  wf x := (Lit.int .i64 x).wf = true
  cap _ := True
  size _ := 0
  cnt _ := 1
  mark k _ := k
  tcnt _ := 0
  top _ x := x
  len h := by rw [h]; rfl
  kept h _ := h
  wide h _ _ := h
  reads h := h.1
  okept h _ := h
  owide h _ _ := h
  inF h k hk := by rw [h.2] at hk; cases hk
def rBool : Rp Bool where
  sz := 1
  val cs := cs.headD undef
  rd _ _ _ x cs := cs = [.bool x]
  own _ _ _ x cs F := cs = [.bool x] ∧ F = []
  wf _ := True
  cap _ := True
  size _ := 0
  cnt _ := 1
  mark k _ := k % 3 == 0
  tcnt _ := 0
  top _ x := x
  len h := by rw [h]; rfl
  kept h _ := h
  wide h _ _ := h
  reads h := h.1
  okept h _ := h
  owide h _ _ := h
  inF h k hk := by rw [h.2] at hk; cases hk
def rPair {α β : Type} (r : Rp α) (q : Rp β) : Rp (α × β) where
  sz := r.sz + q.sz
  val cs := .agg cs.toArray
  rd w lo hi x cs := ∃ c1 c2, cs = c1 ++ c2 ∧ r.rd w lo hi x.1 c1 ∧ q.rd w lo hi x.2 c2
  own w lo hi x cs F := ∃ c1 c2 F1 F2, cs = c1 ++ c2 ∧ F = F1 ++ F2 ∧ r.own w lo hi x.1 c1 F1 ∧ q.own w lo hi x.2 c2 F2
  wf x := r.wf x.1 ∧ q.wf x.2
  cap x := r.cap x.1 ∧ q.cap x.2
  size x := r.size x.1 + q.size x.2
  cnt x := r.cnt x.1 + q.cnt x.2
  mark k x := (r.mark k x.1, q.mark (k + r.cnt x.1) x.2)
  tcnt x := r.tcnt x.1 + q.tcnt x.2
  top k x := (r.top k x.1, q.top (k + r.tcnt x.1) x.2)
  len h := by
    obtain ⟨c1, c2, rfl, h1, h2⟩ := h
    rw [List.length_append, r.len h1, q.len h2]
  kept h hb := by
    obtain ⟨c1, c2, e, h1, h2⟩ := h
    exact ⟨c1, c2, e, r.kept h1 hb, q.kept h2 hb⟩
  wide h a b := by
    obtain ⟨c1, c2, e, h1, h2⟩ := h
    exact ⟨c1, c2, e, r.wide h1 a b, q.wide h2 a b⟩
  reads h := by
    obtain ⟨c1, c2, F1, F2, e, _, h1, h2⟩ := h
    exact ⟨c1, c2, e, r.reads h1, q.reads h2⟩
  okept h hb := by
    obtain ⟨c1, c2, F1, F2, e, rfl, h1, h2⟩ := h
    exact ⟨c1, c2, F1, F2, e, rfl, r.okept h1 fun k hk => hb k (by simp [hk]), q.okept h2 fun k hk => hb k (by simp [hk])⟩
  owide h a b := by
    obtain ⟨c1, c2, F1, F2, e, f, h1, h2⟩ := h
    exact ⟨c1, c2, F1, F2, e, f, r.owide h1 a b, q.owide h2 a b⟩
  inF h k hk := by
    obtain ⟨c1, c2, F1, F2, e, rfl, h1, h2⟩ := h
    rcases List.mem_append.1 hk with hk | hk
    · exact r.inF h1 k hk
    · exact q.inF h2 k hk
section
variable {α : Type} (r : Rp α)
def rdAll (w : World) (lo hi : Nat) : List α → List Value → Prop
  | [], ds => ds = []
  | x :: xs, ds => ∃ c1 c2, ds = c1 ++ c2 ∧ r.rd w lo hi x c1 ∧ rdAll w lo hi xs c2
def ownAll (w : World) (lo hi : Nat) : List α → List Value → List Nat → Prop
  | [], ds, F => ds = [] ∧ F = []
  | x :: xs, ds, F => ∃ c1 c2 F1 F2, ds = c1 ++ c2 ∧ F = F1 ++ F2 ∧ r.own w lo hi x c1 F1 ∧ ownAll w lo hi xs c2 F2
def mkAll : Nat → List α → List α
  | _, [] => []
  | k, x :: xs => r.mark k x :: mkAll (k + r.cnt x) xs
def cntAll : List α → Nat
  | [] => 0
  | x :: xs => r.cnt x + cntAll xs
def sizeAll : List α → Nat
  | [] => 0
  | x :: xs => r.size x + sizeAll xs
/-- The block of a slice that is not empty. -/
def blks (A : Option Addr) (ds : List Value) : List Nat := if ds = [] then [] else (A.map Addr.block).toList
variable {r} {w w' : World} {lo hi lo' hi' : Nat}
theorem rdAll_len : ∀ {xs : List α} {ds : List Value}, rdAll r w lo hi xs ds → ds.length = xs.length * r.sz
  | [], ds, h => by rw [show ds = [] from h]; simp
  | x :: xs, ds, h => by
    obtain ⟨c1, c2, rfl, h1, h2⟩ := h
    rw [List.length_append, r.len h1, rdAll_len h2, List.length_cons, Nat.add_mul]
    omega
theorem rdAll_kept (hb : ∀ k, lo ≤ k → k < hi → w'.heap[k]? = w.heap[k]?) : ∀ {xs : List α} {ds : List Value}, rdAll r w lo hi xs ds → rdAll r w' lo hi xs ds
  | [], ds, h => h
  | x :: xs, ds, h => by
    obtain ⟨c1, c2, e, h1, h2⟩ := h
    exact ⟨c1, c2, e, r.kept h1 hb, rdAll_kept hb h2⟩
theorem rdAll_wide (a : lo' ≤ lo) (b : hi ≤ hi') : ∀ {xs : List α} {ds : List Value}, rdAll r w lo hi xs ds → rdAll r w lo' hi' xs ds
  | [], ds, h => h
  | x :: xs, ds, h => by
    obtain ⟨c1, c2, e, h1, h2⟩ := h
    exact ⟨c1, c2, e, r.wide h1 a b, rdAll_wide a b h2⟩
theorem ownAll_reads : ∀ {xs : List α} {ds : List Value} {F : List Nat}, ownAll r w lo hi xs ds F → rdAll r w lo hi xs ds
  | [], ds, F, h => h.1
  | x :: xs, ds, F, h => by
    obtain ⟨c1, c2, F1, F2, e, _, h1, h2⟩ := h
    exact ⟨c1, c2, e, r.reads h1, ownAll_reads h2⟩
theorem ownAll_kept : ∀ {xs : List α} {ds : List Value} {F : List Nat}, ownAll r w lo hi xs ds F → (∀ k ∈ F, w'.heap[k]? = w.heap[k]?) → ownAll r w' lo hi xs ds F
  | [], ds, F, h, _ => h
  | x :: xs, ds, F, h, hb => by
    obtain ⟨c1, c2, F1, F2, e, rfl, h1, h2⟩ := h
    exact ⟨c1, c2, F1, F2, e, rfl, r.okept h1 fun k hk => hb k (by simp [hk]), ownAll_kept h2 fun k hk => hb k (by simp [hk])⟩
theorem ownAll_wide (a : lo' ≤ lo) (b : hi ≤ hi') : ∀ {xs : List α} {ds : List Value} {F : List Nat}, ownAll r w lo hi xs ds F → ownAll r w lo' hi' xs ds F
  | [], ds, F, h => h
  | x :: xs, ds, F, h => by
    obtain ⟨c1, c2, F1, F2, e, f, h1, h2⟩ := h
    exact ⟨c1, c2, F1, F2, e, f, r.owide h1 a b, ownAll_wide a b h2⟩
theorem ownAll_inF : ∀ {xs : List α} {ds : List Value} {F : List Nat}, ownAll r w lo hi xs ds F → ∀ k ∈ F, lo ≤ k ∧ k < hi
  | [], ds, F, h, k, hk => by rw [h.2] at hk; cases hk
  | x :: xs, ds, F, h, k, hk => by
    obtain ⟨c1, c2, F1, F2, e, rfl, h1, h2⟩ := h
    rcases List.mem_append.1 hk with hk | hk
    · exact r.inF h1 k hk
    · exact ownAll_inF h2 k hk
theorem owned_agree {A : Option Addr} {ds : List Value} (h : Owned w lo hi A ds) (hb : ∀ k ∈ blks A ds, w'.heap[k]? = w.heap[k]?) : Owned w' lo hi A ds := by
  by_cases hd : ds = []
  · subst hd
    exact ⟨Lies.nil, fun b off e h => by simp at h⟩
  · have hn : 0 < ds.length := List.length_pos_iff.2 hd
    obtain ⟨b, off, rfl, x, y, hc⟩ := h.1.at_ hn
    have hk : w'.heap[b]? = w.heap[b]? := hb b (by simp [blks, hd])
    refine ⟨fun j u hu => ⟨b, off, rfl, x, y, (World.cell?_of_block (w := w) (a := ⟨b, off + j, none⟩) hk).trans (hc j u hu)⟩, fun b' off' e _ j => ?_⟩
    cases e
    exact (World.frozen?_of_block (w := w) (a := ⟨b, j, none⟩) hk).trans (h.2 b off rfl hn j)
theorem blks_in {A : Option Addr} {ds : List Value} (h : Owned w lo hi A ds) {k : Nat} (hk : k ∈ blks A ds) : lo ≤ k ∧ k < hi := by
  by_cases hd : ds = []
  · simp [blks, hd] at hk
  · obtain ⟨b, off, rfl, x, y, _⟩ := h.1.at_ (List.length_pos_iff.2 hd)
    simp [blks, hd] at hk
    subst hk
    exact ⟨x, y⟩
end
/-- A type of one's own, by what it is made of. -/
def rVia {α β : Type} (q : Rp β) (f : α → β) (g : β → α) : Rp α where
  sz := q.sz
  val := q.val
  rd w lo hi x := q.rd w lo hi (f x)
  own w lo hi x := q.own w lo hi (f x)
  wf x := q.wf (f x)
  cap x := q.cap (f x)
  size x := q.size (f x)
  cnt x := q.cnt (f x)
  mark k x := g (q.mark k (f x))
  tcnt x := q.tcnt (f x)
  top k x := g (q.top k (f x))
  len h := q.len h
  kept h := q.kept h
  wide h := q.wide h
  reads h := q.reads h
  okept h := q.okept h
  owide h := q.owide h
  inF h := q.inF h
end Go.Proofs.Ytdbhfadiinmgiaa.Data
namespace Go.Proofs.Ytdbhfadiinmgiaa.Data
set_option maxRecDepth 100000
open Go.ChangeShapes Go.WideShapes Go.ChangeAt Go.RowKit Go.Deep
open Go.Proofs.Ytdbhfadiinmgiaa.Base Go.Proofs.Ytdbhfadiinmgiaa.Mem
set_option linter.unusedVariables false
section
variable {α β : Type} {r : Rp α} {q : Rp β} {w w' : World} {lo hi lo' hi' : Nat}
theorem ownAll_append : ∀ {xs ys : List α} {ds es : List Value} {F G : List Nat}, ownAll r w lo hi xs ds F → ownAll r w lo hi ys es G → ownAll r w lo hi (xs ++ ys) (ds ++ es) (F ++ G)
  | [], ys, ds, es, F, G, h, h' => by rw [show ds = [] from h.1, show F = [] from h.2]; exact h'
  | x :: xs, ys, ds, es, F, G, h, h' => by
    obtain ⟨c1, c2, F1, F2, rfl, rfl, h1, h2⟩ := h
    exact ⟨c1, c2 ++ es, F1, F2 ++ G, by simp, by simp, h1, ownAll_append h2 h'⟩
theorem rdAll_one {x : α} {cs : List Value} (h : r.rd w lo hi x cs) : rdAll r w lo hi [x] cs := ⟨cs, [], by simp, h, rfl⟩
end
section
variable {P : Program} {t e : TypeId}
end
end Go.Proofs.Ytdbhfadiinmgiaa.Data
namespace Go.Proofs.Ytdbhfadiinmgiaa.Stt
set_option maxRecDepth 100000
open Go.ChangeShapes Go.WideShapes Go.ChangeAt Go.RowKit
open Go.Proofs.Ytdbhfadiinmgiaa.Base Go.Proofs.Ytdbhfadiinmgiaa.Mem Go.Proofs.Ytdbhfadiinmgiaa.Data
set_option linter.unusedVariables false
/-- The blocks of f alone have turned, and new ones have come. -/
structure Only (f : Nat → Prop) (w w' : World) : Prop where
  os : w'.os = w.os
  tape : w'.tape = w.tape
  output : w'.output = w.output
  size : w.heap.size ≤ w'.heap.size
  block : ∀ k, k < w.heap.size → ¬ f k → w'.heap[k]? = w.heap[k]?
theorem Only.refl (f : Nat → Prop) (w : World) : Only f w w := ⟨rfl, rfl, rfl, Nat.le_refl _, fun _ _ _ => rfl⟩
theorem Only.of_below {f : Nat → Prop} {w w' : World} (h : Below w.heap.size w w') : Only f w w' := ⟨h.os, h.tape, h.output, h.size, fun k hk _ => h.block k hk⟩
theorem Only.of_grown {f : Nat → Prop} {w w' : World} {row : Option Nat} (h : w.grownBy w' row) (hf : ∀ k, row = some k → f k) : Only f w w' :=
  ⟨h.os, h.tape, h.output, h.size, fun k hk hn => h.block k hk fun e => hn (hf k e.symm)⟩
theorem Only.trans {f : Nat → Prop} {a b c : World} (h : Only f a b) (k : Only f b c) : Only f a c :=
  ⟨k.os.trans h.os, k.tape.trans h.tape, k.output.trans h.output, Nat.le_trans h.size k.size, fun i hi hn => (k.block i (Nat.lt_of_lt_of_le hi h.size) hn).trans (h.block i hi hn)⟩
theorem Only.weak {f g : Nat → Prop} {w w' : World} (h : Only f w w') (hfg : ∀ k, f k → g k) : Only g w w' := ⟨h.os, h.tape, h.output, h.size, fun k hk hn => h.block k hk fun e => hn (hfg k e)⟩
theorem Only.set {f : Nat → Prop} (w : World) {b : Nat} (hf : f b) (i : Nat) (u : Value) : Only f w (w.setCell ⟨b, i, none⟩ u) :=
  ⟨rfl, rfl, rfl, by simp, fun k _ hn => Below.heap_setCell w ⟨b, i, none⟩ u k (by show k ≠ b; intro e; exact hn (e ▸ hf))⟩
theorem Only.below {f : Nat → Prop} {w w' : World} (h : Only f w w') {B : Nat} (hB : B ≤ w.heap.size) (hf : ∀ k, f k → B ≤ k) : Below B w w' :=
  ⟨h.os, h.tape, h.output, h.size, fun k hk => h.block k (Nat.lt_of_lt_of_le hk hB) fun e => by have := hf k e; omega⟩
/-- A claim on memory: what it says of a world, and the blocks that it hangs on. -/
structure Res where
  says : World → Prop
  foot : Nat → Prop
  lo : Nat
  hi : Nat
  inn : ∀ k, foot k → lo ≤ k ∧ k < hi
  kept : ∀ {w w' : World}, says w → (∀ k, foot k → w'.heap[k]? = w.heap[k]?) → says w'
/-- What a call holds: nothing of old has turned, and these claims of its own, no two on one block. -/
structure St (w0 w : World) (L : List Res) : Prop where
  below : Below w0.heap.size w0 w
  says : ∀ (i : Nat) (r : Res), L[i]? = some r → r.says w
  lo : ∀ (i : Nat) (r : Res), L[i]? = some r → w0.heap.size ≤ r.lo
  hi : ∀ (i : Nat) (r : Res), L[i]? = some r → r.hi ≤ w.heap.size
  apart : ∀ (i j : Nat) (r s : Res), L[i]? = some r → L[j]? = some s → i ≠ j → ∀ k, r.foot k → ¬ s.foot k
section
variable {w0 w w' : World} {L : List Res} {r : Res}
theorem St.start (w : World) : St w w [] := ⟨Below.refl _ _, fun i r h => by simp at h, fun i r h => by simp at h, fun i r h => by simp at h, fun i j r s h => by simp at h⟩
theorem St.at_ (S : St w0 w L) (i : Nat) (h : L[i]? = some r) : r.says w := S.says i r h
theorem St.footlt (S : St w0 w L) {i : Nat} (h : L[i]? = some r) {k : Nat} (hk : r.foot k) : w0.heap.size ≤ k ∧ k < w.heap.size := by
  have h1 := r.inn k hk
  have h2 := S.lo i r h
  have h3 := S.hi i r h
  omega
/-- A call, a draw, new blocks: whatever leaves the old alone. -/
theorem St.call (S : St w0 w L) (hb : Below w.heap.size w w') : St w0 w' L :=
  ⟨S.below.trans (hb.mono S.below.size), fun i r h => r.kept (S.says i r h) fun k hk => hb.block k (S.footlt h hk).2, S.lo, fun i r h => Nat.le_trans (S.hi i r h) hb.size, S.apart⟩
/-- .. that leaves a claim behind. -/
theorem St.add (S : St w0 w L) (hb : Below w.heap.size w w') (r : Res) (hs : r.says w') (hl : w.heap.size ≤ r.lo) (hh : r.hi ≤ w'.heap.size) : St w0 w' (r :: L) := by
  have T := S.call hb
  refine ⟨T.below, fun i s h => ?_, fun i s h => ?_, fun i s h => ?_, fun i j s t h1 h2 hne k hk hk' => ?_⟩
  · cases i with
    | zero => cases h; exact hs
    | succ i => exact T.says i s h
  · cases i with
    | zero => cases h; exact Nat.le_trans S.below.size hl
    | succ i => exact T.lo i s h
  · cases i with
    | zero => cases h; exact hh
    | succ i => exact T.hi i s h
  · cases i with
    | zero =>
      cases h1
      cases j with
      | zero => exact hne rfl
      | succ j => have h3 := (S.footlt h2 hk').2; have h4 := (r.inn k hk).1; omega
    | succ i =>
      cases j with
      | zero => cases h2; have h3 := (S.footlt h1 hk).2; have h4 := (r.inn k hk').1; omega
      | succ j => exact S.apart i j s t h1 h2 (by omega) k hk hk'
/-- One claim's blocks have turned (and new ones have come): it is another claim now. -/
theorem St.turn (S : St w0 w L) (i : Nat) (h : L[i]? = some r) (r' : Res) (hc : Only r.foot w w') (hs : r'.says w') (hf : ∀ k, r'.foot k → r.foot k ∨ w.heap.size ≤ k) (hl : w0.heap.size ≤ r'.lo) (hh : r'.hi ≤ w'.heap.size) : St w0 w' (L.set i r') := by
  have hi : i < L.length := (List.getElem?_eq_some_iff.1 h).1
  have key : ∀ (j : Nat) (s : Res), (L.set i r')[j]? = some s → (j = i ∧ s = r') ∨ (j ≠ i ∧ L[j]? = some s) := fun j s hj => by
    by_cases e : j = i
    · subst e
      rw [List.getElem?_set_self hi] at hj
      cases hj
      exact .inl ⟨rfl, rfl⟩
    · rw [List.getElem?_set_ne (fun e' => e e'.symm)] at hj
      exact .inr ⟨e, hj⟩
  refine ⟨S.below.trans (hc.below S.below.size fun k hk => (S.footlt h hk).1), fun j s hj => ?_, fun j s hj => ?_, fun j s hj => ?_, fun j j' s t h1 h2 hne k hk hk' => ?_⟩
  · rcases key j s hj with ⟨_, rfl⟩ | ⟨e, hj⟩
    · exact hs
    · exact s.kept (S.says j s hj) fun k hk => hc.block k (S.footlt hj hk).2 (S.apart j i s r hj h e k hk)
  · rcases key j s hj with ⟨_, rfl⟩ | ⟨e, hj⟩
    · exact hl
    · exact S.lo j s hj
  · rcases key j s hj with ⟨_, rfl⟩ | ⟨e, hj⟩
    · exact hh
    · exact Nat.le_trans (S.hi j s hj) hc.size
  · rcases key j s h1 with ⟨e1, e2⟩ | ⟨e, h1'⟩
    · rcases key j' t h2 with ⟨e3, e4⟩ | ⟨e', h2'⟩
      · exact hne (e1.trans e3.symm)
      · rw [e2] at hk
        rcases hf k hk with hk | hk
        · exact S.apart i j' r t h h2' (fun x => hne (e1.trans x)) k hk hk'
        · have := (S.footlt h2' hk').2; omega
    · rcases key j' t h2 with ⟨e3, e4⟩ | ⟨e', h2'⟩
      · rw [e4] at hk'
        rcases hf k hk' with hk' | hk'
        · exact S.apart j i s r h1' h (fun x => hne (x.trans e3.symm)) k hk hk'
        · have := (S.footlt h1' hk).2; omega
      · exact S.apart j j' s t h1' h2' hne k hk hk'
/-- A claim is taken to pieces. -/
theorem St.cut (S : St w0 w L) (i : Nat) (h : L[i]? = some r) (r1 r2 : Res) (h1 : r1.says w) (h2 : r2.says w) (f1 : ∀ k, r1.foot k → r.foot k) (f2 : ∀ k, r2.foot k → r.foot k) (ha : ∀ k, r1.foot k → ¬ r2.foot k)
    (l1 : w0.heap.size ≤ r1.lo) (l2 : w0.heap.size ≤ r2.lo) (g1 : r1.hi ≤ w.heap.size) (g2 : r2.hi ≤ w.heap.size) : St w0 w (r1 :: L.set i r2) := by
  have T := S.turn i h r2 (Only.refl _ _) h2 (fun k hk => .inl (f2 k hk)) l2 g2
  have hi : i < L.length := (List.getElem?_eq_some_iff.1 h).1
  have key : ∀ (j : Nat) (s : Res), (L.set i r2)[j]? = some s → ∀ k, r1.foot k → ¬ s.foot k := fun j s hj k hk hk' => by
    by_cases e : j = i
    · subst e
      rw [List.getElem?_set_self hi] at hj
      cases hj
      exact ha k hk hk'
    · rw [List.getElem?_set_ne (fun e' => e e'.symm)] at hj
      exact S.apart i j r s h hj (fun e' => e e'.symm) k (f1 k hk) hk'
  refine ⟨T.below, fun j s hj => ?_, fun j s hj => ?_, fun j s hj => ?_, fun j j' s t hj hj' hne k hk hk' => ?_⟩
  · cases j with
    | zero => cases hj; exact h1
    | succ j => exact T.says j s hj
  · cases j with
    | zero => cases hj; exact l1
    | succ j => exact T.lo j s hj
  · cases j with
    | zero => cases hj; exact g1
    | succ j => exact T.hi j s hj
  · cases j with
    | zero =>
      cases hj
      cases j' with
      | zero => exact hne rfl
      | succ j' => exact key j' t hj' k hk hk'
    | succ j =>
      cases j' with
      | zero => cases hj'; exact key j s hj k hk' hk
      | succ j' => exact T.apart j j' s t hj hj' (by omega) k hk hk'
/-- Claims may be left out, and brought into another order. -/
theorem St.pick (S : St w0 w L) (is : List Nat) (L' : List Res) (hL : is.map (fun i => L[i]?) = L'.map some) (hn : is.Nodup) : St w0 w L' := by
  have key : ∀ (j : Nat) (s : Res), L'[j]? = some s → ∃ i, is[j]? = some i ∧ L[i]? = some s := fun j s hj => by
    have h1 : (L'.map some)[j]? = some (some s) := by rw [List.getElem?_map, hj]; rfl
    rw [← hL, List.getElem?_map] at h1
    cases hi : is[j]? with
    | none => rw [hi] at h1; cases h1
    | some i => rw [hi] at h1; exact ⟨i, rfl, by simpa using h1⟩
  refine ⟨S.below, fun j s hj => ?_, fun j s hj => ?_, fun j s hj => ?_, fun j j' s t hj hj' hne k hk hk' => ?_⟩
  · obtain ⟨i, _, h⟩ := key j s hj; exact S.says i s h
  · obtain ⟨i, _, h⟩ := key j s hj; exact S.lo i s h
  · obtain ⟨i, _, h⟩ := key j s hj; exact S.hi i s h
  · obtain ⟨i, e, h⟩ := key j s hj
    obtain ⟨i', e', h'⟩ := key j' t hj'
    refine S.apart i i' s t h h' (fun he => hne ?_) k hk hk'
    subst he
    exact (List.getElem?_inj (List.getElem?_eq_some_iff.1 e).1 hn).1 (e.trans e'.symm)
end
/-- A variable. -/
def vr (b : Nat) (vs : List Value) : Res where
  says w := Var w b vs
  foot k := k = b
  lo := b
  hi := b + 1
  inn k h := by omega
  kept h hk := by
    have e := hk _ rfl
    refine ⟨fun i v hv => ⟨(World.cell?_of_block (a := ⟨b, i, none⟩) e).trans (h.1 i v hv).1, (World.frozen?_of_block (a := ⟨b, i, none⟩) e).trans (h.1 i v hv).2⟩, ?_⟩
    rw [Array.getElem?_eq_getElem h.2] at e
    exact (Array.getElem?_eq_some_iff.1 e).1
/-- A value in memory of its own. -/
def ow {α : Type} (r : Rp α) (lo hi : Nat) (x : α) (cs : List Value) (F : List Nat) : Res where
  says w := r.own w lo hi x cs F ∧ F.Nodup
  foot k := k ∈ F ∧ lo ≤ k ∧ k < hi
  lo := lo
  hi := hi
  inn k h := h.2
  kept h hk := ⟨r.okept h.1 fun k hF => hk k ⟨hF, r.inF h.1 k hF⟩, h.2⟩
section
variable {w0 w w' : World} {L : List Res}
theorem St.alloc (S : St w0 w L) (vs : List Value) (T : TypeId) : St w0 (w.alloc (.cells vs.toArray T)) (vr w.heap.size vs :: L) :=
  S.add ((Below.refl _ _).alloc (Nat.le_refl _) _) (vr w.heap.size vs) (Var.new w vs T) (Nat.le_refl _) (by simp [vr])
theorem St.drew (S : St w0 w L) : St w0 w.drew L := S.call (Below.refl _ _).drew
theorem St.cell (S : St w0 w L) (i : Nat) {b : Nat} {vs : List Value} (h : L[i]? = some (vr b vs)) (j : Nat) {v : Value} (hv : vs[j]? = some v) : w.cell? ⟨b, j, none⟩ = some v := (S.at_ i h).cell j hv
theorem St.loose (S : St w0 w L) (i : Nat) {b : Nat} {vs : List Value} (h : L[i]? = some (vr b vs)) (j : Nat) {v : Value} (hv : vs[j]? = some v) : w.frozen? ⟨b, j, none⟩ = false := (S.at_ i h).loose j hv
/-- A store into a variable. -/
theorem St.store (S : St w0 w L) (i : Nat) {b : Nat} {vs : List Value} (h : L[i]? = some (vr b vs)) (j : Nat) (v : Value) : St w0 (w.setCell ⟨b, j, none⟩ v) (L.set i (vr b (vs.set j v))) :=
  S.turn i h (vr b (vs.set j v)) (Only.set w (show (vr b vs).foot b from rfl) j v) ((S.at_ i h).set j v) (fun k hk => .inl hk) (show w0.heap.size ≤ b from S.lo i (vr b vs) h) (by have := S.hi i (vr b vs) h; simpa [vr] using this)
/-- A call hands back a value of its own. -/
theorem St.got {α : Type} {r : Rp α} {x : α} {cs : List Value} {F : List Nat} (S : St w0 w L) (hb : Below w.heap.size w w') (h : r.own w' w.heap.size w'.heap.size x cs F) (hF : F.Nodup) : St w0 w' (ow r w.heap.size w'.heap.size x cs F :: L) :=
  S.add hb (ow r w.heap.size w'.heap.size x cs F) ⟨h, hF⟩ (Nat.le_refl _) (Nat.le_refl _)
end
/-- What a call hands back: a value of its own. -/
def Gives {α : Type} (r : Rp α) (w : World) (x : α) (e : Ending) (w' : World) : Prop := ∃ cs F, e = .returned (r.val cs) ∧ r.own w' w.heap.size w'.heap.size x cs F ∧ F.Nodup ∧ Below w.heap.size w w'
/-- A claim is taken to pieces: whatever pieces, no two on one block. -/
theorem St.parts {w0 w : World} {T : List Res} {r : Res} (S : St w0 w (r :: T)) (rs : List Res) (hs : ∀ s ∈ rs, s.says w ∧ (∀ k, s.foot k → r.foot k) ∧ w0.heap.size ≤ s.lo ∧ s.hi ≤ w.heap.size) (ha : rs.Pairwise fun s t => ∀ k, s.foot k → ¬ t.foot k) : St w0 w (rs ++ T) := by
  have key : ∀ (j : Nat) (s : Res), (rs ++ T)[j]? = some s → (j < rs.length ∧ rs[j]? = some s) ∨ (rs.length ≤ j ∧ (r :: T)[j - rs.length + 1]? = some s) := fun j s hj => by
    by_cases h : j < rs.length
    · rw [List.getElem?_append_left h] at hj; exact .inl ⟨h, hj⟩
    · rw [List.getElem?_append_right (by omega)] at hj; exact .inr ⟨by omega, by simpa using hj⟩
  have mem : ∀ {j : Nat} {s : Res}, rs[j]? = some s → s ∈ rs := fun h => List.mem_of_getElem? h
  refine ⟨S.below, fun j s hj => ?_, fun j s hj => ?_, fun j s hj => ?_, fun j j' s t hj hj' hne k hk hk' => ?_⟩
  · rcases key j s hj with ⟨_, h⟩ | ⟨_, h⟩
    · exact (hs s (mem h)).1
    · exact S.says _ s h
  · rcases key j s hj with ⟨_, h⟩ | ⟨_, h⟩
    · exact (hs s (mem h)).2.2.1
    · exact S.lo _ s h
  · rcases key j s hj with ⟨_, h⟩ | ⟨_, h⟩
    · exact (hs s (mem h)).2.2.2
    · exact S.hi _ s h
  · rcases key j s hj with ⟨l1, h⟩ | ⟨l1, h⟩
    · rcases key j' t hj' with ⟨l2, h'⟩ | ⟨l2, h'⟩
      · have hp := List.pairwise_iff_getElem.1 ha
        obtain ⟨x1, e1⟩ := List.getElem?_eq_some_iff.1 h
        obtain ⟨x2, e2⟩ := List.getElem?_eq_some_iff.1 h'
        rcases Nat.lt_or_gt_of_ne hne with x | x
        · exact hp j j' x1 x2 x k (by rw [e1]; exact hk) (by rw [e2]; exact hk')
        · exact hp j' j x2 x1 x k (by rw [e2]; exact hk') (by rw [e1]; exact hk)
      · exact S.apart 0 _ r t rfl h' (by omega) k ((hs s (mem h)).2.1 k hk) hk'
    · rcases key j' t hj' with ⟨l2, h'⟩ | ⟨l2, h'⟩
      · exact S.apart 0 _ r s rfl h (by omega) k ((hs t (mem h')).2.1 k hk') hk
      · exact S.apart _ _ s t h h' (by omega) k hk hk'
/-- Two values of their own share no block. -/
theorem St.disj {α β : Type} {w0 w : World} {L : List Res} {r : Rp α} {q : Rp β} {lo hi lo' hi' : Nat} {x : α} {y : β} {cs cs' : List Value} {F G : List Nat} (S : St w0 w L) (i j : Nat) (h : L[i]? = some (ow r lo hi x cs F)) (h' : L[j]? = some (ow q lo' hi' y cs' G)) (hne : i ≠ j) : ∀ k ∈ F, k ∉ G := fun k hk hk' => by
  have h1 := r.inF (S.at_ i h).1 k hk
  have h2 := q.inF (S.at_ j h').1 k hk'
  exact S.apart i j _ _ h h' hne k ⟨hk, h1⟩ ⟨hk', h2⟩
/-- .. as the whole call's own. -/
theorem St.own {α : Type} {w0 w : World} {L : List Res} {r : Rp α} {lo hi : Nat} {x : α} {cs : List Value} {F : List Nat} (S : St w0 w L) (i : Nat) (h : L[i]? = some (ow r lo hi x cs F)) : r.own w w0.heap.size w.heap.size x cs F :=
  r.owide (S.at_ i h).1 (S.lo i _ h) (S.hi i _ h)
theorem St.nodup {α : Type} {w0 w : World} {L : List Res} {r : Rp α} {lo hi : Nat} {x : α} {cs : List Value} {F : List Nat} (S : St w0 w L) (i : Nat) (h : L[i]? = some (ow r lo hi x cs F)) : F.Nodup := (S.at_ i h).2
theorem St.reads {α : Type} {w0 w : World} {L : List Res} {r : Rp α} {lo hi : Nat} {x : α} {cs : List Value} {F : List Nat} (S : St w0 w L) (i : Nat) (h : L[i]? = some (ow r lo hi x cs F)) : r.rd w 0 w.heap.size x cs :=
  r.wide (r.reads (S.own i h)) (Nat.zero_le _) (Nat.le_refl _)
/-- What was there at the start still shows what it showed. -/
theorem St.old {α : Type} {w0 w : World} {L : List Res} {r : Rp α} {x : α} {cs : List Value} (S : St w0 w L) (h : r.rd w0 0 w0.heap.size x cs) : r.rd w 0 w.heap.size x cs :=
  r.wide (rd_below h S.below (Nat.le_refl _)) (Nat.le_refl _) S.below.size
theorem nodup_app {F G : List Nat} (hF : F.Nodup) (hG : G.Nodup) (h : ∀ k ∈ F, k ∉ G) : (F ++ G).Nodup := List.nodup_append.2 ⟨hF, hG, fun a ha b hb e => h a ha (e ▸ hb)⟩
theorem not_app {k : Nat} {F G : List Nat} (h : k ∉ F) (h' : k ∉ G) : k ∉ F ++ G := fun x => (List.mem_append.1 x).elim h h'
theorem ownsRow_keep {w w' : World} {base size n : Nat} {e : TypeId} {v : Value} {xs : List Value} (h : w.ownsRow base e size v n xs) (hk : ∀ k, v.ownBlock = some k → w'.heap[k]? = w.heap[k]?) : w'.ownsRow base e size v n xs := by
  obtain ⟨h1, h2⟩ := h
  refine ⟨h1, ?_⟩
  rcases h2 with h2 | ⟨g, cap, cur, hv, hg, hh, r⟩
  · exact .inl h2
  · exact .inr ⟨g, cap, cur, hv, hg, (hk g (by rw [hv]; rfl)).trans hh, r⟩
theorem ownsRow_low {w : World} {base base' size n : Nat} {e : TypeId} {v : Value} {xs : List Value} (h : w.ownsRow base e size v n xs) (hb : base' ≤ base) : w.ownsRow base' e size v n xs := by
  obtain ⟨h1, h2⟩ := h
  refine ⟨h1, ?_⟩
  rcases h2 with h2 | ⟨g, cap, cur, hv, hg, r⟩
  · exact .inl h2
  · exact .inr ⟨g, cap, cur, hv, Nat.le_trans hb hg, r⟩
theorem row_form {w : World} {base size n : Nat} {e : TypeId} {v : Value} {xs : List Value} (h : w.ownsRow base e size v n xs) : ∃ A c, v = .slice A n c ∧ n ≤ c := by
  rcases h.2 with ⟨rfl, rfl⟩ | ⟨g, cap, cur, rfl, _, _, hc, _⟩
  · exact ⟨none, 0, rfl, Nat.le_refl _⟩
  · exact ⟨_, cap, rfl, hc⟩
theorem row_lies {w : World} {base size n c hi : Nat} {e : TypeId} {A : Option Addr} {xs : List Value} (h : w.ownsRow base e size (.slice A n c) n xs) (hh : ∀ k, (Value.slice A n c).ownBlock = some k → k < hi) : Owned w base hi A xs := by
  have o := Owned.of_row h
  refine ⟨fun j u hu => ?_, o.2⟩
  obtain ⟨b, off, e1, x, y, z⟩ := o.1 j u hu
  exact ⟨b, off, e1, x, hh b (by rw [e1]; rfl), z⟩
/-- A list as it is read: its length is within its capacity. -/
def rdLst {α : Type} (r : Rp α) (w : World) (lo hi : Nat) (xs : List α) (cs : List Value) : Prop := ∃ A c ds, cs = [.slice A xs.length c] ∧ xs.length ≤ c ∧ rdAll r w lo hi xs ds ∧ Lies w lo hi A ds
theorem rdLst.kept {α : Type} {r : Rp α} {w w' : World} {lo hi : Nat} {xs : List α} {cs : List Value} (h : rdLst r w lo hi xs cs) (hb : ∀ k, lo ≤ k → k < hi → w'.heap[k]? = w.heap[k]?) : rdLst r w' lo hi xs cs := by
  obtain ⟨A, c, ds, e, hc, h1, h2⟩ := h
  exact ⟨A, c, ds, e, hc, rdAll_kept hb h1, h2.kept hb⟩
theorem rdLst.wide {α : Type} {r : Rp α} {w : World} {lo hi lo' hi' : Nat} {xs : List α} {cs : List Value} (h : rdLst r w lo hi xs cs) (a : lo' ≤ lo) (b : hi ≤ hi') : rdLst r w lo' hi' xs cs := by
  obtain ⟨A, c, ds, e, hc, h1, h2⟩ := h
  exact ⟨A, c, ds, e, hc, rdAll_wide a b h1, h2.wide a b⟩
/-- Lists in memory of their own, wherever it lies in its block. -/
def rLsw {α : Type} (r : Rp α) : Rp (List α) where
  sz := 1
  val cs := cs.headD undef
  rd := rdLst r
  own w lo hi xs cs F := ∃ A c ds F1, cs = [.slice A xs.length c] ∧ xs.length ≤ c ∧ F = blks A ds ++ F1 ∧ ownAll r w lo hi xs ds F1 ∧ Owned w lo hi A ds
  wf xs := xs.length ≤ maxLen ∧ ∀ x ∈ xs, r.wf x
  cap xs := xs.length ≤ 1048576 ∧ ∀ x ∈ xs, r.cap x
  size xs := xs.length + sizeAll r xs
  cnt xs := cntAll r xs
  mark k xs := mkAll r k xs
  tcnt xs := cntAll r xs
  top k xs := mkAll r k xs
  len h := by obtain ⟨A, c, ds, rfl, _⟩ := h; rfl
  kept h hb := h.kept hb
  wide h a b := h.wide a b
  reads h := by
    obtain ⟨A, c, ds, F1, e, hc, _, h1, h2⟩ := h
    exact ⟨A, c, ds, e, hc, ownAll_reads h1, h2.1⟩
  okept h hb := by
    obtain ⟨A, c, ds, F1, e, hc, rfl, h1, h2⟩ := h
    exact ⟨A, c, ds, F1, e, hc, rfl, ownAll_kept h1 fun k hk => hb k (by simp [hk]), owned_agree h2 fun k hk => hb k (by simp [hk])⟩
  owide h a b := by
    obtain ⟨A, c, ds, F1, e, hc, f, h1, h2⟩ := h
    exact ⟨A, c, ds, F1, e, hc, f, ownAll_wide a b h1, h2.wide a b⟩
  inF h k hk := by
    obtain ⟨A, c, ds, F1, e, hc, rfl, h1, h2⟩ := h
    rcases List.mem_append.1 hk with hk | hk
    · exact blks_in h2 hk
    · exact ownAll_inF h1 k hk
/-- Lists whose memory is a row of their own (e: the type of the row). -/
def rLst {α : Type} (e : TypeId) (r : Rp α) : Rp (List α) where
  sz := 1
  val cs := cs.headD undef
  rd := rdLst r
  own w lo hi xs cs F := ∃ v ds F1, cs = [v] ∧ F = v.ownBlock.toList ++ F1 ∧ ownAll r w lo hi xs ds F1 ∧ w.ownsRow lo e r.sz v xs.length ds ∧ (∀ k, v.ownBlock = some k → k < hi)
  wf xs := xs.length ≤ maxLen ∧ ∀ x ∈ xs, r.wf x
  cap xs := xs.length ≤ 1048576 ∧ ∀ x ∈ xs, r.cap x
  size xs := xs.length + sizeAll r xs
  cnt xs := cntAll r xs
  mark k xs := mkAll r k xs
  tcnt xs := cntAll r xs
  top k xs := mkAll r k xs
  len h := by obtain ⟨A, c, ds, rfl, _⟩ := h; rfl
  kept h hb := h.kept hb
  wide h a b := h.wide a b
  reads h := by
    obtain ⟨v, ds, F1, e1, _, h1, h2, h3⟩ := h
    obtain ⟨A, c, rfl, hc⟩ := row_form h2
    exact ⟨A, c, ds, e1, hc, ownAll_reads h1, (row_lies h2 h3).1⟩
  okept h hb := by
    obtain ⟨v, ds, F1, e1, rfl, h1, h2, h3⟩ := h
    exact ⟨v, ds, F1, e1, rfl, ownAll_kept h1 fun k hk => hb k (by simp [hk]), ownsRow_keep h2 fun k hk => hb k (by simp [hk]), h3⟩
  owide h a b := by
    obtain ⟨v, ds, F1, e1, f, h1, h2, h3⟩ := h
    exact ⟨v, ds, F1, e1, f, ownAll_wide a b h1, ownsRow_low h2 a, fun k hk => Nat.lt_of_lt_of_le (h3 k hk) b⟩
  inF h k hk := by
    obtain ⟨v, ds, F1, e1, rfl, h1, h2, h3⟩ := h
    rcases List.mem_append.1 hk with hk | hk
    · have hk' : v.ownBlock = some k := by simpa using hk
      exact ⟨(h2.lt k hk').1, h3 k hk'⟩
    · exact ownAll_inF h1 k hk
theorem lst_own {α : Type} {e : TypeId} {r : Rp α} {w : World} {lo hi : Nat} {xs : List α} {cs : List Value} {F : List Nat} (h : (rLst e r).own w lo hi xs cs F) : ∃ v, cs = [v] := by
  obtain ⟨v, _, _, e, _⟩ := h
  exact ⟨v, e⟩
theorem lsw_own {α : Type} {r : Rp α} {w : World} {lo hi : Nat} {xs : List α} {cs : List Value} {F : List Nat} (h : (rLsw r).own w lo hi xs cs F) : ∃ v, cs = [v] := by
  obtain ⟨A, c, _, _, e, _⟩ := h
  exact ⟨_, e⟩
theorem lst_rd {α : Type} {r : Rp α} {w : World} {lo hi : Nat} {xs : List α} {cs : List Value} (h : rdLst r w lo hi xs cs) : ∃ v, cs = [v] := by
  obtain ⟨A, c, _, e, _⟩ := h
  exact ⟨_, e⟩
/-- The slice's value, and its length within its capacity. -/
theorem lst_val {α : Type} {r : Rp α} {w : World} {lo hi : Nat} {xs : List α} {v : Value} (h : rdLst r w lo hi xs [v]) : ∃ A c, v = .slice A xs.length c ∧ xs.length ≤ c := by
  obtain ⟨A, c, ds, e, hc, _⟩ := h
  cases e
  exact ⟨A, c, rfl, hc⟩
/-- A row of one's own is memory of one's own. -/
theorem lst_weak {α : Type} {e : TypeId} {r : Rp α} {w : World} {lo hi : Nat} {xs : List α} {cs : List Value} {F : List Nat} (h : (rLst e r).own w lo hi xs cs F) (hF : F.Nodup) : ∃ G, (rLsw r).own w lo hi xs cs G ∧ G.Nodup ∧ ∀ k ∈ G, k ∈ F := by
  obtain ⟨v, ds, F1, rfl, rfl, h1, h2, h3⟩ := h
  obtain ⟨A, c, rfl, hc⟩ := row_form h2
  obtain ⟨_, n1, n2⟩ := List.nodup_append.1 hF
  have hb : ∀ k ∈ blks A ds, (Value.slice A xs.length c).ownBlock = some k := fun k hk => by
    unfold blks at hk
    split at hk
    · cases hk
    · cases A with
      | none => simp at hk
      | some a => simp at hk; rw [hk]; rfl
  refine ⟨blks A ds ++ F1, ⟨A, c, ds, F1, rfl, hc, rfl, h1, row_lies h2 h3⟩, List.nodup_append.2 ⟨?_, n1, fun a ha b hb' e => n2 a (by simp [hb a ha]) b hb' e⟩, fun k hk => ?_⟩
  · unfold blks
    split
    · simp
    · cases A <;> simp
  · rcases List.mem_append.1 hk with hk | hk
    · simp [hb k hk]
    · simp [hk]
theorem St.weak {α : Type} {e : TypeId} {r : Rp α} {w0 w : World} {L : List Res} {lo hi : Nat} {xs : List α} {cs : List Value} {F : List Nat} (S : St w0 w L) (i : Nat) (h : L[i]? = some (ow (rLst e r) lo hi xs cs F)) : ∃ G, St w0 w (L.set i (ow (rLsw r) lo hi xs cs G)) := by
  obtain ⟨h1, h2⟩ := S.at_ i h
  obtain ⟨G, h3, h4, h5⟩ := lst_weak h1 h2
  exact ⟨G, S.turn i h (ow (rLsw r) lo hi xs cs G) (Only.refl _ _) ⟨h3, h4⟩ (fun k hk => .inl ⟨h5 k hk.1, hk.2⟩) (S.lo i (ow (rLst e r) lo hi xs cs F) h) (S.hi i (ow (rLst e r) lo hi xs cs F) h)⟩
/-- Lists of pairs and of numbers, cell by cell. -/
def pcells (l : List (Int × Int)) : List Value := l.flatMap fun s => [.int .i64 s.1, .int .i64 s.2]
theorem p2_cells {w : World} {lo hi : Nat} : ∀ {l : List (Int × Int)} {ds : List Value}, rdAll (rPair rInt rInt) w lo hi l ds → ds = pcells l
  | [], ds, h => h
  | s :: l, ds, h => by
    obtain ⟨c1, c2, rfl, ⟨a, b, rfl, ha, hb⟩, h2⟩ := h
    rw [show a = _ from ha, show b = _ from hb, p2_cells h2]
    rfl
theorem p2_all (w : World) (lo hi : Nat) : ∀ (l : List (Int × Int)), rdAll (rPair rInt rInt) w lo hi l (pcells l)
  | [] => rfl
  | s :: l => ⟨[.int .i64 s.1, .int .i64 s.2], pcells l, rfl, ⟨_, _, rfl, rfl, rfl⟩, p2_all w lo hi l⟩
def icells (l : List Int) : List Value := l.map fun n => .int .i64 n
theorem i1_cells {w : World} {lo hi : Nat} : ∀ {l : List Int} {ds : List Value}, rdAll rInt w lo hi l ds → ds = icells l
  | [], ds, h => h
  | s :: l, ds, h => by
    obtain ⟨c1, c2, rfl, h1, h2⟩ := h
    rw [show c1 = _ from h1, i1_cells h2]
    rfl
theorem i1_all (w : World) (lo hi : Nat) : ∀ (l : List Int), rdAll rInt w lo hi l (icells l)
  | [] => rfl
  | s :: l => ⟨[.int .i64 s], icells l, rfl, rfl, i1_all w lo hi l⟩
theorem p2_lies {w : World} {lo hi n c : Nat} {A : Option Addr} {l : List (Int × Int)} (h : rdLst (rPair rInt rInt) w lo hi l [.slice A n c]) : Lies w lo hi A (pcells l) := by
  obtain ⟨A', c', ds, e, _, h1, h2⟩ := h
  cases e
  rwa [p2_cells h1] at h2
theorem i1_lies {w : World} {lo hi n c : Nat} {A : Option Addr} {l : List Int} (h : rdLst rInt w lo hi l [.slice A n c]) : Lies w lo hi A (icells l) := by
  obtain ⟨A', c', ds, e, _, h1, h2⟩ := h
  cases e
  rwa [i1_cells h1] at h2
/-- What an old contract hands back: a list of pairs in memory of its own. -/
theorem p2_own {w : World} {lo hi c : Nat} {A : Option Addr} {l : List (Int × Int)} (hc : l.length ≤ c) (h : Owned w lo hi A (pcells l)) : (rLsw (rPair rInt rInt)).own w lo hi l [.slice A l.length c] (blks A (pcells l)) ∧ (blks A (pcells l)).Nodup :=
  ⟨⟨A, c, pcells l, [], rfl, hc, by simp, (show ∀ l : List (Int × Int), ownAll (rPair rInt rInt) w lo hi l (pcells l) [] from fun l => by
    induction l with
    | nil => exact ⟨rfl, rfl⟩
    | cons s l ih => exact ⟨[.int .i64 s.1, .int .i64 s.2], pcells l, [], [], rfl, rfl, ⟨_, _, [], [], rfl, rfl, ⟨rfl, rfl⟩, ⟨rfl, rfl⟩⟩, ih⟩) l, h⟩, by
    unfold blks
    split
    · simp
    · cases A <;> simp⟩
end Go.Proofs.Ytdbhfadiinmgiaa.Stt
namespace Go.Proofs.Ytdbhfadiinmgiaa.Stt
set_option maxRecDepth 100000
open Go.ChangeShapes Go.WideShapes Go.ChangeAt Go.RowKit Go.Deep
open Go.Proofs.Ytdbhfadiinmgiaa.Base Go.Proofs.Ytdbhfadiinmgiaa.Mem Go.Proofs.Ytdbhfadiinmgiaa.Data
set_option linter.unusedVariables false
section
variable {P : Program} {w0 w w' : World} {L : List Res}
theorem Var.setCells {b : Nat} : ∀ (us vs : List Value) (o : Nat) (w : World), Var w b vs → Var (w.setCells b o us) b (us.foldl (fun (p : List Value × Nat) u => (p.1.set p.2 u, p.2 + 1)) (vs, o)).1
  | [], vs, o, w, h => h
  | u :: us, vs, o, w, h => by
    rw [World.setCells, List.foldl_cons]
    exact Var.setCells us (vs.set o u) (o + 1) _ (h.set o u)
theorem Only.setCells {f : Nat → Prop} {b : Nat} (hf : f b) : ∀ (us : List Value) (o : Nat) (w : World), Only f w (w.setCells b o us)
  | [], o, w => Only.refl _ _
  | u :: us, o, w => by
    rw [World.setCells]
    exact (Only.set w hf o u).trans (Only.setCells hf us (o + 1) _)
theorem setCells_size {b : Nat} : ∀ (us : List Value) (o : Nat) (w : World), (w.setCells b o us).heap.size = w.heap.size
  | [], o, w => rfl
  | u :: us, o, w => by rw [World.setCells, setCells_size us]; simp
/-- Values that are cells and no more. -/
structure Flat {α : Type} (r : Rp α) : Prop where
  own : ∀ {w : World} {lo hi : Nat} {x : α} {cs : List Value} (w' : World) (lo' hi' : Nat), r.rd w lo hi x cs → r.own w' lo' hi' x cs []
  one : ∀ {w : World} {lo hi : Nat} {x : α} {cs : List Value}, r.rd w lo hi x cs → ∀ u ∈ cs, u.oneCell' = true
theorem flat_int : Flat rInt := ⟨fun w' lo' hi' h => ⟨h, rfl⟩, fun h u hu => by rw [show _ = _ from h] at hu; simp at hu; subst hu; rfl⟩
theorem flat_pair {α β : Type} {r : Rp α} {q : Rp β} (hr : Flat r) (hq : Flat q) : Flat (rPair r q) :=
  ⟨fun w' lo' hi' h => by
    obtain ⟨c1, c2, e, h1, h2⟩ := h
    exact ⟨c1, c2, [], [], e, rfl, hr.own w' lo' hi' h1, hq.own w' lo' hi' h2⟩, fun h u hu => by
    obtain ⟨c1, c2, e, h1, h2⟩ := h
    rw [e] at hu
    exact (List.mem_append.1 hu).elim (hr.one h1 u) (hq.one h2 u)⟩
theorem flat_P2 : Flat (rPair rInt rInt) := flat_pair flat_int flat_int
theorem flat_all {α : Type} {r : Rp α} (hf : Flat r) {w : World} {lo hi : Nat} (w' : World) (lo' hi' : Nat) : ∀ {xs : List α} {ds : List Value}, rdAll r w lo hi xs ds → ownAll r w' lo' hi' xs ds []
  | [], ds, h => ⟨h, rfl⟩
  | x :: xs, ds, h => by
    obtain ⟨c1, c2, e, h1, h2⟩ := h
    exact ⟨c1, c2, [], [], e, rfl, hf.own w' lo' hi' h1, flat_all hf w' lo' hi' h2⟩
theorem flat_ones {α : Type} {r : Rp α} (hf : Flat r) {w : World} {lo hi : Nat} : ∀ {xs : List α} {ds : List Value}, rdAll r w lo hi xs ds → ∀ u ∈ ds, u.oneCell' = true
  | [], ds, h, u, hu => by rw [show ds = [] from h] at hu; cases hu
  | x :: xs, ds, h, u, hu => by
    obtain ⟨c1, c2, e, h1, h2⟩ := h
    rw [e] at hu
    exact (List.mem_append.1 hu).elim (hf.one h1 u) (flat_ones hf h2 u)
/-- A fresh slice without an element. -/
theorem St.fresh {α : Type} (S : St w0 w L) (e : TypeId) (r : Rp α) : St w0 (w.alloc (.cells #[] e)) (ow (rLst e r) w.heap.size (w.alloc (.cells #[] e)).heap.size [] [.slice (some ⟨w.heap.size, 0, none⟩) 0 0] [w.heap.size] :: L) :=
  S.add ((Below.refl _ _).alloc (Nat.le_refl _) _) _ ⟨⟨_, [], [], rfl, rfl, ⟨rfl, rfl⟩, World.ownsRow_made w #[] 0 (Nat.le_refl _) (Nat.zero_le _) (by simp), fun k hk => by cases hk; simp⟩, by simp⟩ (Nat.le_refl _) (Nat.le_refl _)
/-- 'append' onto a row of the call's own, from whatever source (nil, empty or not). -/
theorem run_app (w : World) (base : Nat) (t ty e : TypeId) (i : TypeInfo) (z : Value) (size bytes : Nat) (ht : P.underlying t = some (.slice e)) (hi : P.info? e = some i) (hz : i.zero = some z)
    (hsize : i.size = size) (hby : i.bytes = bytes) (hzs : z.cells.size = size) (hsz : 0 < size) (v : Value) (n : Nat) (xs : List Value) (hown : w.ownsRow base e size v n xs)
    (A : Option Addr) (m c : Nat) (news : List Value) (hl : news.length = m * size) (hsrc : ∀ j u, news[j]? = some u → ∃ ad, A = some ad ∧ w.cell? (ad.add j) = some u) (h1 : ∀ u ∈ news, u.oneCell' = true)
    (h63 : n + m ≤ maxLen) (hbytes : (n + m) * bytes ≤ 140737488355328) (hbase : base ≤ w.heap.size) :
    ∃ v' w', (Builtin.append_ #[t, t] ty #[v, .slice A m c]).run P w = .ok v' w' ∧ w'.ownsRow base e size v' (n + m) (xs ++ news) ∧ w.grownBy w' v.ownBlock ∧ (v'.ownBlock = v.ownBlock ∨ v'.ownBlock = some w.heap.size) := by
  rcases A with _ | ad
  · have hn : news = [] := by
      rcases news with _ | ⟨u, r⟩
      · rfl
      · obtain ⟨ad, h, _⟩ := hsrc 0 u rfl
        cases h
    subst hn
    have hm : m = 0 := by
      rcases Nat.eq_zero_or_pos m with h | h
      · exact h
      · have := Nat.mul_pos h hsz
        simp at hl
        omega
    subst hm
    obtain ⟨A', c', rfl, hc⟩ := row_form hown
    refine ⟨_, w, ?_, by simpa using hown, World.grownBy.refl w _, .inl rfl⟩
    simp [Builtin.append_, run_underlying ht, sizeOf, typeInfo, hi, Builtin.lenOf, Builtin.firstCells, storeCells, hc]
    cases A' <;> rfl
  · obtain ⟨v', w', hr, h2, h3, _, h5⟩ := run_append_own_at (P := P) w base t ty e i z size bytes ht hi hz hsize hby hzs hsz v n xs hown ad m c news hl
      (fun j u hu => by
        obtain ⟨ad', h, hc⟩ := hsrc j u hu
        cases h
        exact hc) h1 h63 hbytes hbase
    exact ⟨v', w', hr, h2, h3, h5⟩
/-- What an append leaves, as a claim: the old elements' memory and that of the new ones (G) is as it was. -/
theorem app_claim {α : Type} {r : Rp α} {e : TypeId} {w w' : World} {b0 lo hi : Nat} {xs ys : List α} {v v' : Value} {F G : List Nat} {news : List Value} (hnd : F.Nodup) (hb : b0 ≤ lo) (hb2 : hi ≤ w.heap.size)
    {ds : List Value} {F1 : List Nat} (hF : F = v.ownBlock.toList ++ F1) (hall : ownAll r w lo hi xs ds F1) (hrow : w.ownsRow lo e r.sz v xs.length ds)
    {lo2 hi2 : Nat} (hnew : ownAll r w lo2 hi2 ys news G) (hG : G.Nodup) (hFG : ∀ q ∈ F, q ∉ G) (hb3 : b0 ≤ lo2) (hb4 : hi2 ≤ w.heap.size)
    (hown : w'.ownsRow b0 e r.sz v' (xs.length + ys.length) (ds ++ news)) (hgr : w.grownBy w' v.ownBlock) (hat : v'.ownBlock = v.ownBlock ∨ v'.ownBlock = some w.heap.size) :
    (rLst e r).own w' b0 w'.heap.size (xs ++ ys) [v'] (v'.ownBlock.toList ++ (F1 ++ G)) ∧ (v'.ownBlock.toList ++ (F1 ++ G)).Nodup := by
  subst hF
  obtain ⟨_, n1, n2⟩ := List.nodup_append.1 hnd
  have hF1 : ∀ q ∈ F1, lo ≤ q ∧ q < hi := fun q hq => ownAll_inF hall q hq
  have hG1 : ∀ q ∈ G, lo2 ≤ q ∧ q < hi2 := fun q hq => ownAll_inF hnew q hq
  have k1 : ∀ q ∈ F1, w'.heap[q]? = w.heap[q]? := fun q hq => hgr.block q (by have := hF1 q hq; omega) (fun e => n2 q (by simp [← e]) q hq rfl)
  have k2 : ∀ q ∈ G, w'.heap[q]? = w.heap[q]? := fun q hq => hgr.block q (by have := hG1 q hq; omega) (fun e => hFG q (by simp [← e]) hq)
  refine ⟨⟨v', ds ++ news, F1 ++ G, rfl, rfl, ownAll_append (ownAll_wide hb (Nat.le_trans hb2 hgr.size) (ownAll_kept hall k1)) (ownAll_wide hb3 (Nat.le_trans hb4 hgr.size) (ownAll_kept hnew k2)), by simpa using hown, fun q hq => (hown.lt q hq).2⟩, nodup_app ?_ (nodup_app n1 hG fun q hq => hFG q (by simp [hq])) fun q hq => ?_⟩
  · cases v'.ownBlock <;> simp
  · have hq' : v'.ownBlock = some q := by simpa using hq
    rcases hat with h | h
    · rw [h] at hq'
      exact not_app (fun h' => n2 q (by simp [hq']) q h' rfl) (hFG q (by simp [hq']))
    · rw [h] at hq'
      cases hq'
      exact not_app (fun h' => by have := hF1 _ h'; omega) (fun h' => by have := hG1 _ h'; omega)
/-- 'append(x, ys...)' where the call holds x and the ys are plain values; with no x: a copy. -/
theorem wpList_apps {α : Type} {r : Rp α} {e : TypeId} {ops : Array Oper} {rest : List Oper} {o : Oper} {a : Act} {Q : Exit → Act → World → Prop} (S : St w0 w L) (k : Nat) {lo hi : Nat} {xs : List α} {v : Value} {F : List Nat} (hk : L[k]? = some (ow (rLst e r) lo hi xs [v] F))
    {ys zs : List α} {vx : Value} (hxs : rdLst r w 0 w.heap.size ys [vx]) (hzz : xs ++ ys = zs) (m : Nat) (hm : zs.length = m) (hf : Flat r)
    (hgd : o.guard = none) (s x : Operand) (t : TypeId) (ho : o.op = .call { callee := .builtin .append, args := #[s, x], argTypes := #[t, t] })
    (i : TypeInfo) (z : Value) (size bytes : Nat) (ht : P.underlying t = some (.slice e)) (hi' : P.info? e = some i) (hz : i.zero = some z) (hsize : i.size = size) (hby : i.bytes = bytes) (hzs : z.cells.size = size) (hsz : 0 < size) (hr : r.sz = size)
    (hs : a.eval s = v) (hx : a.eval x = vx) (h63 : xs.length + ys.length ≤ maxLen) (hbytes : (xs.length + ys.length) * bytes ≤ 140737488355328)
    (h : ∀ A c F' w', m ≤ c → St w0 w' (L.set k (ow (rLst e r) w0.heap.size w'.heap.size zs [.slice A m c] F')) → wpList P ops Q rest (a.put o.dst (.slice A m c)) w') : wpList P ops Q (o :: rest) a w := by
  subst hm
  obtain ⟨⟨v', ds0, F1, e1, hF, hall, hrow, hhi⟩, hnd⟩ := S.at_ k hk
  cases e1
  have hlo' : w0.heap.size ≤ lo := S.lo k _ hk
  have hhi' : hi ≤ w.heap.size := S.hi k _ hk
  obtain ⟨A, c, ds, e2, hc, hrd, hl⟩ := hxs
  cases e2
  have hlen := rdAll_len hrd
  subst hr hzz
  refine wpList_plain hgd fun K hK => ?_
  obtain ⟨v', w', hrun, hown, hgr, hat⟩ := run_app (P := P) w w0.heap.size t o.type e i z r.sz bytes ht hi' hz hsize hby hzs hsz v xs.length ds0 (ownsRow_low hrow hlo') A ys.length c ds hlen (fun j u hu => by
    obtain ⟨b, off, e, _, _, hcell⟩ := hl j u hu
    exact ⟨_, e, by rw [Addr.add_lit]; exact hcell⟩) (flat_ones hf hrd) h63 hbytes S.below.size
  unfold Oper.wp execOp
  simp only [ho, resolve, invoke, builtin, Sem.run_bind, Sem.run_pure, Result.andThen_ok, List.map_toArray, List.map_cons, List.map_nil, hs, hx, hrun]
  have hcl := app_claim (b0 := w0.heap.size) hnd hlo' hhi' hF hall hrow (flat_all hf w w0.heap.size w.heap.size hrd) (by simp) (fun q _ => by simp) (Nat.le_refl _) (Nat.le_refl _) hown hgr hat
  obtain ⟨A', c', rfl, hc'⟩ := row_form hown
  rw [← List.length_append] at hcl hc' ⊢
  have hfoot : ∀ q, v.ownBlock = some q → (ow (rLst e r) lo hi xs [v] F).foot q := fun q hq => ⟨by rw [hF]; simp [hq], (hrow.lt q hq).1, hhi q hq⟩
  refine hK _ _ (h A' c' _ w' hc' (S.turn k hk _ (Only.of_grown hgr hfoot) hcl (fun q hq => ?_) (Nat.le_refl _) (Nat.le_refl _)))
  obtain ⟨hq, _, hq2⟩ := hq
  rw [List.append_nil] at hq
  rcases List.mem_append.1 hq with hq | hq
  · have hq' : (Value.slice A' (xs.length + ys.length) c').ownBlock = some q := by rw [← List.length_append]; simpa using hq
    rcases hat with h5 | h5
    · exact .inl (hfoot q (h5.symm.trans hq'))
    · rw [h5] at hq'; cases hq'; right; exact Nat.le_refl _
  · have := ownAll_inF hall q hq
    exact .inl ⟨by rw [hF]; simp [hq], this⟩
/-- One element in a block of its own, as a slice that is read. -/
theorem St.box {α : Type} {r : Rp α} (S : St w0 w L) (i : Nat) {b : Nat} {vs : List Value} (h : L[i]? = some (vr b vs)) {x : α} (hx : r.rd w 0 w.heap.size x vs) (c : Nat) (hc : 1 ≤ c) : rdLst r w 0 w.heap.size [x] [.slice (some ⟨b, 0, none⟩) 1 c] :=
  ⟨_, c, vs, rfl, hc, rdAll_one hx, fun j u hu => ⟨b, 0, rfl, Nat.zero_le _, (S.at_ i h).2, by rw [Nat.zero_add]; exact S.cell i h j hu⟩⟩
/-- The nil slice is a list of one's own. -/
theorem St.nil {α : Type} (S : St w0 w L) (e : TypeId) (r : Rp α) : St w0 w (ow (rLst e r) w.heap.size w.heap.size [] [.slice none 0 0] [] :: L) :=
  S.add (Below.refl _ _) _ ⟨⟨.slice none 0 0, [], [], rfl, rfl, ⟨rfl, rfl⟩, World.ownsRow_nil _ _ _ _, fun k hk => by cases hk⟩, by simp⟩ (Nat.le_refl _) (Nat.le_refl _)
/-- A call hands back a list of pairs of its own, as the contracts of chapter 3 say it. -/
theorem St.gotp {A : Option Addr} {l : List (Int × Int)} {c : Nat} (S : St w0 w L) (hb : Below w.heap.size w w') (hc : l.length ≤ c) (h : Owned w' w.heap.size w'.heap.size A (pcells l)) : St w0 w' (ow (rLsw (rPair rInt rInt)) w.heap.size w'.heap.size l [.slice A l.length c] (blks A (pcells l)) :: L) :=
  S.got hb (p2_own hc h).1 (p2_own hc h).2
theorem St.range (S : St w0 w L) (i : Nat) {b : Nat} {vs : List Value} (h : L[i]? = some (vr b vs)) : w.rangeAt b 0 vs := fun j v hv => by rw [Nat.zero_add]; exact S.cell i h j hv
end
end Go.Proofs.Ytdbhfadiinmgiaa.Stt
namespace Go.Proofs.Ytdbhfadiinmgiaa.Slots
set_option maxRecDepth 100000
open Go.ChangeShapes Go.WideShapes Go.ChangeAt Go.RowKit
open Go.Proofs.Ytdbhfadiinmgiaa.Base Go.Proofs.Ytdbhfadiinmgiaa.Mem
/-- The cells of a list of slots. -/
def scells : List (Int × Int) → List Value
  | [] => []
  | p :: l => .int .i64 p.1 :: .int .i64 p.2 :: scells l
theorem scells_len : ∀ l, (scells l).length = 2 * l.length
  | [] => rfl
  | p :: l => by simp [scells, scells_len l]; omega
theorem scells_fst : ∀ (l : List (Int × Int)) (k : Nat) (h : k < l.length), (scells l)[k * 2]? = some (.int .i64 l[k].1)
  | p :: l, 0, _ => rfl
  | p :: l, k + 1, h => by
    have := scells_fst l k (by simpa using h)
    rw [show (k + 1) * 2 = k * 2 + 1 + 1 by omega]
    simpa [scells] using this
theorem scells_snd : ∀ (l : List (Int × Int)) (k : Nat) (h : k < l.length), (scells l)[k * 2 + 1]? = some (.int .i64 l[k].2)
  | p :: l, 0, _ => rfl
  | p :: l, k + 1, h => by
    have := scells_snd l k (by simpa using h)
    rw [show (k + 1) * 2 + 1 = k * 2 + 1 + 1 + 1 by omega]
    simpa [scells] using this
theorem scells_append : ∀ l m, scells (l ++ m) = scells l ++ scells m
  | [], m => rfl
  | p :: l, m => by simp [scells, scells_append l m]
theorem slot_at {w : World} {lo hi : Nat} {A : Option Addr} {l : List (Int × Int)} (h : Lies w lo hi A (scells l)) (k : Nat) (hk : k < l.length) :
    ∃ b off, A = some ⟨b, off, none⟩ ∧ lo ≤ b ∧ b < hi ∧ w.cell? ⟨b, off + k * 2, none⟩ = some (.int .i64 l[k].1) ∧ w.cell? ⟨b, off + k * 2 + 1, none⟩ = some (.int .i64 l[k].2) := by
  obtain ⟨b, off, e, x, y, hc⟩ := h.at_ (by rw [scells_len]; omega)
  exact ⟨b, off, e, x, y, hc _ _ (scells_fst l k hk), by rw [Nat.add_assoc]; exact hc _ _ (scells_snd l k hk)⟩
theorem grown_of_below {w w' : World} (h : Below w.heap.size w w') (row : Option Nat) : w.grownBy w' row := ⟨h.os, h.tape, h.output, h.size, fun i hi _ => h.block i hi⟩
/-- Two cells of a row may be written. -/
theorem row_two {w : World} {base g n c : Nat} {e : TypeId} {xs : List Value} (h : w.ownsRow base e 2 (.slice (some ⟨g, 0, none⟩) n c) n xs) {k : Nat} (hk : k < n) :
    (∃ u, w.cell? ⟨g, k * 2, none⟩ = some u) ∧ (∃ u, w.cell? ⟨g, k * 2 + 1, none⟩ = some u) ∧ w.frozen? ⟨g, k * 2, none⟩ = false ∧ w.frozen? ⟨g, k * 2 + 1, none⟩ = false := by
  have hl := h.1
  refine ⟨⟨xs[k * 2]'(by omega), ?_⟩, ⟨xs[k * 2 + 1]'(by omega), ?_⟩, h.frozenAt _, h.frozenAt _⟩
  · rw [h.cellAt _ (by omega)]; exact List.getElem?_eq_getElem _
  · rw [h.cellAt _ (by omega)]; exact List.getElem?_eq_getElem _
theorem row_set2 {w : World} {base g n c : Nat} {e : TypeId} {xs : List Value} (h : w.ownsRow base e 2 (.slice (some ⟨g, 0, none⟩) n c) n xs) (k : Nat) (u v : Value) :
    ((w.setCell ⟨g, k * 2, none⟩ u).setCell ⟨g, k * 2 + 1, none⟩ v).ownsRow base e 2 (.slice (some ⟨g, 0, none⟩) n c) n ((xs.set (k * 2) u).set (k * 2 + 1) v) :=
  ((h.stored (k * 2) u).1.stored (k * 2 + 1) v).1
def RowPost (w : World) (n : Nat) (l : List (Int × Int)) (e : Ending) (w' : World) : Prop :=
  ∃ ad c, e = .returned (.slice (some ad) n c) ∧ n ≤ c ∧ Owned w' w.heap.size w'.heap.size (some ad) (scells l) ∧ Below w.heap.size w w'
end Go.Proofs.Ytdbhfadiinmgiaa.Slots
namespace Go.Proofs.Ytdbhfadiinmgiaa.Ints
set_option maxRecDepth 100000
open Go.ChangeShapes Go.WideShapes Go.ChangeAt Go.RowKit
open Go.Proofs.Ytdbhfadiinmgiaa.Base Go.Proofs.Ytdbhfadiinmgiaa.Mem
/-- The cells of a list of numbers. -/
def ncells (l : List Int) : List Value := l.map (Value.int .i64)
theorem ncells_len (l : List Int) : (ncells l).length = l.length := by simp [ncells]
theorem ncells_at (l : List Int) (k : Nat) (h : k < l.length) : (ncells l)[k]? = some (.int .i64 l[k]) := by simp [ncells, h]
theorem int_at {w : World} {lo hi : Nat} {A : Option Addr} {l : List Int} (h : Lies w lo hi A (ncells l)) (k : Nat) (hk : k < l.length) :
    ∃ b off, A = some ⟨b, off, none⟩ ∧ lo ≤ b ∧ b < hi ∧ w.cell? ⟨b, off + k, none⟩ = some (.int .i64 l[k]) := by
  obtain ⟨b, off, e, x, y, hc⟩ := h.at_ (by rw [ncells_len]; omega)
  exact ⟨b, off, e, x, y, hc _ _ (ncells_at l k hk)⟩
end Go.Proofs.Ytdbhfadiinmgiaa.Ints
namespace Go.Proofs.Ytdbhfadiinmgiaa.Rights
set_option maxRecDepth 100000
open Go.ChangeShapes Go.WideShapes Go.ChangeAt Go.RowKit
/-- Valid rights. -/
def rok (r : Int) : Bool := decide (0 ≤ r ∧ r ≤ 3)
/-- The one set contains the other. -/
def has (a b : Int) : Bool := bits .and .i64 a b == b
def both (a b : Int) : Int := if rok a = true ∧ rok b = true then bits .and .i64 a b else 0
end Go.Proofs.Ytdbhfadiinmgiaa.Rights
namespace Go.Proofs.Ytdbhfadiinmgiaa.Base
set_option maxRecDepth 100000
open Go.ChangeShapes Go.WideShapes Go.ChangeAt Go.RowKit
def inB (n a b : Int) : Bool := decide (a ≤ n) && decide (n ≤ b)
theorem inB_iff {n a b : Int} : inB n a b = true ↔ a ≤ n ∧ n ≤ b := by simp [inB]
theorem inB_false {n a b : Int} : inB n a b = false ↔ n < a ∨ b < n := by simp [inB]; omega
theorem spec_in (n a b : Int) (w : World) :
    Calls Try.prog 53 #[.int .i64 n, .int .i64 a, .int .i64 b] w fun e w' => e = .returned (.bool (inB n a b)) ∧ w = w' := by
  cases h1 : decide (a ≤ n)
  all_goals
    cases h2 : decide (n ≤ b)
    all_goals
      have hv : inB n a b = (decide (a ≤ n) && decide (n ≤ b)) := rfl
      rw [h1, h2] at hv
      simp only [Bool.and_false, Bool.and_true] at hv
      rw [hv]; clear hv
      go_enter Try.func53, Try.ntmps53
      go_wp2
      go_ret
      exact ⟨rfl, rfl⟩
end Go.Proofs.Ytdbhfadiinmgiaa.Base
namespace Go.Proofs.Ytdbhfadiinmgiaa.Slots
set_option maxRecDepth 100000
open Go.ChangeShapes Go.WideShapes Go.ChangeAt Go.RowKit
open Go.Proofs.Ytdbhfadiinmgiaa.Base Go.Proofs.Ytdbhfadiinmgiaa.Mem Go.Proofs.Ytdbhfadiinmgiaa.Ints
abbrev Sl := Int × Int
def wfS (s : Sl) : Prop := (Lit.int .i64 s.1).wf = true ∧ (Lit.int .i64 s.2).wf = true
def wfL (l : List Sl) : Prop := ∀ s ∈ l, wfS s
def nosL (n : Nat) : List Sl := List.replicate n (-1, 0)
end Go.Proofs.Ytdbhfadiinmgiaa.Slots
namespace Go.Proofs.Ytdbhfadiinmgiaa.Slots
set_option maxRecDepth 100000
open Go.ChangeShapes Go.WideShapes Go.ChangeAt Go.RowKit Go.Deep
open Go.Proofs.Ytdbhfadiinmgiaa.Base Go.Proofs.Ytdbhfadiinmgiaa.Mem
theorem laid : laidOutB Try.prog = true := by kernel_rfl
section
variable {H : Type} {enc : TypeId × Value → H}
end
end Go.Proofs.Ytdbhfadiinmgiaa.Slots
namespace Go.Proofs.Ytdbhfadiinmgiaa.Inss
set_option maxRecDepth 100000
open Go.ChangeShapes Go.WideShapes Go.ChangeAt Go.RowKit
open Go.Proofs.Ytdbhfadiinmgiaa.Base Go.Proofs.Ytdbhfadiinmgiaa.Mem Go.Proofs.Ytdbhfadiinmgiaa.Data
set_option linter.unusedVariables false
set_option linter.unusedSimpArgs false
abbrev JT := Int × Int
/-- The cells of a list of them. -/
def jcells : List JT → List Value
  | [] => []
  | p :: l => .int .i64 p.1 :: .int .i64 p.2 :: jcells l
theorem jcells_len : ∀ l, (jcells l).length = 2 * l.length
  | [] => rfl
  | p :: l => by simp [jcells, jcells_len l]; omega
theorem jcells_at0 : ∀ (l : List JT) (k : Nat) (h : k < l.length), (jcells l)[k * 2]? = some (.int .i64 l[k].1)
  | p :: l, 0, _ => rfl
  | p :: l, k + 1, h => by
    have := jcells_at0 l k (by simpa using h)
    rw [show (k + 1) * 2 = k * 2 + 1 + 1 by omega]
    simpa [jcells] using this
theorem jcells_at1 : ∀ (l : List JT) (k : Nat) (h : k < l.length), (jcells l)[k * 2 + 1]? = some (.int .i64 l[k].2)
  | p :: l, 0, _ => rfl
  | p :: l, k + 1, h => by
    have := jcells_at1 l k (by simpa using h)
    rw [show (k + 1) * 2 + 1 = k * 2 + 1 + 1 + 1 by omega]
    simpa [jcells] using this
theorem jcells_append : ∀ l m, jcells (l ++ m) = jcells l ++ jcells m
  | [], m => rfl
  | p :: l, m => by simp [jcells, jcells_append l m]
theorem j_at {w : World} {lo hi : Nat} {A : Option Addr} {l : List JT} (h : Lies w lo hi A (jcells l)) (k : Nat) (hk : k < l.length) :
    ∃ b off, A = some ⟨b, off, none⟩ ∧ lo ≤ b ∧ b < hi ∧ w.cell? ⟨b, off + k * 2, none⟩ = some (.int .i64 l[k].1) ∧ w.cell? ⟨b, off + k * 2 + 1, none⟩ = some (.int .i64 l[k].2) := by
  obtain ⟨b, off, e, x, y, hc⟩ := h.at_ (by rw [jcells_len]; omega)
  exact ⟨b, off, e, x, y, hc _ _ (jcells_at0 l k hk), by rw [Nat.add_assoc]; exact hc _ _ (jcells_at1 l k hk)⟩
theorem jset {l : List JT} {k : Nat} (hk : k < l.length) (x0 x1 : Int) : ((jcells l).set (k * 2) (.int .i64 x0)).set (k * 2 + 1) (.int .i64 x1) = jcells (l.set k (x0, x1)) := by
  induction l generalizing k with
  | nil => simp at hk
  | cons p l ih => cases k with
    | zero => simp [jcells]
    | succ k =>
      have h := ih (k := k) (by simpa using hk)
      simp only [List.set_cons_succ, jcells]
      rw [← h]
      rw [show (k + 1) * 2 + 1 = k * 2 + 1 + 1 + 1 by omega]
      rw [show (k + 1) * 2 = k * 2 + 1 + 1 by omega]
      simp only [List.set_cons_succ]
/-- The cells of a row may be written. -/
theorem jrow_some {w : World} {base g n c : Nat} {e : TypeId} {xs : List Value} (h : w.ownsRow base e 2 (.slice (some ⟨g, 0, none⟩) n c) n xs) {k : Nat} (hk : k < n) :
    (∃ u, w.cell? ⟨g, k * 2, none⟩ = some u) ∧ (∃ u, w.cell? ⟨g, k * 2 + 1, none⟩ = some u) ∧ w.frozen? ⟨g, k * 2, none⟩ = false ∧ w.frozen? ⟨g, k * 2 + 1, none⟩ = false := by
  have hl := h.1
  refine ⟨⟨xs[k * 2]'(by omega), ?_⟩, ⟨xs[k * 2 + 1]'(by omega), ?_⟩, h.frozenAt _, h.frozenAt _⟩
  · rw [h.cellAt _ (by omega)]; exact List.getElem?_eq_getElem _
  · rw [h.cellAt _ (by omega)]; exact List.getElem?_eq_getElem _
theorem jrow_set {w : World} {base g n c : Nat} {e : TypeId} {xs : List Value} (h : w.ownsRow base e 2 (.slice (some ⟨g, 0, none⟩) n c) n xs) (k : Nat) (u0 u1 : Value) :
    ((w.setCell ⟨g, k * 2, none⟩ u0).setCell ⟨g, k * 2 + 1, none⟩ u1).ownsRow base e 2 (.slice (some ⟨g, 0, none⟩) n c) n ((xs.set (k * 2) u0).set (k * 2 + 1) u1) :=
  (h.stored (k * 2) u0).1.stored (k * 2 + 1) u1 |>.1
theorem Try.infoIns : (Try.prog.info? 42).map (fun i => (i.zero, i.size, i.bytes)) = some (some (.agg #[.int .i64 0, .int .i64 0]), 2, 16) := by kernel_rfl
def wfJ (s : JT) : Prop := (Lit.int .i64 s.1).wf = true ∧ (Lit.int .i64 s.2).wf = true
def wfJL (l : List JT) : Prop := ∀ s ∈ l, wfJ s
section
variable {w : World} {lo hi : Nat}
end
section
variable {H : Type} {enc : TypeId × Value → H}
end
end Go.Proofs.Ytdbhfadiinmgiaa.Inss
namespace Go.Proofs.Ytdbhfadiinmgiaa.Grid
set_option maxRecDepth 100000
open Go.ChangeShapes Go.WideShapes Go.ChangeAt Go.RowKit
open Go.Proofs.Ytdbhfadiinmgiaa.Base Go.Proofs.Ytdbhfadiinmgiaa.Mem Go.Proofs.Ytdbhfadiinmgiaa.Ints
abbrev Hd := Option Addr × Nat
/-- A page's header as the outer slice holds it. -/
def hcell (r : List Int) (h : Hd) : Value := .slice h.1 r.length h.2
def hcells (M : List (List Int)) (hs : List Hd) : List Value := List.zipWith hcell M hs
def blk (A : Option Addr) : Option Nat := A.map Addr.block
theorem hcells_at {M : List (List Int)} {hs : List Hd} {i : Nat} {r : List Int} {h : Hd} (h1 : M[i]? = some r) (h2 : hs[i]? = some h) : (hcells M hs)[i]? = some (.slice h.1 r.length h.2) := by
  simp [hcells, List.getElem?_zipWith, h1, h2, hcell]
theorem hcells_snoc {M : List (List Int)} {hs : List Hd} (r : List Int) (h : Hd) (hl : hs.length = M.length) : hcells (M ++ [r]) (hs ++ [h]) = hcells M hs ++ [.slice h.1 r.length h.2] := by
  unfold hcells
  rw [List.zipWith_append (by rw [hl])]
  rfl
/-- The pages, each in memory of its own. -/
def Pages (w : World) (lo hi : Nat) (M : List (List Int)) (hs : List Hd) : Prop :=
  hs.length = M.length ∧ (∀ (i : Nat) (r : List Int) (h : Hd), M[i]? = some r → hs[i]? = some h → Owned w lo hi h.1 (ncells r)) ∧
  (∀ (i j : Nat) (r r' : List Int) (h h' : Hd), i ≠ j → M[i]? = some r → hs[i]? = some h → M[j]? = some r' → hs[j]? = some h' → r ≠ [] → r' ≠ [] → blk h.1 ≠ blk h'.1)
/-- No page lies in the block. -/
def Avoids (g : Option Nat) (M : List (List Int)) (hs : List Hd) : Prop := ∀ (i : Nat) (r : List Int) (h : Hd), M[i]? = some r → hs[i]? = some h → r ≠ [] → blk h.1 ≠ g
/-- The same, read only: pages may share. -/
def Reads (w : World) (lo hi : Nat) (M : List (List Int)) (hs : List Hd) : Prop :=
  hs.length = M.length ∧ ∀ (i : Nat) (r : List Int) (h : Hd), M[i]? = some r → hs[i]? = some h → Lies w lo hi h.1 (ncells r)
section
variable {w w' : World} {lo hi lo' hi' : Nat} {M : List (List Int)} {hs : List Hd}
theorem Pages.reads (h : Pages w lo hi M hs) : Reads w lo hi M hs := ⟨h.1, fun i r k h1 h2 => (h.2.1 i r k h1 h2).1⟩
theorem Pages.nil : Pages w lo hi [] [] := ⟨rfl, fun i r h h1 => by simp at h1, fun i j r r' h h' _ h1 => by simp at h1⟩
theorem Avoids.nil {g : Option Nat} : Avoids g [] [] := fun i r h h1 => by simp at h1
theorem Pages.kept (h : Pages w lo hi M hs) (hb : ∀ k, lo ≤ k → k < hi → w'.heap[k]? = w.heap[k]?) : Pages w' lo hi M hs := ⟨h.1, fun i r k h1 h2 => (h.2.1 i r k h1 h2).kept hb, h.2.2⟩
theorem Pages.below {B : Nat} (h : Pages w lo hi M hs) (hb : Below B w w') (hB : hi ≤ B) : Pages w' lo hi M hs := h.kept fun k _ h2 => hb.block k (by omega)
theorem Pages.wide (h : Pages w lo hi M hs) (h1 : lo' ≤ lo) (h2 : hi ≤ hi') : Pages w lo' hi' M hs := ⟨h.1, fun i r k a b => (h.2.1 i r k a b).wide h1 h2, h.2.2⟩
theorem Reads.kept (h : Reads w lo hi M hs) (hb : ∀ k, lo ≤ k → k < hi → w'.heap[k]? = w.heap[k]?) : Reads w' lo hi M hs := ⟨h.1, fun i r k h1 h2 => (h.2 i r k h1 h2).kept hb⟩
theorem Reads.below {B : Nat} (h : Reads w lo hi M hs) (hb : Below B w w') (hB : hi ≤ B) : Reads w' lo hi M hs := h.kept fun k _ h2 => hb.block k (by omega)
theorem Reads.wide (h : Reads w lo hi M hs) (h1 : lo' ≤ lo) (h2 : hi ≤ hi') : Reads w lo' hi' M hs := ⟨h.1, fun i r k a b => (h.2 i r k a b).wide h1 h2⟩
/-- A page's block lies in the interval. -/
theorem Pages.block (h : Pages w lo hi M hs) {i : Nat} {r : List Int} {k : Hd} (h1 : M[i]? = some r) (h2 : hs[i]? = some k) (hr : r ≠ []) : ∃ b off, k.1 = some ⟨b, off, none⟩ ∧ lo ≤ b ∧ b < hi := by
  obtain ⟨b, off, e, x, y, _⟩ := (h.2.1 i r k h1 h2).1.at_ (by rw [ncells_len]; exact List.length_pos_iff.2 hr)
  exact ⟨b, off, e, x, y⟩
/-- One page more, in later memory. -/
theorem Pages.snoc (h : Pages w lo hi M hs) {r : List Int} {k : Hd} (ho : Owned w lo' hi' k.1 (ncells r)) (h1 : hi ≤ lo') (h2 : lo ≤ lo') (h3 : hi ≤ hi') : Pages w lo hi' (M ++ [r]) (hs ++ [k]) := by
  have hlen := h.1
  have old : ∀ (i : Nat) (r' : List Int) (k' : Hd), (M ++ [r])[i]? = some r' → (hs ++ [k])[i]? = some k' → (M[i]? = some r' ∧ hs[i]? = some k') ∨ (i = M.length ∧ r' = r ∧ k' = k) := fun i r' k' a b => by
    rcases Nat.lt_trichotomy i M.length with hi | hi | hi
    · left
      rw [List.getElem?_append_left hi] at a
      rw [List.getElem?_append_left (by omega)] at b
      exact ⟨a, b⟩
    · right
      subst hi
      rw [List.getElem?_append_right (Nat.le_refl _), Nat.sub_self] at a
      rw [List.getElem?_append_right (by omega), hlen, Nat.sub_self] at b
      simp at a b
      exact ⟨rfl, a.symm, b.symm⟩
    · rw [List.getElem?_eq_none (by simp; omega)] at a
      cases a
  have far : ∀ (i : Nat) (r' : List Int) (k' : Hd), M[i]? = some r' → hs[i]? = some k' → r' ≠ [] → r ≠ [] → blk k'.1 ≠ blk k.1 := fun i r' k' a b c d e => by
    obtain ⟨x, ox, ex, _, hx⟩ := h.block a b c
    obtain ⟨y, oy, ey, hy, _, _⟩ := ho.1.at_ (by rw [ncells_len]; exact List.length_pos_iff.2 d)
    rw [ex, ey] at e
    simp [blk] at e
    omega
  refine ⟨by simp [hlen], fun i r' k' a b => ?_, fun i j r1 r2 k1 k2 hij a b c d e f => ?_⟩
  · rcases old i r' k' a b with ⟨a', b'⟩ | ⟨_, rfl, rfl⟩
    · exact (h.2.1 i r' k' a' b').wide (Nat.le_refl _) h3
    · exact ho.wide h2 (Nat.le_refl _)
  · rcases old i r1 k1 a b with ⟨a', b'⟩ | ⟨ei, rfl, rfl⟩
    · rcases old j r2 k2 c d with ⟨c', d'⟩ | ⟨ej, rfl, rfl⟩
      · exact h.2.2 i j r1 r2 k1 k2 hij a' b' c' d' e f
      · exact far i r1 k1 a' b' e f
    · rcases old j r2 k2 c d with ⟨c', d'⟩ | ⟨ej, rfl, rfl⟩
      · exact (far j r2 k2 c' d' f e).symm
      · exact absurd (ei.trans ej.symm) hij
/-- One page is written anew at its own length: the others are as they were. -/
theorem Pages.turn (h : Pages w lo hi M hs) {i : Nat} {r r' : List Int} {k : Hd} (h1 : M[i]? = some r) (h2 : hs[i]? = some k) (hr : r.length = r'.length) {b off : Nat} (hk : k.1 = some ⟨b, off, none⟩) (hne : r ≠ [])
    (ho : Owned w' lo hi k.1 (ncells r')) (ht : ∀ q, lo ≤ q → q < hi → q ≠ b → w'.heap[q]? = w.heap[q]?) : Pages w' lo hi (M.set i r') hs := by
  have hi' : i < M.length := (List.getElem?_eq_some_iff.1 h1).1
  have old : ∀ (j : Nat) (x : List Int), (M.set i r')[j]? = some x → (j = i ∧ x = r') ∨ (j ≠ i ∧ M[j]? = some x) := fun j x a => by
    by_cases e : j = i
    · subst e
      rw [List.getElem?_set_self hi'] at a
      exact .inl ⟨rfl, by simpa using a.symm⟩
    · rw [List.getElem?_set_ne (fun e' => e e'.symm)] at a
      exact .inr ⟨e, a⟩
  have hne' : r' ≠ [] := fun e => hne (List.length_eq_zero_iff.1 (by rw [hr, e]; rfl))
  refine ⟨by rw [List.length_set]; exact h.1, fun j x q a c => ?_, fun j m x y q q' hjm a c d e f g => ?_⟩
  · rcases old j x a with ⟨rfl, rfl⟩ | ⟨hji, a'⟩
    · rw [h2] at c
      cases c
      exact ho
    · by_cases hx : x = []
      · subst hx
        exact ⟨Lies.nil, fun _ _ _ hn => absurd hn (by simp [ncells])⟩
      · obtain ⟨b', off', e', x1, x2⟩ := h.block a' c hx
        have hbb : b' ≠ b := fun e2 => h.2.2 j i x r q k hji a' c h1 h2 hx hne (by rw [e', hk, e2]; rfl)
        have hoj := h.2.1 j x q a' c
        rw [e'] at hoj ⊢
        have tight : Owned w b' (b' + 1) (some ⟨b', off', none⟩) (ncells x) := ⟨fun j' u hu => by
          obtain ⟨b2, o2, e2, _, _, z⟩ := hoj.1 j' u hu
          cases e2
          exact ⟨b', off', rfl, Nat.le_refl _, Nat.lt_succ_self _, z⟩, hoj.2⟩
        exact (tight.kept fun q2 q3 q4 => ht q2 (by omega) (by omega) (by omega)).wide x1 (by omega)
  · rcases old j x a with ⟨rfl, rfl⟩ | ⟨hji, a'⟩
    · rcases old m y d with ⟨rfl, rfl⟩ | ⟨hmi, d'⟩
      · exact absurd rfl hjm
      · exact h.2.2 j m r y q q' hjm h1 c d' e hne g
    · rcases old m y d with ⟨rfl, rfl⟩ | ⟨hmi, d'⟩
      · exact h.2.2 j m x r q q' hjm a' c h1 e f hne
      · exact h.2.2 j m x y q q' hjm a' c d' e f g
end
end Go.Proofs.Ytdbhfadiinmgiaa.Grid
namespace Go.Proofs.Ytdbhfadiinmgiaa.Grid
set_option maxRecDepth 100000
open Go.ChangeShapes Go.WideShapes Go.ChangeAt Go.RowKit
open Go.Proofs.Ytdbhfadiinmgiaa.Base Go.Proofs.Ytdbhfadiinmgiaa.Mem Go.Proofs.Ytdbhfadiinmgiaa.Ints
/-- A memory that is only read: its pages may share. -/
def RG (w : World) (lo hi : Nat) (A : Option Addr) (M : List (List Int)) (hs : List Hd) : Prop := Lies w lo hi A (hcells M hs) ∧ Reads w lo hi M hs
/-- A memory with memory of its own. -/
def OG (w : World) (lo hi : Nat) (A : Option Addr) (M : List (List Int)) (hs : List Hd) : Prop := Owned w lo hi A (hcells M hs) ∧ Pages w lo hi M hs ∧ Avoids (blk A) M hs
section
variable {w w' : World} {lo hi lo' hi' : Nat} {A : Option Addr} {M : List (List Int)} {hs : List Hd}
theorem OG.rg (h : OG w lo hi A M hs) : RG w lo hi A M hs := ⟨h.1.1, h.2.1.reads⟩
theorem RG.kept (h : RG w lo hi A M hs) (hb : ∀ k, lo ≤ k → k < hi → w'.heap[k]? = w.heap[k]?) : RG w' lo hi A M hs := ⟨h.1.kept hb, h.2.kept hb⟩
theorem OG.kept (h : OG w lo hi A M hs) (hb : ∀ k, lo ≤ k → k < hi → w'.heap[k]? = w.heap[k]?) : OG w' lo hi A M hs := ⟨h.1.kept hb, h.2.1.kept hb, h.2.2⟩
theorem RG.below {B : Nat} (h : RG w lo hi A M hs) (hb : Below B w w') (hB : hi ≤ B) : RG w' lo hi A M hs := h.kept fun k _ h2 => hb.block k (by omega)
theorem OG.below {B : Nat} (h : OG w lo hi A M hs) (hb : Below B w w') (hB : hi ≤ B) : OG w' lo hi A M hs := h.kept fun k _ h2 => hb.block k (by omega)
theorem RG.wide (h : RG w lo hi A M hs) (h1 : lo' ≤ lo) (h2 : hi ≤ hi') : RG w lo' hi' A M hs := ⟨h.1.wide h1 h2, h.2.wide h1 h2⟩
theorem OG.wide (h : OG w lo hi A M hs) (h1 : lo' ≤ lo) (h2 : hi ≤ hi') : OG w lo' hi' A M hs := ⟨h.1.wide h1 h2, h.2.1.wide h1 h2, h.2.2⟩
theorem RG.drewN (h : RG w lo hi A M hs) (n : Nat) : RG (w.drewN n) lo hi A M hs := h
theorem OG.drewN (h : OG w lo hi A M hs) (n : Nat) : OG (w.drewN n) lo hi A M hs := h
theorem OG.turned {lo2 hi2 : Nat} (h : OG w lo hi A M hs) (hb : ∀ k, k < w.heap.size → (k < lo2 ∨ hi2 ≤ k) → w'.heap[k]? = w.heap[k]?) (hh : hi ≤ w.heap.size) (hd : hi ≤ lo2 ∨ hi2 ≤ lo) : OG w' lo hi A M hs :=
  h.kept fun k h1 h2 => hb k (by omega) (by omega)
theorem RG.turned {lo2 hi2 : Nat} (h : RG w lo hi A M hs) (hb : ∀ k, k < w.heap.size → (k < lo2 ∨ hi2 ≤ k) → w'.heap[k]? = w.heap[k]?) (hh : hi ≤ w.heap.size) (hd : hi ≤ lo2 ∨ hi2 ≤ lo) : RG w' lo hi A M hs :=
  h.kept fun k h1 h2 => hb k (by omega) (by omega)
theorem hd_at (h : hs.length = M.length) {i : Nat} (hi : i < M.length) : ∃ k : Hd, hs[i]? = some k := ⟨hs[i]'(by omega), List.getElem?_eq_getElem _⟩
/-- One page of a memory that is read. -/
theorem RG.page (h : RG w lo hi A M hs) (i : Nat) (hi' : i < M.length) : ∃ b off B c, A = some ⟨b, off, none⟩ ∧ lo ≤ b ∧ b < hi ∧ w.cell? ⟨b, off + i, none⟩ = some (.slice B M[i].length c) ∧ Lies w lo hi B (ncells M[i]) := by
  obtain ⟨k, hk⟩ := hd_at h.2.1 hi'
  obtain ⟨b, off, e, x, y, z⟩ := h.1 i _ (hcells_at (List.getElem?_eq_getElem hi') hk)
  exact ⟨b, off, k.1, k.2, e, x, y, z, h.2.2 i _ k (List.getElem?_eq_getElem hi') hk⟩
theorem Owned.keptBut {g : Nat} {cs : List Value} (h : Owned w lo hi A cs) (ha : ∀ b off, A = some ⟨b, off, none⟩ → 0 < cs.length → b ≠ g) (hb : ∀ k, lo ≤ k → k < hi → k ≠ g → w'.heap[k]? = w.heap[k]?) : Owned w' lo hi A cs := by
  by_cases hc : 0 < cs.length
  · obtain ⟨b, off, e, x, y, z⟩ := h.1.at_ hc
    subst e
    have hbg := ha b off rfl hc
    have tight : Owned w b (b + 1) (some ⟨b, off, none⟩) cs := ⟨fun j u hu => ⟨b, off, rfl, Nat.le_refl _, Nat.lt_succ_self _, z j u hu⟩, h.2⟩
    exact (tight.kept fun q q3 q4 => hb q (by omega) (by omega) (by omega)).wide x (by omega)
  · have : cs = [] := List.eq_nil_of_length_eq_zero (by omega)
    subst this
    exact ⟨Lies.nil, fun _ _ _ hn => absurd hn (by simp)⟩
theorem Pages.keptBut {g : Nat} (h : Pages w lo hi M hs) (ha : Avoids (some g) M hs) (hb : ∀ k, lo ≤ k → k < hi → k ≠ g → w'.heap[k]? = w.heap[k]?) : Pages w' lo hi M hs :=
  ⟨h.1, fun i r k h1 h2 => Owned.keptBut (h.2.1 i r k h1 h2) (fun b off e hn e2 => ha i r k h1 h2 (fun er => by subst er; simp [ncells] at hn) (by rw [e, e2]; rfl)) hb, h.2.2⟩
theorem Avoids.of_lo {g : Nat} (h : Pages w lo hi M hs) (hg : g < lo ∨ hi ≤ g) : Avoids (some g) M hs := fun i r k h1 h2 hr e => by
  obtain ⟨b, off, e', x, y⟩ := h.block h1 h2 hr
  rw [e'] at e
  simp [blk] at e
  omega
theorem snoc_cases (hlen : hs.length = M.length) {r : List Int} {k : Hd} (i : Nat) (r' : List Int) (k' : Hd) (a : (M ++ [r])[i]? = some r') (b : (hs ++ [k])[i]? = some k') : (M[i]? = some r' ∧ hs[i]? = some k') ∨ (i = M.length ∧ r' = r ∧ k' = k) := by
  rcases Nat.lt_trichotomy i M.length with hi | hi | hi
  · left
    rw [List.getElem?_append_left hi] at a
    rw [List.getElem?_append_left (by omega)] at b
    exact ⟨a, b⟩
  · right
    subst hi
    rw [List.getElem?_append_right (Nat.le_refl _), Nat.sub_self] at a
    rw [List.getElem?_append_right (by omega), hlen, Nat.sub_self] at b
    simp at a b
    exact ⟨rfl, a.symm, b.symm⟩
  · rw [List.getElem?_eq_none (by simp; omega)] at a
    cases a
theorem Avoids.snoc {g : Option Nat} (h : Avoids g M hs) (hlen : hs.length = M.length) {r : List Int} {k : Hd} (hk : r ≠ [] → blk k.1 ≠ g) : Avoids g (M ++ [r]) (hs ++ [k]) := fun i r' k' a b hr => by
  rcases snoc_cases hlen i r' k' a b with ⟨a', b'⟩ | ⟨_, rfl, rfl⟩
  · exact h i r' k' a' b' hr
  · exact hk hr
theorem hcells_set {i : Nat} {r : List Int} (hi : i < M.length) (hr : r.length = M[i].length) : hcells (M.set i r) hs = hcells M hs := by
  apply List.ext_getElem?
  intro j
  simp only [hcells, List.getElem?_zipWith, List.getElem?_set]
  by_cases e : i = j
  · subst e
    simp only [if_true, List.getElem?_eq_getElem hi]
    cases hs[i]? <;> simp [hi, hcell, hr]
  · simp only [if_neg e]
theorem hcells_put {i : Nat} {r : List Int} {k : Hd} (hl : hs.length = M.length) (hi : i < M.length) : hcells (M.set i r) (hs.set i k) = (hcells M hs).set i (.slice k.1 r.length k.2) := by
  apply List.ext_getElem?
  intro j
  simp only [hcells, List.getElem?_zipWith, List.getElem?_set, List.length_zipWith]
  by_cases e : i = j
  · subst e
    simp [hi, hl, hcell]
  · simp only [if_neg e]
/-- A page that is to be written at its own length. -/
theorem OG.write (h : OG w lo hi A M hs) (hh : hi ≤ w.heap.size) (i : Nat) (hi' : i < M.length) : ∃ b off B c lo' hi', A = some ⟨b, off, none⟩ ∧ b < hi ∧ w.cell? ⟨b, off + i, none⟩ = some (.slice B M[i].length c) ∧ Owned w lo' hi' B (ncells M[i]) ∧
    ∀ w' r', r'.length = M[i].length → Owned w' lo' hi' B (ncells r') → Turned lo' hi' w w' → OG w' lo hi A (M.set i r') hs ∧ Turned lo hi w w' := by
  obtain ⟨k, hk⟩ := hd_at h.2.1.1 hi'
  obtain ⟨b, off, e, x, y, z⟩ := h.1.1 i _ (hcells_at (List.getElem?_eq_getElem hi') hk)
  have ho := h.2.1.2.1 i _ k (List.getElem?_eq_getElem hi') hk
  by_cases hr : M[i] = []
  · refine ⟨b, off, k.1, k.2, 0, 0, e, y, z, ?_, fun w' r' hl _ ht => ?_⟩
    · rw [hr]
      exact ⟨Lies.nil, fun _ _ _ hn => absurd hn (by simp [ncells])⟩
    · have hr' : r' = M[i] := by
        rw [hr] at hl ⊢
        exact List.eq_nil_of_length_eq_zero (by simpa using hl)
      subst hr'
      rw [List.set_getElem_self]
      exact ⟨h.kept fun q _ q2 => ht.block q (by omega) (by omega), ⟨ht.os, ht.tape, ht.output, ht.size, fun q q1 _ => ht.block q q1 (by omega)⟩⟩
  · obtain ⟨b', off', e', x', y', z'⟩ := ho.1.at_ (by rw [ncells_len]; exact List.length_pos_iff.2 hr)
    have hbb : b' ≠ b := fun e2 => h.2.2 i _ k (List.getElem?_eq_getElem hi') hk hr (by rw [e', e, e2]; rfl)
    refine ⟨b, off, k.1, k.2, b', b' + 1, e, y, z, ?_, fun w' r' hl ho' ht => ?_⟩
    · rw [e'] at ho ⊢
      exact ⟨fun j u hu => ⟨b', off', rfl, Nat.le_refl _, Nat.lt_succ_self _, z' j u hu⟩, ho.2⟩
    · have hkeep : ∀ q, lo ≤ q → q < hi → q ≠ b' → w'.heap[q]? = w.heap[q]? := fun q _ q2 q3 => ht.block q (by omega) (by omega)
      refine ⟨⟨?_, h.2.1.turn (List.getElem?_eq_getElem hi') hk hl.symm e' hr (ho'.wide x' (by omega)) hkeep, ?_⟩, ⟨ht.os, ht.tape, ht.output, ht.size, fun q q1 q2 => ht.block q q1 (by omega)⟩⟩
      · rw [hcells_set hi' hl]
        exact Owned.keptBut h.1 (fun b2 off2 e2 _ e3 => by rw [e] at e2; cases e2; exact hbb e3.symm) hkeep
      · intro j r2 k2 h1 h2 hr2
        by_cases e2 : j = i
        · subst e2
          rw [hk] at h2
          cases h2
          rw [e', e]
          intro e3
          simp [blk] at e3
          exact hbb e3
        · rw [List.getElem?_set_ne (fun e3 => e2 e3.symm)] at h1
          exact h.2.2 j r2 k2 h1 h2 hr2
/-- A page is put in another's place. -/
theorem OG.put {b off lo2 hi2 : Nat} (h : OG w lo hi (some ⟨b, off, none⟩) M hs) (i : Nat) (hi' : i < M.length) {r : List Int} {k : Hd} (ho : Owned w lo2 hi2 k.1 (ncells r)) (h1 : hi ≤ lo2) (h2 : lo ≤ lo2) (h3 : hi ≤ hi2) :
    OG (w.setCell ⟨b, off + i, none⟩ (.slice k.1 r.length k.2)) lo hi2 (some ⟨b, off, none⟩) (M.set i r) (hs.set i k) := by
  have hl := h.2.1.1
  obtain ⟨k0, hk0⟩ := hd_at hl hi'
  obtain ⟨b', off', e, x, y, z⟩ := h.1.1 i _ (hcells_at (List.getElem?_eq_getElem hi') hk0)
  cases e
  have hkeep : ∀ q, q ≠ b → (w.setCell ⟨b, off + i, none⟩ (.slice k.1 r.length k.2)).heap[q]? = w.heap[q]? := fun q hq => Below.heap_setCell w ⟨b, off + i, none⟩ _ q hq
  have old : ∀ (j : Nat) (r' : List Int) (k' : Hd), (M.set i r)[j]? = some r' → (hs.set i k)[j]? = some k' → (j ≠ i ∧ M[j]? = some r' ∧ hs[j]? = some k') ∨ (j = i ∧ r' = r ∧ k' = k) := fun j r' k' a c => by
    by_cases e : j = i
    · subst e
      rw [List.getElem?_set_self hi'] at a
      rw [List.getElem?_set_self (by omega)] at c
      exact .inr ⟨rfl, by simpa using a.symm, by simpa using c.symm⟩
    · rw [List.getElem?_set_ne (fun e' => e e'.symm)] at a c
      exact .inl ⟨e, a, c⟩
  have far : ∀ (j : Nat) (r' : List Int) (k' : Hd), M[j]? = some r' → hs[j]? = some k' → r' ≠ [] → r ≠ [] → blk k'.1 ≠ blk k.1 := fun j r' k' a c d f e => by
    obtain ⟨x1, ox, ex, _, hx⟩ := h.2.1.block a c d
    obtain ⟨y1, oy, ey, hy, _, _⟩ := ho.1.at_ (by rw [ncells_len]; exact List.length_pos_iff.2 f)
    rw [ex, ey] at e
    simp [blk] at e
    omega
  have near : r ≠ [] → ∀ b2 off2, k.1 = some ⟨b2, off2, none⟩ → b2 ≠ b := fun hr b2 off2 e e2 => by
    obtain ⟨y1, oy, ey, hy, _, _⟩ := ho.1.at_ (by rw [ncells_len]; exact List.length_pos_iff.2 hr)
    rw [e] at ey
    cases ey
    omega
  refine ⟨?_, ⟨by simp [hl], fun j r' k' a c => ?_, fun j m r1 r2 k1 k2 hjm a c d e f g => ?_⟩, fun j r' k' a c hr => ?_⟩
  · rw [hcells_put hl hi']
    exact (h.1.set i _).wide (Nat.le_refl _) h3
  · rcases old j r' k' a c with ⟨_, a', c'⟩ | ⟨_, rfl, rfl⟩
    · exact (Owned.keptBut (g := b) (h.2.1.2.1 j r' k' a' c') (fun b2 off2 e hn e2 => h.2.2 j r' k' a' c' (fun er => by subst er; simp [ncells] at hn) (by rw [e, e2]; rfl)) (fun q _ _ hq => hkeep q hq)).wide (Nat.le_refl _) h3
    · exact (Owned.keptBut (g := b) ho (fun b2 off2 e hn => near (fun er => by subst er; simp [ncells] at hn) b2 off2 e) (fun q _ _ hq => hkeep q hq)).wide h2 (Nat.le_refl _)
  · rcases old j r1 k1 a c with ⟨_, a', c'⟩ | ⟨ej, rfl, rfl⟩
    · rcases old m r2 k2 d e with ⟨_, d', e'⟩ | ⟨em, rfl, rfl⟩
      · exact h.2.1.2.2 j m r1 r2 k1 k2 hjm a' c' d' e' f g
      · exact far j r1 k1 a' c' f g
    · rcases old m r2 k2 d e with ⟨_, d', e'⟩ | ⟨em, rfl, rfl⟩
      · exact (far m r2 k2 d' e' g f).symm
      · exact absurd (ej.trans em.symm) hjm
  · rcases old j r' k' a c with ⟨_, a', c'⟩ | ⟨ej, rfl, rfl⟩
    · exact h.2.2 j r' k' a' c' hr
    · intro e
      obtain ⟨y1, oy, ey, hy, _, _⟩ := ho.1.at_ (by rw [ncells_len]; exact List.length_pos_iff.2 hr)
      exact near hr y1 oy ey (by rw [ey] at e; simpa [blk] using e)
/-- A memory that grows page by page. -/
structure Built (T : TypeId) (w0 w : World) (g cap k : Nat) (M : List (List Int)) (hs : List Hd) : Prop where
  row : w.ownsRow w0.heap.size T 1 (.slice (some ⟨g, 0, none⟩) k cap) k (hcells M hs)
  pages : Pages w w0.heap.size w.heap.size M hs
  avoid : Avoids (some g) M hs
  below : Below w0.heap.size w0 w
theorem Built.start (T : TypeId) (w0 : World) : Built T w0 (w0.alloc (.cells #[] T)) w0.heap.size 0 0 [] [] :=
  ⟨World.ownsRow_made w0 #[] 0 (Nat.le_refl _) (Nat.zero_le _) rfl, Pages.nil, Avoids.nil, (Below.refl _ _).alloc (Nat.le_refl _) _⟩
theorem Built.step {T : TypeId} {w0 w1 w2 : World} {g cap k g' cap' c : Nat} {B : Option Addr} {r : List Int} {o : Obj} (h : Built T w0 w g cap k M hs) (hb : Below w.heap.size w w1) (ho : Owned w1 w.heap.size w1.heap.size B (ncells r))
    (hrow : w2.ownsRow w0.heap.size T 1 (.slice (some ⟨g', 0, none⟩) (k + 1) cap') (k + 1) (hcells M hs ++ [.slice B r.length c])) (hgrow : (w1.alloc o).grownBy w2 (some g)) (hg : some g = some g' ∨ g' = (w1.alloc o).heap.size) :
    Built T w0 w2 g' cap' (k + 1) (M ++ [r]) (hs ++ [(B, c)]) := by
  have hl := h.pages.1
  have hglt := (h.row.lt g rfl).2
  have hsz := hb.size
  have h12 : w1.heap.size < w2.heap.size := by
    have := hgrow.size
    simp at this
    omega
  have hblock : ∀ q, q < w1.heap.size → q ≠ g → w2.heap[q]? = w1.heap[q]? := fun q hq hqg => by
    rw [hgrow.block q (by simp; omega) (by simp; exact hqg)]
    exact ((Below.refl w1.heap.size w1).alloc (Nat.le_refl _) o).block q hq
  have p1 : Pages w1 w0.heap.size w.heap.size M hs := h.pages.below hb (Nat.le_refl _)
  have p2 := p1.snoc (k := (B, c)) ho (Nat.le_refl _) h.below.size hsz
  have a2 : Avoids (some g) (M ++ [r]) (hs ++ [(B, c)]) := h.avoid.snoc hl fun hr e => by
    obtain ⟨y1, oy, ey, hy, _, _⟩ := ho.1.at_ (by rw [ncells_len]; exact List.length_pos_iff.2 hr)
    simp only [ey] at e
    simp [blk] at e
    omega
  refine ⟨?_, (p2.keptBut a2 (fun q _ q2 q3 => hblock q q2 q3)).wide (Nat.le_refl _) (Nat.le_of_lt h12), ?_, ?_⟩
  · rw [hcells_snoc r (B, c) hl]
    exact hrow
  · rcases hg with e | e
    · cases e
      exact a2
    · subst e
      exact Avoids.of_lo p2 (.inr (by simp))
  · have hgl := (h.row.lt g rfl).1
    exact ((h.below.trans (hb.mono h.below.size)).alloc (Nat.le_trans h.below.size hsz) o).grown hgrow (by have := h.below.size; simp; omega) (fun j hj => by cases hj; exact hgl)
end
/-- What a function that makes a page leaves. -/
def IPost (w : World) (l : List Int) (e : Ending) (w' : World) : Prop :=
  ∃ A n c, e = .returned (.slice A n c) ∧ l.length = n ∧ Owned w' w.heap.size w'.heap.size A (ncells l) ∧ Below w.heap.size w w'
end Go.Proofs.Ytdbhfadiinmgiaa.Grid
namespace Go.Proofs.Ytdbhfadiinmgiaa.Grid
set_option maxRecDepth 100000
open Go.ChangeShapes Go.WideShapes Go.ChangeAt Go.RowKit
open Go.Proofs.Ytdbhfadiinmgiaa.Base Go.Proofs.Ytdbhfadiinmgiaa.Mem Go.Proofs.Ytdbhfadiinmgiaa.Ints
theorem grown_of_below {w w' : World} (h : Below w.heap.size w w') (row : Option Nat) : w.grownBy w' row := ⟨h.os, h.tape, h.output, h.size, fun i hi _ => h.block i hi⟩
theorem take_set1 {xs : List Value} {k : Nat} {ys : List Value} {u : Value} (h : xs.take k = ys) (hl : k < xs.length) : (xs.set k u).take (k + 1) = ys ++ [u] := by
  rw [← h, List.take_succ_eq_append_getElem (by simpa using hl)]
  simp [List.take_set_of_le]
/-- A memory made at its full length whose pages are put one by one. -/
structure Filled (T : TypeId) (w0 w : World) (n k : Nat) (xs : List Value) (M : List (List Int)) (hs : List Hd) : Prop where
  row : w.ownsRow w0.heap.size T 1 (.slice (some ⟨w0.heap.size, 0, none⟩) n n) n xs
  cells : xs.take k = hcells M hs
  pages : Pages w (w0.heap.size + 1) w.heap.size M hs
  below : Below w0.heap.size w0 w
  size : w0.heap.size < w.heap.size
  len : M.length = k
theorem Filled.step {T : TypeId} {w0 w w1 : World} {n k c : Nat} {xs : List Value} {M : List (List Int)} {hs : List Hd} {B : Option Addr} {r : List Int} (h : Filled T w0 w n k xs M hs) (hk : k < n) (hb : Below w.heap.size w w1) (ho : Owned w1 w.heap.size w1.heap.size B (ncells r)) :
    Filled T w0 (w1.setCell ⟨w0.heap.size, k, none⟩ (.slice B r.length c)) n (k + 1) (xs.set k (.slice B r.length c)) (M ++ [r]) (hs ++ [(B, c)]) := by
  have hl := h.pages.1
  have h0 := h.size
  have hr1 := h.row.kept (grown_of_below hb none) (.inr (by simp [Value.ownBlock]))
  refine ⟨(hr1.stored k _).1, ?_, ?_, ((h.below.trans (hb.mono h.below.size)).setCell (p := ⟨w0.heap.size, k, none⟩) (Nat.le_refl _) _), by have := hb.size; simp; omega, by simp [h.len]⟩
  · rw [hcells_snoc r (B, c) hl]
    exact take_set1 h.cells (by have := h.row.1; omega)
  · have p2 := (h.pages.below hb (Nat.le_refl _)).snoc (k := (B, c)) ho (Nat.le_refl _) h0 hb.size
    have e : (w1.setCell ⟨w0.heap.size, k, none⟩ (.slice B r.length c)).heap.size = w1.heap.size := by simp
    rw [e]
    exact p2.kept fun q q1 _ => Below.heap_setCell w1 ⟨w0.heap.size, k, none⟩ _ q (by show q ≠ w0.heap.size; omega)
theorem Filled.start {T : TypeId} {w0 w : World} {n : Nat} {xs : List Value} (hr : w.ownsRow w0.heap.size T 1 (.slice (some ⟨w0.heap.size, 0, none⟩) n n) n xs) (hg : w0.grownBy w none) : Filled T w0 w n 0 xs [] [] :=
  ⟨hr, rfl, Pages.nil, (Below.refl _ _).grown hg (Nat.le_refl _) (fun _ h => by cases h), (hr.lt _ rfl).2, rfl⟩
def tot : List (List Int) → Nat
  | [] => 0
  | r :: M => r.length + tot M
theorem tot_append : ∀ M N, tot (M ++ N) = tot M + tot N
  | [], N => by simp [tot]
  | r :: M, N => by simp [tot, tot_append M N]; omega
theorem tot_take {M : List (List Int)} {k : Nat} (hk : k < M.length) : tot (M.take (k + 1)) = tot (M.take k) + M[k].length := by
  rw [List.take_succ_eq_append_getElem hk, tot_append]; simp [tot]
theorem tot_take_le (M : List (List Int)) (k : Nat) : tot (M.take k) ≤ tot M := by
  have := tot_append (M.take k) (M.drop k)
  rw [List.take_append_drop] at this
  omega
theorem tot_at {M : List (List Int)} {k : Nat} (hk : k < M.length) : M[k].length ≤ tot M := by
  have := tot_take hk
  have := tot_take_le M (k + 1)
  omega
/-- The bounds that the laws keep. -/
structure capG (M : List (List Int)) : Prop where
  len : M.length ≤ 1048576
  all : tot M ≤ 1048580
  page : ∀ r ∈ M, r.length ≤ 1048576
theorem capG.at_ {M : List (List Int)} (h : capG M) {k : Nat} (hk : k < M.length) : M[k].length ≤ 1048576 := h.page _ (List.getElem_mem _)
theorem capG.of {M : List (List Int)} (h : M.length + tot M ≤ 1048576) : capG M := ⟨by omega, by omega, fun r hr => by
  obtain ⟨k, hk, rfl⟩ := List.getElem_of_mem hr
  have := tot_at hk
  omega⟩
end Go.Proofs.Ytdbhfadiinmgiaa.Grid
namespace Go.Proofs.Ytdbhfadiinmgiaa.Part
set_option maxRecDepth 100000
open Go.ChangeShapes Go.WideShapes Go.ChangeAt Go.RowKit
open Go.Proofs.Ytdbhfadiinmgiaa.Base Go.Proofs.Ytdbhfadiinmgiaa.Mem Go.Proofs.Ytdbhfadiinmgiaa.Slots Go.Proofs.Ytdbhfadiinmgiaa.Data Go.Proofs.Ytdbhfadiinmgiaa.Ints Go.Proofs.Ytdbhfadiinmgiaa.Inss Go.Proofs.Ytdbhfadiinmgiaa.Grid
set_option linter.unusedVariables false
set_option linter.unusedSimpArgs false
/-- A slice's value that is read only: its n elements have the cells cs. -/
def SR (w : World) (lo hi : Nat) (cs : List Value) (n : Nat) (P : Value) : Prop := ∃ A c, P = .slice A n c ∧ Lies w lo hi A cs
/-- .. in memory of its own, its length within its capacity. -/
def SO (w : World) (lo hi : Nat) (cs : List Value) (n : Nat) (P : Value) : Prop := ∃ A c, P = .slice A n c ∧ n ≤ c ∧ Owned w lo hi A cs
/-- The block that a slice's value leads to. -/
def bl : Value → List Nat
  | .slice (some a) n _ => if n = 0 then [] else [a.block]
  | _ => []
/-- The blocks F alone have turned. -/
structure Chg (w w' : World) (F : List Nat) : Prop where
  os : w'.os = w.os
  tape : w'.tape = w.tape
  output : w'.output = w.output
  size : w.heap.size ≤ w'.heap.size
  block : ∀ k, k < w.heap.size → k ∉ F → w'.heap[k]? = w.heap[k]?
section
variable {w w' w'' : World} {lo hi lo' hi' n : Nat} {cs : List Value} {P : Value} {F G : List Nat}
theorem SO.reads (h : SO w lo hi cs n P) : SR w lo hi cs n P := by
  obtain ⟨A, c, h1, _, h2⟩ := h
  exact ⟨A, c, h1, h2.1⟩
theorem SR.kept (h : SR w lo hi cs n P) (hb : ∀ k, lo ≤ k → k < hi → w'.heap[k]? = w.heap[k]?) : SR w' lo hi cs n P := by
  obtain ⟨A, c, h1, h2⟩ := h
  exact ⟨A, c, h1, h2.kept hb⟩
theorem SR.wide (h : SR w lo hi cs n P) (a : lo' ≤ lo) (b : hi ≤ hi') : SR w lo' hi' cs n P := by
  obtain ⟨A, c, h1, h2⟩ := h
  exact ⟨A, c, h1, h2.wide a b⟩
theorem SR.below {B : Nat} (h : SR w lo hi cs n P) (hb : Below B w w') (hB : hi ≤ B) : SR w' lo hi cs n P := h.kept fun k _ h2 => hb.block k (by omega)
theorem SO.kept (h : SO w lo hi cs n P) (hb : ∀ k, lo ≤ k → k < hi → w'.heap[k]? = w.heap[k]?) : SO w' lo hi cs n P := by
  obtain ⟨A, c, h1, h3, h2⟩ := h
  exact ⟨A, c, h1, h3, h2.kept hb⟩
theorem SO.wide (h : SO w lo hi cs n P) (a : lo' ≤ lo) (b : hi ≤ hi') : SO w lo' hi' cs n P := by
  obtain ⟨A, c, h1, h3, h2⟩ := h
  exact ⟨A, c, h1, h3, h2.wide a b⟩
theorem SO.below {B : Nat} (h : SO w lo hi cs n P) (hb : Below B w w') (hB : hi ≤ B) : SO w' lo hi cs n P := h.kept fun k _ h2 => hb.block k (by omega)
theorem SO.far (h : SO w lo hi cs n P) {z : Nat} (hz : z < lo ∨ hi ≤ z) (i : Nat) (u : Value) : SO (w.setCell ⟨z, i, none⟩ u) lo hi cs n P :=
  h.kept fun k h1 h2 => Below.heap_setCell w ⟨z, i, none⟩ u k (by show k ≠ z; omega)
theorem bl_blks {A : Option Addr} {c : Nat} (h : cs = [] ↔ n = 0) : bl (.slice A n c) = blks A cs := by
  unfold blks bl
  cases A with
  | none => simp
  | some a =>
    by_cases hn : n = 0
    · rw [if_pos (h.2 hn)]; simp [hn]
    · rw [if_neg (fun e => hn (h.1 e))]; simp [hn]
theorem SO.inB (h : SO w lo hi cs n P) (hc : cs = [] ↔ n = 0) {k : Nat} (hk : k ∈ bl P) : lo ≤ k ∧ k < hi := by
  obtain ⟨A, c, rfl, _, h2⟩ := h
  rw [bl_blks hc] at hk
  exact blks_in h2 hk
theorem Chg.refl (w : World) (F : List Nat) : Chg w w F := ⟨rfl, rfl, rfl, Nat.le_refl _, fun _ _ _ => rfl⟩
theorem Chg.trans (h : Chg w w' F) (k : Chg w' w'' G) : Chg w w'' (F ++ G) :=
  ⟨k.os.trans h.os, k.tape.trans h.tape, k.output.trans h.output, Nat.le_trans h.size k.size, fun b hb hF => (k.block b (Nat.lt_of_lt_of_le hb h.size) fun e => hF (List.mem_append_right _ e)).trans (h.block b hb fun e => hF (List.mem_append_left _ e))⟩
theorem Chg.turned (h : Chg w w' F) (hF : ∀ k ∈ F, lo ≤ k ∧ k < hi) : Turned lo hi w w' := ⟨h.os, h.tape, h.output, h.size, fun k hk hd => h.block k hk fun e => by have := hF k e; omega⟩
theorem Chg.same (h : Chg w w' F) {k : Nat} (hk : k < w.heap.size) (hF : k ∉ F) : w'.heap[k]? = w.heap[k]? := h.block k hk hF
theorem tight {A : Option Addr} (h : Owned w lo hi A cs) : ∃ p q, Owned w p q A cs ∧ (∀ k, k ∉ blks A cs → (k < p ∨ q ≤ k)) := by
  by_cases hc : cs = []
  · subst hc
    exact ⟨0, 0, ⟨Lies.nil, fun b off e h => by simp at h⟩, fun k _ => .inr (Nat.zero_le _)⟩
  · obtain ⟨b, off, rfl, x, y, hx⟩ := h.1.at_ (List.length_pos_iff.2 hc)
    refine ⟨b, b + 1, ⟨fun j u hu => ⟨b, off, rfl, Nat.le_refl _, by omega, hx j u hu⟩, h.2⟩, fun k hk => ?_⟩
    have : k ≠ b := fun e => hk (by simp [blks, hc, e])
    omega
end
end Go.Proofs.Ytdbhfadiinmgiaa.Part
namespace Go.Proofs.Ytdbhfadiinmgiaa.Ctls
set_option maxRecDepth 100000
open Go.ChangeShapes Go.WideShapes Go.ChangeAt Go.RowKit
open Go.Proofs.Ytdbhfadiinmgiaa.Base Go.Proofs.Ytdbhfadiinmgiaa.Mem Go.Proofs.Ytdbhfadiinmgiaa.Data
set_option linter.unusedVariables false
set_option linter.unusedSimpArgs false
abbrev CT := Int × Int × Bool
def wfC (s : CT) : Prop := (Lit.int .i64 s.1).wf = true ∧ (Lit.int .i64 s.2.1).wf = true ∧ True
def rCtl : Rp CT := rPair rInt (rPair rInt rBool)
section
variable {H : Type} {enc : TypeId × Value → H} {w : World} {lo hi : Nat}
end
end Go.Proofs.Ytdbhfadiinmgiaa.Ctls
namespace Go.Proofs.Ytdbhfadiinmgiaa.Exits
set_option maxRecDepth 100000
open Go.ChangeShapes Go.WideShapes Go.ChangeAt Go.RowKit
open Go.Proofs.Ytdbhfadiinmgiaa.Base Go.Proofs.Ytdbhfadiinmgiaa.Mem Go.Proofs.Ytdbhfadiinmgiaa.Data
set_option linter.unusedVariables false
set_option linter.unusedSimpArgs false
abbrev QT := Int × Int × Bool × Int
def wfQ (s : QT) : Prop := (Lit.int .i64 s.1).wf = true ∧ (Lit.int .i64 s.2.1).wf = true ∧ True ∧ (Lit.int .i64 s.2.2.2).wf = true
def rExit : Rp QT := rPair rInt (rPair rInt (rPair rBool rInt))
section
variable {H : Type} {enc : TypeId × Value → H} {w : World} {lo hi : Nat}
end
end Go.Proofs.Ytdbhfadiinmgiaa.Exits
namespace Go.Proofs.Ytdbhfadiinmgiaa.Guests
set_option maxRecDepth 100000
open Go.ChangeShapes Go.WideShapes Go.ChangeAt Go.RowKit
open Go.Proofs.Ytdbhfadiinmgiaa.Base Go.Proofs.Ytdbhfadiinmgiaa.Mem Go.Proofs.Ytdbhfadiinmgiaa.Slots Go.Proofs.Ytdbhfadiinmgiaa.Data Go.Proofs.Ytdbhfadiinmgiaa.Ints Go.Proofs.Ytdbhfadiinmgiaa.Inss Go.Proofs.Ytdbhfadiinmgiaa.Ctls Go.Proofs.Ytdbhfadiinmgiaa.Exits Go.Proofs.Ytdbhfadiinmgiaa.Part
set_option linter.unusedVariables false
set_option linter.unusedSimpArgs false
structure gT where
  prog : List JT
  a : Int
  pc : Int
  wr : List Sl
  lv : List Sl
  t : CT
  pd : Int
  x : QT
  hl : Bool
  seen : List Int
/-- The value with these slices. -/
def gV (g : gT) (P0 P1 P2 P3 : Value) : List Value := [P0, .int .i64 g.a, .int .i64 g.pc, P1, P2, .int .i64 g.t.1, .int .i64 g.t.2.1, .bool g.t.2.2, .int .i64 g.pd, .int .i64 g.x.1, .int .i64 g.x.2.1, .bool g.x.2.2.1, .int .i64 g.x.2.2.2, .bool g.hl, P3]
/-- The slices are read only. -/
structure gR (w : World) (lo hi : Nat) (g : gT) (P0 P1 P2 P3 : Value) : Prop where
  r0 : SR w lo hi (jcells g.prog) g.prog.length P0
  r1 : SR w lo hi (scells g.wr) g.wr.length P1
  r2 : SR w lo hi (scells g.lv) g.lv.length P2
  r3 : SR w lo hi (ncells g.seen) g.seen.length P3
/-- .. in memory of their own: no two share a block. -/
structure gO (w : World) (lo hi : Nat) (g : gT) (P0 P1 P2 P3 : Value) : Prop where
  r0 : SO w lo hi (jcells g.prog) g.prog.length P0
  r1 : SO w lo hi (scells g.wr) g.wr.length P1
  r2 : SO w lo hi (scells g.lv) g.lv.length P2
  r3 : SO w lo hi (ncells g.seen) g.seen.length P3
  d01 : ∀ k ∈ bl P0, k ∉ bl P1
  d02 : ∀ k ∈ bl P0, k ∉ bl P2
  d03 : ∀ k ∈ bl P0, k ∉ bl P3
  d12 : ∀ k ∈ bl P1, k ∉ bl P2
  d13 : ∀ k ∈ bl P1, k ∉ bl P3
  d23 : ∀ k ∈ bl P2, k ∉ bl P3
/-- No slice is longer than 2^20. -/
def gcap (g : gT) : Prop := g.prog.length ≤ 1048576 ∧ g.wr.length ≤ 1048576 ∧ g.lv.length ≤ 1048576 ∧ g.seen.length ≤ 1048576
section
variable {w w' : World} {lo hi lo' hi' : Nat} {g : gT} {P0 P1 P2 P3 : Value}
theorem gO.reads (h : gO w lo hi g P0 P1 P2 P3) : gR w lo hi g P0 P1 P2 P3 := ⟨h.r0.reads, h.r1.reads, h.r2.reads, h.r3.reads⟩
theorem gR.kept (h : gR w lo hi g P0 P1 P2 P3) (hb : ∀ k, lo ≤ k → k < hi → w'.heap[k]? = w.heap[k]?) : gR w' lo hi g P0 P1 P2 P3 := ⟨h.r0.kept hb, h.r1.kept hb, h.r2.kept hb, h.r3.kept hb⟩
theorem gR.wide (h : gR w lo hi g P0 P1 P2 P3) (a : lo' ≤ lo) (b : hi ≤ hi') : gR w lo' hi' g P0 P1 P2 P3 := ⟨h.r0.wide a b, h.r1.wide a b, h.r2.wide a b, h.r3.wide a b⟩
theorem gR.below {B : Nat} (h : gR w lo hi g P0 P1 P2 P3) (hb : Below B w w') (hB : hi ≤ B) : gR w' lo hi g P0 P1 P2 P3 := h.kept fun k _ h2 => hb.block k (by omega)
theorem gR.turned {lo2 hi2 : Nat} (h : gR w lo hi g P0 P1 P2 P3) (hb : ∀ k, k < w.heap.size → (k < lo2 ∨ hi2 ≤ k) → w'.heap[k]? = w.heap[k]?) (hh : hi ≤ w.heap.size) (hd : hi ≤ lo2 ∨ hi2 ≤ lo) : gR w' lo hi g P0 P1 P2 P3 := h.kept fun k h1 h2 => hb k (by omega) (by omega)
theorem gO.kept (h : gO w lo hi g P0 P1 P2 P3) (hb : ∀ k, lo ≤ k → k < hi → w'.heap[k]? = w.heap[k]?) : gO w' lo hi g P0 P1 P2 P3 := ⟨h.r0.kept hb, h.r1.kept hb, h.r2.kept hb, h.r3.kept hb, h.d01, h.d02, h.d03, h.d12, h.d13, h.d23⟩
theorem gO.wide (h : gO w lo hi g P0 P1 P2 P3) (a : lo' ≤ lo) (b : hi ≤ hi') : gO w lo' hi' g P0 P1 P2 P3 := ⟨h.r0.wide a b, h.r1.wide a b, h.r2.wide a b, h.r3.wide a b, h.d01, h.d02, h.d03, h.d12, h.d13, h.d23⟩
theorem gO.below {B : Nat} (h : gO w lo hi g P0 P1 P2 P3) (hb : Below B w w') (hB : hi ≤ B) : gO w' lo hi g P0 P1 P2 P3 := h.kept fun k _ h2 => hb.block k (by omega)
theorem gO.turned {lo2 hi2 : Nat} (h : gO w lo hi g P0 P1 P2 P3) (hb : ∀ k, k < w.heap.size → (k < lo2 ∨ hi2 ≤ k) → w'.heap[k]? = w.heap[k]?) (hh : hi ≤ w.heap.size) (hd : hi ≤ lo2 ∨ hi2 ≤ lo) : gO w' lo hi g P0 P1 P2 P3 := h.kept fun k h1 h2 => hb k (by omega) (by omega)
end
/-- A value of its own is handed back. -/
def gP (w : World) (g : gT) (e : Ending) (w' : World) : Prop :=
  ∃ Q0 Q1 Q2 Q3, e = .returned (.agg #[Q0, .int .i64 g.a, .int .i64 g.pc, Q1, Q2, .int .i64 g.t.1, .int .i64 g.t.2.1, .bool g.t.2.2, .int .i64 g.pd, .int .i64 g.x.1, .int .i64 g.x.2.1, .bool g.x.2.2.1, .int .i64 g.x.2.2.2, .bool g.hl, Q3]) ∧ gO w' w.heap.size w'.heap.size g Q0 Q1 Q2 Q3 ∧ Below w.heap.size w w'
section
variable {w : World} {lo hi : Nat}
end
/-- Every number is of an int's range, every slice of a length that a machine holds. -/
def wfGuest (g : gT) : Prop := (g.prog.length ≤ 9223372036854775807 ∧ wfJL g.prog) ∧ (Lit.int .i64 g.a).wf = true ∧ (Lit.int .i64 g.pc).wf = true ∧ (g.wr.length ≤ 9223372036854775807 ∧ ∀ s ∈ g.wr, (Lit.int .i64 s.1).wf = true ∧ (Lit.int .i64 s.2).wf = true) ∧ (g.lv.length ≤ 9223372036854775807 ∧ ∀ s ∈ g.lv, (Lit.int .i64 s.1).wf = true ∧ (Lit.int .i64 s.2).wf = true) ∧ wfC g.t ∧ (Lit.int .i64 g.pd).wf = true ∧ wfQ g.x ∧ True ∧ (g.seen.length ≤ 9223372036854775807 ∧ ∀ s ∈ g.seen, (Lit.int .i64 s).wf = true)
section
variable {H : Type} {enc : TypeId × Value → H}
end
end Go.Proofs.Ytdbhfadiinmgiaa.Guests
namespace Go.Proofs.Ytdbhfadiinmgiaa.Guests
set_option maxRecDepth 100000
open Go.ChangeShapes Go.WideShapes Go.ChangeAt Go.RowKit
open Go.Proofs.Ytdbhfadiinmgiaa.Base Go.Proofs.Ytdbhfadiinmgiaa.Mem Go.Proofs.Ytdbhfadiinmgiaa.Data Go.Proofs.Ytdbhfadiinmgiaa.Ctls Go.Proofs.Ytdbhfadiinmgiaa.Exits Go.Proofs.Ytdbhfadiinmgiaa.Stt
set_option linter.unusedVariables false
set_option linter.unusedSimpArgs false
/-- How a gT lies in memory. -/
def rG : Rp gT := rVia (rPair ((rLst 42 (rPair rInt rInt))) (rPair rInt (rPair rInt (rPair ((rLsw (rPair rInt rInt))) (rPair ((rLsw (rPair rInt rInt))) (rPair rCtl (rPair rInt (rPair rExit (rPair rBool ((rLst 3 rInt))))))))))) (fun g => (g.prog, g.a, g.pc, g.wr, g.lv, g.t, g.pd, g.x, g.hl, g.seen)) (fun k => ⟨k.1, k.2.1, k.2.2.1, k.2.2.2.1, k.2.2.2.2.1, k.2.2.2.2.2.1, k.2.2.2.2.2.2.1, k.2.2.2.2.2.2.2.1, k.2.2.2.2.2.2.2.2.1, k.2.2.2.2.2.2.2.2.2⟩)
theorem rG_len {g : gT} (h : rG.cap g) : g.prog.length ≤ 1048576 ∧ g.wr.length ≤ 1048576 ∧ g.lv.length ≤ 1048576 ∧ g.seen.length ≤ 1048576 := ⟨h.1.1, h.2.2.2.1.1, h.2.2.2.2.1.1, h.2.2.2.2.2.2.2.2.2.1⟩
theorem rG_rd {w : World} {lo hi : Nat} {g : gT} {cs : List Value} (h : rG.rd w lo hi g cs) : ∃ P0 P1 P2 P3, cs = [P0, .int .i64 g.a, .int .i64 g.pc, P1, P2, .int .i64 g.t.1, .int .i64 g.t.2.1, .bool g.t.2.2, .int .i64 g.pd, .int .i64 g.x.1, .int .i64 g.x.2.1, .bool g.x.2.2.1, .int .i64 g.x.2.2.2, .bool g.hl, P3] ∧ ((rLst 42 (rPair rInt rInt))).rd w lo hi g.prog [P0] ∧ ((rLsw (rPair rInt rInt))).rd w lo hi g.wr [P1] ∧ ((rLsw (rPair rInt rInt))).rd w lo hi g.lv [P2] ∧ ((rLst 3 rInt)).rd w lo hi g.seen [P3] := by
  obtain ⟨c0, s0, rfl, h0, g0⟩ := h
  obtain ⟨P0, rfl⟩ := lst_rd h0
  obtain ⟨c1, s1, rfl, h1, g1⟩ := g0
  obtain rfl := show _ = _ from h1
  obtain ⟨c2, s2, rfl, h2, g2⟩ := g1
  obtain rfl := show _ = _ from h2
  obtain ⟨c3, s3, rfl, h3, g3⟩ := g2
  obtain ⟨P1, rfl⟩ := lst_rd h3
  obtain ⟨c4, s4, rfl, h4, g4⟩ := g3
  obtain ⟨P2, rfl⟩ := lst_rd h4
  obtain ⟨c5, s5, rfl, h5, g5⟩ := g4
  obtain ⟨u5_0, v5_0, rfl, x5_0, q5_0⟩ := h5
  obtain rfl := show _ = _ from x5_0
  obtain ⟨u5_1, v5_1, rfl, x5_1, q5_1⟩ := q5_0
  obtain rfl := show _ = _ from x5_1
  obtain rfl := show _ = _ from q5_1
  obtain ⟨c6, s6, rfl, h6, g6⟩ := g5
  obtain rfl := show _ = _ from h6
  obtain ⟨c7, s7, rfl, h7, g7⟩ := g6
  obtain ⟨u7_0, v7_0, rfl, x7_0, q7_0⟩ := h7
  obtain rfl := show _ = _ from x7_0
  obtain ⟨u7_1, v7_1, rfl, x7_1, q7_1⟩ := q7_0
  obtain rfl := show _ = _ from x7_1
  obtain ⟨u7_2, v7_2, rfl, x7_2, q7_2⟩ := q7_1
  obtain rfl := show _ = _ from x7_2
  obtain rfl := show _ = _ from q7_2
  obtain ⟨c8, s8, rfl, h8, g8⟩ := g7
  obtain rfl := show _ = _ from h8
  obtain ⟨P3, rfl⟩ := lst_rd g8
  exact ⟨P0, P1, P2, P3, by simp, h0, h3, h4, g8⟩
theorem rG_own {w : World} {lo hi : Nat} {g : gT} {cs : List Value} {F : List Nat} (h : rG.own w lo hi g cs F) : ∃ P0 P1 P2 P3 F0 F1 F2 F3, cs = [P0, .int .i64 g.a, .int .i64 g.pc, P1, P2, .int .i64 g.t.1, .int .i64 g.t.2.1, .bool g.t.2.2, .int .i64 g.pd, .int .i64 g.x.1, .int .i64 g.x.2.1, .bool g.x.2.2.1, .int .i64 g.x.2.2.2, .bool g.hl, P3] ∧ F = F0 ++ (F1 ++ (F2 ++ F3)) ∧ ((rLst 42 (rPair rInt rInt))).own w lo hi g.prog [P0] F0 ∧ ((rLsw (rPair rInt rInt))).own w lo hi g.wr [P1] F1 ∧ ((rLsw (rPair rInt rInt))).own w lo hi g.lv [P2] F2 ∧ ((rLst 3 rInt)).own w lo hi g.seen [P3] F3 := by
  obtain ⟨c0, s0, G0, H0, rfl, rfl, h0, g0⟩ := h
  obtain ⟨P0, rfl⟩ := lst_own h0
  obtain ⟨c1, s1, G1, H1, rfl, rfl, h1, g1⟩ := g0
  obtain ⟨rfl, rfl⟩ := h1
  obtain ⟨c2, s2, G2, H2, rfl, rfl, h2, g2⟩ := g1
  obtain ⟨rfl, rfl⟩ := h2
  obtain ⟨c3, s3, G3, H3, rfl, rfl, h3, g3⟩ := g2
  obtain ⟨P1, rfl⟩ := lsw_own h3
  obtain ⟨c4, s4, G4, H4, rfl, rfl, h4, g4⟩ := g3
  obtain ⟨P2, rfl⟩ := lsw_own h4
  obtain ⟨c5, s5, G5, H5, rfl, rfl, h5, g5⟩ := g4
  obtain ⟨u5_0, v5_0, U5_0, V5_0, rfl, rfl, ⟨rfl, rfl⟩, q5_0⟩ := h5
  obtain ⟨u5_1, v5_1, U5_1, V5_1, rfl, rfl, ⟨rfl, rfl⟩, q5_1⟩ := q5_0
  obtain ⟨rfl, rfl⟩ := q5_1
  obtain ⟨c6, s6, G6, H6, rfl, rfl, h6, g6⟩ := g5
  obtain ⟨rfl, rfl⟩ := h6
  obtain ⟨c7, s7, G7, H7, rfl, rfl, h7, g7⟩ := g6
  obtain ⟨u7_0, v7_0, U7_0, V7_0, rfl, rfl, ⟨rfl, rfl⟩, q7_0⟩ := h7
  obtain ⟨u7_1, v7_1, U7_1, V7_1, rfl, rfl, ⟨rfl, rfl⟩, q7_1⟩ := q7_0
  obtain ⟨u7_2, v7_2, U7_2, V7_2, rfl, rfl, ⟨rfl, rfl⟩, q7_2⟩ := q7_1
  obtain ⟨rfl, rfl⟩ := q7_2
  obtain ⟨c8, s8, G8, H8, rfl, rfl, h8, g8⟩ := g7
  obtain ⟨rfl, rfl⟩ := h8
  obtain ⟨P3, rfl⟩ := lst_own g8
  exact ⟨P0, P1, P2, P3, G0, G3, G4, H8, by simp, by simp, h0, h3, h4, g8⟩
theorem rG_rd_mk {w : World} {lo hi : Nat} {g : gT} {P0 P1 P2 P3 : Value} (h0 : ((rLst 42 (rPair rInt rInt))).rd w lo hi g.prog [P0]) (h1 : ((rLsw (rPair rInt rInt))).rd w lo hi g.wr [P1]) (h2 : ((rLsw (rPair rInt rInt))).rd w lo hi g.lv [P2]) (h3 : ((rLst 3 rInt)).rd w lo hi g.seen [P3]) : rG.rd w lo hi g [P0, .int .i64 g.a, .int .i64 g.pc, P1, P2, .int .i64 g.t.1, .int .i64 g.t.2.1, .bool g.t.2.2, .int .i64 g.pd, .int .i64 g.x.1, .int .i64 g.x.2.1, .bool g.x.2.2.1, .int .i64 g.x.2.2.2, .bool g.hl, P3] :=
  ⟨[_], _, rfl, h0, ⟨[_], _, rfl, rfl, ⟨[_], _, rfl, rfl, ⟨[_], _, rfl, h1, ⟨[_], _, rfl, h2, ⟨[_, _, _], _, rfl, ⟨[_], _, rfl, rfl, ⟨[_], _, rfl, rfl, rfl⟩⟩, ⟨[_], _, rfl, rfl, ⟨[_, _, _, _], _, rfl, ⟨[_], _, rfl, rfl, ⟨[_], _, rfl, rfl, ⟨[_], _, rfl, rfl, rfl⟩⟩⟩, ⟨[_], _, rfl, rfl, h3⟩⟩⟩⟩⟩⟩⟩⟩⟩
theorem rG_own_mk {w : World} {lo hi : Nat} {g : gT} {P0 P1 P2 P3 : Value} {F0 F1 F2 F3 : List Nat} (h0 : ((rLst 42 (rPair rInt rInt))).own w lo hi g.prog [P0] F0) (h1 : ((rLsw (rPair rInt rInt))).own w lo hi g.wr [P1] F1) (h2 : ((rLsw (rPair rInt rInt))).own w lo hi g.lv [P2] F2) (h3 : ((rLst 3 rInt)).own w lo hi g.seen [P3] F3) : rG.own w lo hi g [P0, .int .i64 g.a, .int .i64 g.pc, P1, P2, .int .i64 g.t.1, .int .i64 g.t.2.1, .bool g.t.2.2, .int .i64 g.pd, .int .i64 g.x.1, .int .i64 g.x.2.1, .bool g.x.2.2.1, .int .i64 g.x.2.2.2, .bool g.hl, P3] (F0 ++ (F1 ++ (F2 ++ F3))) := by
  have h : rG.own w lo hi g [P0, .int .i64 g.a, .int .i64 g.pc, P1, P2, .int .i64 g.t.1, .int .i64 g.t.2.1, .bool g.t.2.2, .int .i64 g.pd, .int .i64 g.x.1, .int .i64 g.x.2.1, .bool g.x.2.2.1, .int .i64 g.x.2.2.2, .bool g.hl, P3] _ := ⟨[_], _, F0, _, rfl, rfl, h0, ⟨[_], _, [], _, rfl, rfl, ⟨rfl, rfl⟩, ⟨[_], _, [], _, rfl, rfl, ⟨rfl, rfl⟩, ⟨[_], _, F1, _, rfl, rfl, h1, ⟨[_], _, F2, _, rfl, rfl, h2, ⟨[_, _, _], _, [], _, rfl, rfl, ⟨[_], _, [], [], rfl, rfl, ⟨rfl, rfl⟩, ⟨[_], _, [], [], rfl, rfl, ⟨rfl, rfl⟩, ⟨rfl, rfl⟩⟩⟩, ⟨[_], _, [], _, rfl, rfl, ⟨rfl, rfl⟩, ⟨[_, _, _, _], _, [], _, rfl, rfl, ⟨[_], _, [], [], rfl, rfl, ⟨rfl, rfl⟩, ⟨[_], _, [], [], rfl, rfl, ⟨rfl, rfl⟩, ⟨[_], _, [], [], rfl, rfl, ⟨rfl, rfl⟩, ⟨rfl, rfl⟩⟩⟩⟩, ⟨[_], _, [], _, rfl, rfl, ⟨rfl, rfl⟩, h3⟩⟩⟩⟩⟩⟩⟩⟩⟩
  simpa using h
theorem rG_open {w0 w : World} {lo hi : Nat} {g : gT} {cs : List Value} {F : List Nat} {T : List Res} (S : St w0 w (ow rG lo hi g cs F :: T)) : ∃ P0 P1 P2 P3 F0 F1 F2 F3, cs = [P0, .int .i64 g.a, .int .i64 g.pc, P1, P2, .int .i64 g.t.1, .int .i64 g.t.2.1, .bool g.t.2.2, .int .i64 g.pd, .int .i64 g.x.1, .int .i64 g.x.2.1, .bool g.x.2.2.1, .int .i64 g.x.2.2.2, .bool g.hl, P3] ∧ St w0 w (ow (rLst 42 (rPair rInt rInt)) lo hi g.prog [P0] F0 :: ow (rLsw (rPair rInt rInt)) lo hi g.wr [P1] F1 :: ow (rLsw (rPair rInt rInt)) lo hi g.lv [P2] F2 :: ow (rLst 3 rInt) lo hi g.seen [P3] F3 :: T) := by
  obtain ⟨hown, hnd⟩ := S.at_ 0 rfl
  have hl := S.lo 0 _ rfl
  have hh := S.hi 0 _ rfl
  obtain ⟨P0, P1, P2, P3, F0, F1, F2, F3, rfl, rfl, q0, q1, q2, q3⟩ := rG_own hown
  obtain ⟨m0, n0, d0⟩ := List.nodup_append.1 hnd
  obtain ⟨m1, n1, d1⟩ := List.nodup_append.1 n0
  obtain ⟨m2, n2, d2⟩ := List.nodup_append.1 n1
  have m3 := n2
  refine ⟨P0, P1, P2, P3, F0, F1, F2, F3, rfl, S.parts [ow (rLst 42 (rPair rInt rInt)) lo hi g.prog [P0] F0, ow (rLsw (rPair rInt rInt)) lo hi g.wr [P1] F1, ow (rLsw (rPair rInt rInt)) lo hi g.lv [P2] F2, ow (rLst 3 rInt) lo hi g.seen [P3] F3] ?_ ?_⟩
  · intro s hs
    simp only [List.mem_cons, List.not_mem_nil, or_false] at hs
    rcases hs with rfl | rfl | rfl | rfl
    · exact ⟨⟨q0, m0⟩, fun k hk => ⟨by simp [hk.1], hk.2⟩, hl, hh⟩
    · exact ⟨⟨q1, m1⟩, fun k hk => ⟨by simp [hk.1], hk.2⟩, hl, hh⟩
    · exact ⟨⟨q2, m2⟩, fun k hk => ⟨by simp [hk.1], hk.2⟩, hl, hh⟩
    · exact ⟨⟨q3, m3⟩, fun k hk => ⟨by simp [hk.1], hk.2⟩, hl, hh⟩
  · simp only [List.pairwise_cons, List.mem_cons, List.not_mem_nil, or_false, forall_eq_or_imp, forall_eq, List.Pairwise.nil, and_true, false_implies, implies_true, ow]
    exact ⟨⟨(fun k hk hk' => d0 k hk.1 k (by simp [hk'.1]) rfl), (fun k hk hk' => d0 k hk.1 k (by simp [hk'.1]) rfl), (fun k hk hk' => d0 k hk.1 k (by simp [hk'.1]) rfl)⟩, ⟨(fun k hk hk' => d1 k hk.1 k (by simp [hk'.1]) rfl), (fun k hk hk' => d1 k hk.1 k (by simp [hk'.1]) rfl)⟩, (fun k hk hk' => d2 k hk.1 k (by simp [hk'.1]) rfl)⟩
theorem rG_shut {w0 w : World} {g : gT} {L : List Res} {P0 P1 P2 P3 : Value} {F0 F1 F2 F3 : List Nat} {l0 k0 l1 k1 l2 k2 l3 k3 : Nat} (S : St w0 w L) (i0 : Nat) (e0 : L[i0]? = some (ow (rLst 42 (rPair rInt rInt)) l0 k0 g.prog [P0] F0)) (i1 : Nat) (e1 : L[i1]? = some (ow (rLsw (rPair rInt rInt)) l1 k1 g.wr [P1] F1)) (i2 : Nat) (e2 : L[i2]? = some (ow (rLsw (rPair rInt rInt)) l2 k2 g.lv [P2] F2)) (i3 : Nat) (e3 : L[i3]? = some (ow (rLst 3 rInt) l3 k3 g.seen [P3] F3)) (n01 : i0 ≠ i1) (n02 : i0 ≠ i2) (n03 : i0 ≠ i3) (n12 : i1 ≠ i2) (n13 : i1 ≠ i3) (n23 : i2 ≠ i3) : rG.own w w0.heap.size w.heap.size g [P0, .int .i64 g.a, .int .i64 g.pc, P1, P2, .int .i64 g.t.1, .int .i64 g.t.2.1, .bool g.t.2.2, .int .i64 g.pd, .int .i64 g.x.1, .int .i64 g.x.2.1, .bool g.x.2.2.1, .int .i64 g.x.2.2.2, .bool g.hl, P3] (F0 ++ (F1 ++ (F2 ++ F3))) ∧ (F0 ++ (F1 ++ (F2 ++ F3))).Nodup := by
  refine ⟨rG_own_mk (S.own i0 e0) (S.own i1 e1) (S.own i2 e2) (S.own i3 e3), ?_⟩
  exact (nodup_app (S.nodup i0 e0) (nodup_app (S.nodup i1 e1) (nodup_app (S.nodup i2 e2) (S.nodup i3 e3) (fun k hk => (S.disj i2 i3 e2 e3 n23 k hk))) (fun k hk => (not_app (S.disj i1 i2 e1 e2 n12 k hk) (S.disj i1 i3 e1 e3 n13 k hk)))) (fun k hk => (not_app (S.disj i0 i1 e0 e1 n01 k hk) (not_app (S.disj i0 i2 e0 e2 n02 k hk) (S.disj i0 i3 e0 e3 n03 k hk)))))
end Go.Proofs.Ytdbhfadiinmgiaa.Guests
namespace Go.Proofs.Ytdbhfadiinmgiaa.Irqs
set_option maxRecDepth 100000
open Go.ChangeShapes Go.WideShapes Go.ChangeAt Go.RowKit
open Go.Proofs.Ytdbhfadiinmgiaa.Base Go.Proofs.Ytdbhfadiinmgiaa.Mem
set_option linter.unusedVariables false
set_option linter.unusedSimpArgs false
def pend (p : Int) : Bool := inB p 0 255
/-- Bit n of a number, as a number. -/
def bitN (p : Int) (n : Nat) : Int := bits .and .i64 (p / 2 ^ n) 1
def topTo (p : Int) : Nat → Int
  | 0 => -1
  | k + 1 => if bitN p k = 1 then (k : Int) else topTo p k
def topI (p : Int) : Int := if pend p = true then topTo p 8 else -1
theorem pend_iff {p : Int} : pend p = true ↔ 0 ≤ p ∧ p ≤ 255 := inB_iff
theorem topTo_range (p : Int) : ∀ k : Nat, -1 ≤ topTo p k ∧ topTo p k < k
  | 0 => by simp [topTo]
  | k + 1 => by
    have h1 := topTo_range p k
    unfold topTo
    split <;> omega
theorem topI_range (p : Int) : -1 ≤ topI p ∧ topI p ≤ 7 := by
  unfold topI
  split
  · have := topTo_range p 8; omega
  · omega
set_option maxHeartbeats 1000000 in
theorem spec_pend (p : Int) (w : World) : Calls Try.prog 123 #[.int .i64 p] w fun e w' => e = .returned (.bool (pend p)) ∧ w = w' := by
  have K := Lib.hid (fun V : World => spec_in p 0 255 V)
  unfold pend
  generalize inB p 0 255 = x at K ⊢
  go_enter Try.func123, Try.ntmps123
  go_wp2_with fail
  refine (K.out _).mono ?_
  rintro e w' ⟨rfl, rfl⟩
  go_wp2_with fail
  go_ret
  exact ⟨rfl, rfl⟩
set_option maxHeartbeats 1000000 in
theorem spec_top (p : Int) (w : World) : Calls Try.prog 103 #[.int .i64 p] w fun e w' => e = .returned (.int .i64 (topI p)) ∧ w = w' := by
  have K := Lib.hid (fun V : World => spec_pend p V)
  have hv : topI p = if pend p = true then topTo p 8 else -1 := rfl
  have hp : pend p = true → 0 ≤ p ∧ p ≤ 255 := pend_iff.1
  generalize pend p = x at K hv hp
  cases x
  · rw [if_neg (Bool.false_ne_true)] at hv
    rw [hv]
    clear hv
    go_enter Try.func103, Try.ntmps103
    go_wp2_with fail
    go_loop [3] (fun i => i = .int .i64 7) (fun _ => 0)
    case atStart => rfl
    case round =>
      subst hrel
      go_wp2_with fail
      refine (K.out _).mono ?_
      rintro e w' ⟨rfl, rfl⟩
      go_wp2_with fail
      go_ret
      exact ⟨rfl, rfl⟩
  · rw [if_pos rfl] at hv
    obtain ⟨p0, p1⟩ := hp rfl
    have HV := Lib.hid hv
    clear hv hp
    go_enter Try.func103, Try.ntmps103
    go_wp2_with fail
    go_loop [3] (fun i => ∃ k : Nat, k ≤ 8 ∧ i = .int .i64 ((k : Int) - 1) ∧ topTo p 8 = topTo p k) (fun i => (intOf i + 1).toNat)
    case atStart => exact ⟨8, by omega, rfl, rfl⟩
    case round =>
      obtain ⟨k, hk, rfl, ht⟩ := hrel
      rcases k with _ | k
      · have HT := Lib.hid ht
        clear ht
        go_wp2_with fail
        go_ret
        exact ⟨by rw [HV.out, HT.out]; rfl, rfl⟩
      · have ht' : topTo p 8 = if bitN p k = 1 then (k : Int) else topTo p k := ht
        rw [show ((k + 1 : Nat) : Int) - 1 = (k : Int) by omega]
        have hk0 : (k : Int) ≥ 0 := by omega
        clear ht
        by_cases hb : bitN p k = 1
        · rw [if_pos hb] at ht'
          have HT := Lib.hid ht'
          unfold bitN at hb
          clear ht'
          go_wp2_with fail
          refine (K.out _).mono ?_
          rintro e w' ⟨rfl, rfl⟩
          go_wp2_with fail
          go_ret
          exact ⟨by rw [HV.out, HT.out]; rfl, rfl⟩
        · rw [if_neg hb] at ht'
          have HT := Lib.hid ht'
          have hb' : (bits .and .i64 (p / 2 ^ k) 1 == 1) = false := by unfold bitN at hb; simpa using hb
          clear ht' hb
          go_wp2_with fail
          refine (K.out _).mono ?_
          rintro e w' ⟨rfl, rfl⟩
          go_wp2_with fail
          go_round
          case rel => exact ⟨k, by omega, by go_num, HT.out⟩
          case measure => simp [intOf]
end Go.Proofs.Ytdbhfadiinmgiaa.Irqs
namespace Go.Proofs.Ytdbhfadiinmgiaa.Exits
set_option maxRecDepth 100000
open Go.ChangeShapes Go.WideShapes Go.ChangeAt Go.RowKit
open Go.Proofs.Ytdbhfadiinmgiaa.Base Go.Proofs.Ytdbhfadiinmgiaa.Mem Go.Proofs.Ytdbhfadiinmgiaa.Data
set_option linter.unusedVariables false
set_option linter.unusedSimpArgs false
def ExitP (w : World) (s : QT) (e : Ending) (w' : World) : Prop := e = .returned (.agg #[.int .i64 s.1, .int .i64 s.2.1, .bool s.2.2.1, .int .i64 s.2.2.2]) ∧ Below w.heap.size w w'
theorem spec_fault (p : Int) (q : Bool) (w : World) :
    Calls Try.prog 126 #[.int .i64 p, .bool q] w (ExitP w (1, p, q, 0)) := by
  go_enter Try.func126, Try.ntmps126
  go_wp2_with fail
  exact bodyPost_ret (v := .agg #[.int .i64 1, .int .i64 p, .bool q, .int .i64 0]) (by simp [results, Try.results126, go_sem]) rfl ⟨rfl, (Below.refl _ _).alloc (Nat.le_refl _) _⟩
theorem spec_call (n : Int) (w : World) :
    Calls Try.prog 127 #[.int .i64 n] w (ExitP w (2, 0, false, n)) := by
  go_enter Try.func127, Try.ntmps127
  go_wp2_with fail
  exact bodyPost_ret (v := .agg #[.int .i64 2, .int .i64 0, .bool false, .int .i64 n]) (by simp [results, Try.results127, go_sem]) rfl ⟨rfl, (Below.refl _ _).alloc (Nat.le_refl _) _⟩
theorem spec_out (n : Int) (w : World) :
    Calls Try.prog 128 #[.int .i64 n] w (ExitP w (3, 0, false, n)) := by
  go_enter Try.func128, Try.ntmps128
  go_wp2_with fail
  exact bodyPost_ret (v := .agg #[.int .i64 3, .int .i64 0, .bool false, .int .i64 n]) (by simp [results, Try.results128, go_sem]) rfl ⟨rfl, (Below.refl _ _).alloc (Nat.le_refl _) _⟩
end Go.Proofs.Ytdbhfadiinmgiaa.Exits
namespace Go.Proofs.Ytdbhfadiinmgiaa.Guests
set_option maxRecDepth 100000
open Go.ChangeShapes Go.WideShapes Go.ChangeAt Go.RowKit
open Go.Proofs.Ytdbhfadiinmgiaa.Base Go.Proofs.Ytdbhfadiinmgiaa.Mem Go.Proofs.Ytdbhfadiinmgiaa.Slots Go.Proofs.Ytdbhfadiinmgiaa.Data Go.Proofs.Ytdbhfadiinmgiaa.Ints Go.Proofs.Ytdbhfadiinmgiaa.Inss Go.Proofs.Ytdbhfadiinmgiaa.Ctls Go.Proofs.Ytdbhfadiinmgiaa.Exits Go.Proofs.Ytdbhfadiinmgiaa.Part Go.Proofs.Ytdbhfadiinmgiaa.Guests
open Go.Proofs.Ytdbhfadiinmgiaa.Irqs
set_option linter.unusedVariables false
set_option linter.unusedSimpArgs false
def canRun (g : gT) : Bool := (g.x.1 == 0 && g.x.2.1 == 0 && g.x.2.2.1 == false && g.x.2.2.2 == 0) && !g.hl
def takesI (g : gT) : Bool := canRun g && g.t.2.2 && decide (topI g.pd ≥ 0)
def sawG (g : gT) (n : Int) : gT := if g.seen.length < 40 then { g with seen := g.seen ++ [n] } else g
theorem gR.with {w : World} {lo hi : Nat} {g h : gT} {P0 P1 P2 P3 : Value} (r : gR w lo hi g P0 P1 P2 P3) (e0 : h.prog = g.prog) (e1 : h.wr = g.wr) (e2 : h.lv = g.lv) (e3 : h.seen = g.seen) : gR w lo hi h P0 P1 P2 P3 :=
  ⟨by rw [e0]; exact r.r0, by rw [e1]; exact r.r1, by rw [e2]; exact r.r2, by rw [e3]; exact r.r3⟩
theorem gO.with {w : World} {lo hi : Nat} {g h : gT} {P0 P1 P2 P3 : Value} (r : gO w lo hi g P0 P1 P2 P3) (e0 : h.prog = g.prog) (e1 : h.wr = g.wr) (e2 : h.lv = g.lv) (e3 : h.seen = g.seen) : gO w lo hi h P0 P1 P2 P3 :=
  ⟨by rw [e0]; exact r.r0, by rw [e1]; exact r.r1, by rw [e2]; exact r.r2, by rw [e3]; exact r.r3, r.d01, r.d02, r.d03, r.d12, r.d13, r.d23⟩
theorem gO.far {w : World} {lo hi : Nat} {g : gT} {P0 P1 P2 P3 : Value} (r : gO w lo hi g P0 P1 P2 P3) {z : Nat} (hz : z < lo ∨ hi ≤ z) (i : Nat) (u : Value) : gO (w.setCell ⟨z, i, none⟩ u) lo hi g P0 P1 P2 P3 :=
  r.kept fun k h1 h2 => Below.heap_setCell w ⟨z, i, none⟩ u k (by show k ≠ z; omega)
set_option maxRecDepth 100000 in
set_option maxHeartbeats 4000000 in
theorem spec_canRun (g : gT) (P0 P1 P2 P3 : Value) (w : World) : Calls Try.prog 32 #[.agg #[P0, .int .i64 g.a, .int .i64 g.pc, P1, P2, .int .i64 g.t.1, .int .i64 g.t.2.1, .bool g.t.2.2, .int .i64 g.pd, .int .i64 g.x.1, .int .i64 g.x.2.1, .bool g.x.2.2.1, .int .i64 g.x.2.2.2, .bool g.hl, P3]] w fun e w' => e = .returned (.bool (canRun g)) ∧ Below w.heap.size w w' := by
  have hb0 : Below w.heap.size w (w.alloc (.cells #[P0, .int .i64 g.a, .int .i64 g.pc, P1, P2, .int .i64 g.t.1, .int .i64 g.t.2.1, .bool g.t.2.2, .int .i64 g.pd, .int .i64 g.x.1, .int .i64 g.x.2.1, .bool g.x.2.2.1, .int .i64 g.x.2.2.2, .bool g.hl, P3] 32)) := (Below.refl _ _).alloc (Nat.le_refl _) _
  have hv : canRun g = ((g.x.1 == 0 && g.x.2.1 == 0 && g.x.2.2.1 == false && g.x.2.2.2 == 0) && !g.hl) := rfl
  have HB := Lib.hid hb0
  clear hb0
  rw [hv]
  clear hv
  cases h0 : (g.x.1 == 0)
  · go_enter Try.func32, Try.ntmps32
    go_wp2
    go_ret
    exact ⟨rfl, HB.out⟩
  cases h1 : (g.x.2.1 == 0)
  · go_enter Try.func32, Try.ntmps32
    go_wp2
    go_ret
    exact ⟨rfl, HB.out⟩
  cases h2 : g.x.2.2.1
  all_goals
    cases h3 : (g.x.2.2.2 == 0)
    all_goals
      cases h4 : g.hl
      all_goals
        go_enter Try.func32, Try.ntmps32
        go_wp2
        go_ret
        exact ⟨rfl, by first | exact HB.out | (rw [← h2]; exact HB.out) | (simpa [h2, h4] using HB.out)⟩
set_option maxRecDepth 100000 in
set_option maxHeartbeats 4000000 in
theorem spec_takes (g : gT) (P0 P1 P2 P3 : Value) (w : World) : Calls Try.prog 60 #[.agg #[P0, .int .i64 g.a, .int .i64 g.pc, P1, P2, .int .i64 g.t.1, .int .i64 g.t.2.1, .bool g.t.2.2, .int .i64 g.pd, .int .i64 g.x.1, .int .i64 g.x.2.1, .bool g.x.2.2.1, .int .i64 g.x.2.2.2, .bool g.hl, P3]] w fun e w' => e = .returned (.bool (takesI g)) ∧ Below w.heap.size w w' := by
  have a0 : Var (w.alloc (.cells #[P0, .int .i64 g.a, .int .i64 g.pc, P1, P2, .int .i64 g.t.1, .int .i64 g.t.2.1, .bool g.t.2.2, .int .i64 g.pd, .int .i64 g.x.1, .int .i64 g.x.2.1, .bool g.x.2.2.1, .int .i64 g.x.2.2.2, .bool g.hl, P3] 32)) w.heap.size [P0, .int .i64 g.a, .int .i64 g.pc, P1, P2, .int .i64 g.t.1, .int .i64 g.t.2.1, .bool g.t.2.2, .int .i64 g.pd, .int .i64 g.x.1, .int .i64 g.x.2.1, .bool g.x.2.2.1, .int .i64 g.x.2.2.2, .bool g.hl, P3] := Var.new w _ _
  have hb0 : Below w.heap.size w (w.alloc (.cells #[P0, .int .i64 g.a, .int .i64 g.pc, P1, P2, .int .i64 g.t.1, .int .i64 g.t.2.1, .bool g.t.2.2, .int .i64 g.pd, .int .i64 g.x.1, .int .i64 g.x.2.1, .bool g.x.2.2.1, .int .i64 g.x.2.2.2, .bool g.hl, P3] 32)) := (Below.refl _ _).alloc (Nat.le_refl _) _
  have hv : takesI g = (canRun g && g.t.2.2 && decide (topI g.pd ≥ 0)) := rfl
  have K1 := Lib.hid (fun V : World => spec_canRun g P0 P1 P2 P3 V)
  have K2 := Lib.hid (fun V : World => spec_top g.pd V)
  rw [hv]
  clear hv
  generalize canRun g = c at K1 ⊢
  generalize topI g.pd = k at K2 ⊢
  go_enter Try.func60, Try.ntmps60
  go_wp2_with fail
  generalize (w.alloc (.cells #[P0, .int .i64 g.a, .int .i64 g.pc, P1, P2, .int .i64 g.t.1, .int .i64 g.t.2.1, .bool g.t.2.2, .int .i64 g.pd, .int .i64 g.x.1, .int .i64 g.x.2.1, .bool g.x.2.2.1, .int .i64 g.x.2.2.2, .bool g.hl, P3] 32)) = W0 at a0 hb0 ⊢
  refine (K1.out _).mono ?_
  rintro e w1 ⟨rfl, hbb⟩
  have y7 := (a0.below hbb (by have := a0.2; omega)).cell 7 (v := .bool g.t.2.2) rfl
  have y8 := (a0.below hbb (by have := a0.2; omega)).cell 8 (v := .int .i64 g.pd) rfl
  have HB := Lib.hid (hb0.trans (hbb.mono hb0.size))
  clear hbb hb0 a0 K1
  cases c
  · go_wp2_with fail
    go_ret
    exact ⟨rfl, HB.out⟩
  · cases ho : g.t.2.2
    · rw [ho] at y7
      go_wp2_with fail
      go_ret
      exact ⟨by rw [ho]; rfl, HB.out⟩
    · rw [ho] at y7
      go_wp2_with fail
      refine (K2.out _).mono ?_
      rintro e w' ⟨rfl, rfl⟩
      go_wp2_with fail
      go_ret
      exact ⟨by rw [ho]; rfl, HB.out⟩
end Go.Proofs.Ytdbhfadiinmgiaa.Guests
namespace Go.Proofs.Ytdbhfadiinmgiaa.Slots
set_option maxRecDepth 100000
open Go.ChangeShapes Go.WideShapes Go.ChangeAt Go.RowKit
open Go.Proofs.Ytdbhfadiinmgiaa.Base Go.Proofs.Ytdbhfadiinmgiaa.Mem Go.Proofs.Ytdbhfadiinmgiaa.Ints
theorem spec_no (w : World) :
    Calls Try.prog 105 #[] w fun e w' => e = .returned (.agg #[.int .i64 (-1), .int .i64 0]) ∧ Below w.heap.size w w' := by
  go_enter Try.func105, Try.ntmps105
  go_wp2
  exact bodyPost_ret (v := .agg #[.int .i64 (-1), .int .i64 0]) (by simp [results, Try.results105, go_sem]) rfl ⟨rfl, (Below.refl _ _).alloc (Nat.le_refl _) _⟩
end Go.Proofs.Ytdbhfadiinmgiaa.Slots
namespace Go.Proofs.Ytdbhfadiinmgiaa.Slots
set_option maxRecDepth 100000
open Go.ChangeShapes Go.WideShapes Go.ChangeAt Go.RowKit
open Go.Proofs.Ytdbhfadiinmgiaa.Base Go.Proofs.Ytdbhfadiinmgiaa.Mem Go.Proofs.Ytdbhfadiinmgiaa.Ints
set_option linter.unusedVariables false
theorem scells_set : ∀ (l : List Sl) (k : Nat) (_ : k < l.length) (x y : Int), scells (l.set k (x, y)) = ((scells l).set (k * 2) (.int .i64 x)).set (k * 2 + 1) (.int .i64 y)
  | p :: l, 0, _, x, y => by simp [scells]
  | p :: l, k + 1, h, x, y => by
    have := scells_set l k (by simpa using h) x y
    rw [show (k + 1) * 2 = k * 2 + 1 + 1 by omega]
    simp [scells, this]
end Go.Proofs.Ytdbhfadiinmgiaa.Slots
namespace Go.Proofs.Ytdbhfadiinmgiaa.BroughtW
set_option maxRecDepth 100000
open Go.ChangeShapes Go.WideShapes Go.ChangeAt Go.RowKit
/-- What both functions compute. -/
def brought (n l m : Int) : Int := if m < l ∨ n < l then l else if m < n then m else n
end Go.Proofs.Ytdbhfadiinmgiaa.BroughtW
namespace Go.Proofs.Ytdbhfadiinmgiaa.Slots
set_option maxRecDepth 100000
open Go.ChangeShapes Go.WideShapes Go.ChangeAt Go.RowKit
open Go.Proofs.Ytdbhfadiinmgiaa.Base Go.Proofs.Ytdbhfadiinmgiaa.Mem Go.Proofs.Ytdbhfadiinmgiaa.Ints
set_option linter.unusedVariables false
theorem brought24 (n : Int) : ∃ m : Nat, m ≤ 24 ∧ BroughtW.brought n 0 24 = m := by
  unfold BroughtW.brought
  by_cases h : n < 0
  · exact ⟨0, by omega, by rw [if_pos (Or.inr h)]; rfl⟩
  · by_cases h2 : 24 < n
    · exact ⟨24, by omega, by rw [if_neg (by omega), if_pos h2]; rfl⟩
    · exact ⟨n.toNat, by omega, by rw [if_neg (by omega), if_neg h2]; omega⟩
def newN (n : Int) : Nat := (BroughtW.brought n 0 24).toNat
theorem newN_le (n : Int) : newN n ≤ 24 := by
  obtain ⟨m, h1, h2⟩ := brought24 n
  unfold newN
  rw [h2]; omega
theorem newN_eq (n : Int) : BroughtW.brought n 0 24 = (newN n : Int) := by
  obtain ⟨m, h1, h2⟩ := brought24 n
  unfold newN
  rw [h2]; omega
theorem Try.infoSlot2 : (Try.prog.info? 73).map (fun i => (i.zero, i.size, i.bytes)) = some (some (.agg #[.int .i64 0, .int .i64 0]), 2, 16) := by kernel_rfl
theorem nosL_snoc (k : Nat) : nosL (k + 1) = nosL k ++ [(-1, 0)] := List.replicate_succ'
set_option maxHeartbeats 2000000 in
theorem spec_brought (n : Int) (w : World) :
    Calls Try.prog 104 #[.int .i64 n, .int .i64 0, .int .i64 24] w fun e w' => e = .returned (.int .i64 (BroughtW.brought n 0 24)) ∧ w = w' := by
  by_cases h2 : n < 0
  · have hb : BroughtW.brought n 0 24 = 0 := by unfold BroughtW.brought; rw [if_pos (Or.inr h2)]
    rw [hb]; clear hb
    go_enter Try.func104, Try.ntmps104
    go_wp2
    go_ret
    exact ⟨rfl, rfl⟩
  · by_cases h3 : 24 < n
    · have hb : BroughtW.brought n 0 24 = 24 := by unfold BroughtW.brought; rw [if_neg (by omega), if_pos h3]
      rw [hb]; clear hb
      go_enter Try.func104, Try.ntmps104
      go_wp2
      go_ret
      exact ⟨rfl, rfl⟩
    · have hb : BroughtW.brought n 0 24 = n := by unfold BroughtW.brought; rw [if_neg (by omega), if_neg h3]
      rw [hb]; clear hb
      go_enter Try.func104, Try.ntmps104
      go_wp2
      go_ret
      exact ⟨rfl, rfl⟩
set_option maxHeartbeats 2000000 in
theorem spec_new (n : Int) (w : World) : Calls Try.prog 61 #[.int .i64 n] w (RowPost w (newN n) (nosL (newN n))) := by
  obtain ⟨i0, hi0, hz0, hz1, hz2⟩ := info_parts Try.infoSlot2
  have hK := fun V : World => spec_brought n V
  rw [newN_eq n] at hK
  have hm := newN_le n
  generalize newN n = m at hK hm ⊢
  have HK := Lib.hid hK
  clear hK
  go_enter Try.func61, Try.ntmps61
  go_wp2_with fail
  refine (HK.out _).mono ?_
  rintro e w' ⟨rfl, rfl⟩
  go_wp2_with fail
  go_loopw [3, 4] (fun v i wr => ∃ (k g cap q : Nat), k + q = m ∧ i = .int .i64 q ∧ v = .slice (some ⟨g, 0, none⟩) k cap ∧ wr.ownsRow w.heap.size 73 2 (.slice (some ⟨g, 0, none⟩) k cap) k (scells (nosL k)) ∧ Below w.heap.size w wr) (fun _ i _ => (intOf i).toNat)
  case atStart => exact ⟨0, w.heap.size, 0, m, by omega, rfl, rfl, World.ownsRow_made w #[] 0 (Nat.le_refl _) (Nat.zero_le _) rfl, (Below.refl _ _).alloc (Nat.le_refl _) _⟩
  case round =>
    obtain ⟨k, g, cap, q, hkq, rfl, rfl, hown, hb⟩ := hrel
    have hk24 : k ≤ 24 := by omega
    have HQ := Lib.hid hkq
    clear hkq
    have hbs := hb.size
    by_cases h0 : 0 < q
    · have hq1 : (0 : Int) < (q : Int) := by omega
      have hq2 : q ≤ 24 := by have := HQ.out; omega
      go_wp2_with fail
      refine (spec_no _).mono ?_
      rintro e w1 ⟨rfl, hb1⟩
      have hown1 := hown.kept (grown_of_below hb1 none) (.inr (by simp [Value.ownBlock]))
      have hbw1 : Below w.heap.size w w1 := hb.trans (hb1.mono hb.size)
      have hbs1 := hbw1.size
      clear hb1
      go_wp2_with (at_builtin; refine wpList_append_lies _ rfl _ _ 25 rfl w.heap.size 73 i0 _ 2 16 Try.underlying25 hi0 hz0 hz1 hz2 rfl (by omega) (.slice (some ⟨g, 0, none⟩) k cap) k _ rfl (hown1.alloc _) ⟨w1.heap.size, 0, none⟩ 1 1 [.int .i64 (-1), .int .i64 0] rfl rfl (World.news_of_block (heap_alloc_new w1 _)) (by simp [Value.oneCell']) (by omega) (by simp only [maxLen]; omega) (by omega) (by simp; omega) (w1.heap.size + 1) (by simp) ?_; intro g' cap' w2 hown2 hgrow hat hg2)
      have hown3 : w2.ownsRow w.heap.size 73 2 (.slice (some ⟨g', 0, none⟩) (k + 1) cap') (k + 1) (scells (nosL (k + 1))) := by rw [nosL_snoc, scells_append]; exact hown2
      have hbw2 : Below w.heap.size w w2 := (hbw1.alloc (by first | omega | (simp; omega)) _).grown hgrow (by first | omega | (simp; omega)) (fun j hj => (hown1.lt j hj).1)
      have HF := Lib.hid (And.intro hown3 hbw2)
      clear hown2 hgrow hat hg2 hown3 hbw2
      go_roundw
      case rel => exact ⟨k + 1, g', cap', q - 1, by have := HQ.out; omega, by go_num, rfl, HF.out.1, HF.out.2⟩
      case measure => simp [intOf]; omega
    · have hq : q = 0 := by omega
      subst hq
      have hkm : k = m := HQ.out
      subst hkm
      go_wp2_with fail
      go_ret
      rcases hown.2 with ⟨h', _⟩ | ⟨g1, cap1, cur, h', _, _, hnc, _⟩
      · simp at h'
      · injection h' with h1 h2 h3
        subst h3
        exact ⟨_, _, rfl, hnc, Owned.of_row hown, hb⟩
end Go.Proofs.Ytdbhfadiinmgiaa.Slots
namespace Go.Proofs.Ytdbhfadiinmgiaa.Ord
set_option maxRecDepth 100000
open Go.RowKit
inductive Ot where
  | nil : Ot
  | take : Nat → Ot → Ot
  | alone : Nat → Ot → Ot
  | two : Nat → Ot → Nat → Ot → Ot
section
variable {P : Program} {ops : Array Oper} {Q : Exit → Act → World → Prop} {S : World → Prop}
/-- The tree's own test. -/
def ordT (ops : Array Oper) : Nat → Ot → Array Bool → Bool
  | 0, .nil, listed => (Region.ready .any ops listed).isEmpty
  | f + 1, .take i r, listed => (Region.ready .any ops listed).contains i && Region.free .any ops listed i && ordT ops f r (listed.setIfInBounds i true)
  | f + 1, .alone i r, listed => decide (Region.ready .any ops listed = [i]) && ordT ops f r (listed.setIfInBounds i true)
  | f + 1, .two i r j s, listed => decide (Region.ready .any ops listed = [i, j]) && ordT ops f r (listed.setIfInBounds i true) && ordT ops f s (listed.setIfInBounds j true)
  | _, _, _ => false
def wpOt (P : Program) (ops : Array Oper) (Q : Exit → Act → World → Prop) (S : World → Prop) : Ot → Act → World → Prop
  | .nil, a, w => Q .normal a w
  | .take i r, a, w => ∃ o, ops[i]? = some o ∧ ∃ v, YieldsIf P ops S o v a ∧ wpOt P ops Q S r (a.put o.dst v) w
  | .alone i r, a, w => ∃ o, ops[i]? = some o ∧ ∀ K' : Act → World → Prop, Shut (∀ a w, S w → wpOt P ops Q S r a w → K' a w) → if Region.wanted o (yielded ops a.tmps) = true then Oper.wp P o a w K' Q else K' (a.put o.dst undef) w
  | .two i r j s, a, w => (∃ o, ops[i]? = some o ∧ ∀ K' : Act → World → Prop, Shut (∀ a w, S w → wpOt P ops Q S r a w → K' a w) → if Region.wanted o (yielded ops a.tmps) = true then Oper.wp P o a w K' Q else K' (a.put o.dst undef) w) ∧
    (∃ o, ops[j]? = some o ∧ ∀ K' : Act → World → Prop, Shut (∀ a w, S w → wpOt P ops Q S s a w → K' a w) → if Region.wanted o (yielded ops a.tmps) = true then Oper.wp P o a w K' Q else K' (a.put o.dst undef) w)
theorem wpOt_any (hs : Region.noSelect ops = true) (hQ : ∀ (d : Option Tmp) v c a w, Q (.panic c) (Act.put a d v) w → Q (.panic c) a w) :
    ∀ (f : Nat) (t : Ot) (listed : Array Bool) (a : Act) (w : World), ordT ops f t listed = true → S w → wpOt P ops Q S t a w → wpAnyH P .any ops Q S f listed a w
  | 0, .nil, listed, a, w, hB, _, h => ⟨by simpa [ordT] using hB, h⟩
  | f + 1, .take i r, listed, a, w, hB, hS, ⟨o, ho, v, hy, hK⟩ => by
    simp only [ordT, Bool.and_eq_true] at hB
    exact wpAnyH_take ho hs hB.1.2 hB.1.1 (fun c a w => hQ o.dst v c a w) hy hS (wpOt_any hs hQ f r _ _ _ hB.2 hS hK)
  | f + 1, .alone i r, listed, a, w, hB, hS, ⟨o, ho, h⟩ => by
    simp only [ordT, Bool.and_eq_true, decide_eq_true_eq] at hB
    refine wpAnyH_all hB.1 (by simp) fun j hj => ?_
    have hj' : j = i := by simpa using hj
    subst hj'
    exact wpOp_step ho (fun K' hK => h K' (fun a' w' hS' hW => hK a' w' ⟨hS', wpOt_any hs hQ f r _ _ _ hB.2 hS' hW⟩))
  | f + 1, .two i r j s, listed, a, w, hB, hS, ⟨⟨o, ho, h⟩, ⟨o', ho', h'⟩⟩ => by
    simp only [ordT, Bool.and_eq_true, decide_eq_true_eq] at hB
    refine wpAnyH_all hB.1.1 (by simp) fun k hk => ?_
    simp only [List.mem_cons, List.not_mem_nil, or_false] at hk
    rcases hk with rfl | rfl
    · exact wpOp_step ho (fun K' hK => h K' (fun a' w' hS' hW => hK a' w' ⟨hS', wpOt_any hs hQ f r _ _ _ hB.1.2 hS' hW⟩))
    · exact wpOp_step ho' (fun K' hK => h' K' (fun a' w' hS' hW => hK a' w' ⟨hS', wpOt_any hs hQ f s _ _ _ hB.2 hS' hW⟩))
  | 0, .take _ _, _, _, _, hB, _, _ => by simp [ordT] at hB
  | 0, .alone _ _, _, _, _, hB, _, _ => by simp [ordT] at hB
  | 0, .two _ _ _ _, _, _, _, hB, _, _ => by simp [ordT] at hB
  | _ + 1, .nil, _, _, _, hB, _, _ => by simp [ordT] at hB
/-- THE LAW. -/
theorem wp_region_tree {id : Nat} {a : Act} {w : World} (S : World → Prop) (t : Ot) (hm : P.follows .mixedOrders = true) (hs : Region.noSelect ops = true)
    (hB : ordT ops ops.size t (Array.replicate ops.size false) = true) (hS : S w.drew) (h : wpOt P ops (NoPanic Q) S t a w.drew) : (Code.region id ops true).wp P Q a w :=
  wp_region_noPanic (wp_region_held (S := S) hm (wpOt_any hs (fun _ _ _ _ _ h => h.elim) _ t _ a w.drew hB hS h))
theorem ot_take {i : Nat} {r : Ot} {a : Act} {w : World} {o : Oper} {v : Value} (ho : ops[i]? = some o) (hw : Region.wanted o (yielded ops a.tmps) = true) (hv : ∀ w, S w → (execOp a.eval o).run P w = .ok (.value v) w)
    (h : wpOt P ops Q S r (a.put o.dst v) w) : wpOt P ops Q S (.take i r) a w := ⟨o, ho, v, .inl ⟨hw, hv⟩, h⟩
theorem ot_skip {i : Nat} {r : Ot} {a : Act} {w : World} {o : Oper} (ho : ops[i]? = some o) (hw : Region.wanted o (yielded ops a.tmps) = false)
    (h : wpOt P ops Q S r (a.put o.dst undef) w) : wpOt P ops Q S (.take i r) a w := ⟨o, ho, _, .inr ⟨hw, rfl⟩, h⟩
theorem ot_alone {i : Nat} {r : Ot} {a : Act} {w : World} {o : Oper} (ho : ops[i]? = some o)
    (h : ∀ K' : Act → World → Prop, Shut (∀ a w, S w → wpOt P ops Q S r a w → K' a w) → if Region.wanted o (yielded ops a.tmps) = true then Oper.wp P o a w K' Q else K' (a.put o.dst undef) w) : wpOt P ops Q S (.alone i r) a w := ⟨o, ho, h⟩
theorem ot_two {i j : Nat} {r s : Ot} {a : Act} {w : World} {o o' : Oper} (ho : ops[i]? = some o) (ho' : ops[j]? = some o')
    (h : ∀ K' : Act → World → Prop, Shut (∀ a w, S w → wpOt P ops Q S r a w → K' a w) → if Region.wanted o (yielded ops a.tmps) = true then Oper.wp P o a w K' Q else K' (a.put o.dst undef) w)
    (h' : ∀ K' : Act → World → Prop, Shut (∀ a w, S w → wpOt P ops Q S s a w → K' a w) → if Region.wanted o' (yielded ops a.tmps) = true then Oper.wp P o' a w K' Q else K' (a.put o'.dst undef) w) : wpOt P ops Q S (.two i r j s) a w := ⟨⟨o, ho, h⟩, ⟨o', ho', h'⟩⟩
theorem ot_nil {a : Act} {w : World} (h : Q .normal a w) : wpOt P ops (NoPanic Q) S .nil a w := NoPanic.normal h
end
end Go.Proofs.Ytdbhfadiinmgiaa.Ord
namespace Go.Proofs.Ytdbhfadiinmgiaa.Sx
set_option maxRecDepth 100000
open Go.ChangeShapes Go.WideShapes Go.ChangeAt Go.RowKit Go.Deep
open Go.Proofs.Ytdbhfadiinmgiaa.Base Go.Proofs.Ytdbhfadiinmgiaa.Mem Go.Proofs.Ytdbhfadiinmgiaa.Data Go.Proofs.Ytdbhfadiinmgiaa.Stt
set_option linter.unusedVariables false
set_option linter.unusedSimpArgs false
abbrev Tl := List (Nat × Value)
/-- The value of a slot: the last that was put. -/
def look : Tl → Nat → Option Value
  | [], _ => none
  | (k, v) :: r, s => bif Nat.beq k s then some v else look r s
def ev (T : Tl) : Operand → Value
  | .tmp t => (look T t).getD undef
  | .const v => v
  | .global g => .pointer (some ⟨g, 0, none⟩)
  | .func f => .func (.func f) #[] #[]
def known (T : Tl) : Operand → Bool
  | .tmp t => (look T t).isSome
  | _ => true
def up (d : Option Tmp) (v : Value) (T : Tl) : Tl := match d with | some d => (d, v) :: T | none => T
def okDst (n : Nat) : Option Tmp → Bool
  | some d => Nat.blt d n
  | none => true
structure Ag (n : Nat) (T : Tl) (a : Act) : Prop where
  size : a.tmps.size = n
  defers : a.defers = []
  at_ : ∀ s v, look T s = some v → a.tmps[s]? = some v
section
variable {n : Nat} {T : Tl} {a : Act}
theorem Ag.put (h : Ag n T a) {d : Option Tmp} (hd : okDst n d = true) (v : Value) : Ag n (up d v T) (a.put d v) := by
  cases d with
  | none => exact h
  | some d =>
    have hd' : d < n := Nat.le_of_ble_eq_true hd
    refine ⟨by simp [Act.put, h.size], by simp [Act.put, h.defers], fun s u hs => ?_⟩
    simp only [up, look] at hs
    simp only [Act.put]
    by_cases e : d = s
    · subst e
      rw [Nat.beq_refl, cond_true] at hs
      cases hs
      rw [Array.getElem?_setIfInBounds_self_of_lt (by rw [h.size]; exact hd')]
    · have hb : Nat.beq d s = false := by rw [← Bool.not_eq_true, Nat.beq_eq]; exact e
      rw [hb, cond_false] at hs
      rw [Array.getElem?_setIfInBounds_ne e]
      exact h.at_ s u hs
theorem Ag.value (h : Ag n T a) {x : Operand} (hx : known T x = true) : a.eval x = ev T x := by
  cases x with
  | tmp t =>
    cases hl : look T t with
    | none => rw [known, hl] at hx; cases hx
    | some v =>
      show a.tmps.getD t undef = (look T t).getD undef
      rw [hl, Array.getD_eq_getD_getElem?, h.at_ t v hl]
  | _ => rfl
end
/-- Neither select. -/
def plainOp (o : Oper) : Bool := match o.op with | .select _ _ => false | _ => true
def opsKnown (T : Tl) (o : Oper) : Bool := o.op.operands.toList.all (known T)
theorem Ag.exec {n : Nat} {T : Tl} {a : Act} (h : Ag n T a) {o : Oper} (hp : plainOp o = true) (hk : opsKnown T o = true) : execOp a.eval o = execOp (ev T) o :=
  execOp_congr o (fun cs b e => by simp [plainOp, e] at hp) fun x hx => h.value (List.all_eq_true.1 hk x (by simpa using hx))
/-- Is the guard's slot known as a boolean; is the operation wanted? -/
def gval (T : Tl) (ops : Array Oper) (j : Nat) : Option Bool :=
  match (ops[j]?).bind (·.dst) with
  | some d => (match look T d with | some (.bool b) => some b | _ => none)
  | none => none
def gk (T : Tl) (ops : Array Oper) (o : Oper) : Bool := match o.guard with | none => true | some (j, _) => (match (ops[j]?).bind (·.dst) with | some d => (look T d).isSome | none => false)
def wt (T : Tl) (ops : Array Oper) (o : Oper) : Bool := match o.guard with | none => true | some (j, b) => gval T ops j == some b
theorem Ag.want {n : Nat} {T : Tl} {a : Act} (h : Ag n T a) {ops : Array Oper} {o : Oper} (hk : gk T ops o = true) : Region.wanted o (yielded ops a.tmps) = wt T ops o := by
  unfold Region.wanted wt
  unfold gk at hk
  cases hg : o.guard with
  | none => rfl
  | some p =>
    obtain ⟨j, b⟩ := p
    rw [hg] at hk
    simp only at hk ⊢
    have key : yielded ops a.tmps j = gval T ops j := by
      unfold gval
      unfold yielded
      cases hd : (ops[j]?).bind (·.dst) with
      | none => rw [hd] at hk; cases hk
      | some d =>
        rw [hd] at hk
        simp only at hk ⊢
        cases hl : look T d with
        | none => rw [hl] at hk; cases hk
        | some v =>
          rw [hl] at hk
          simp only [Option.bind_some, h.at_ d v hl]
          cases v <;> simp_all
    rw [key]
/-- What an operation wants. -/
def chk (n : Nat) (T : Tl) (ops : Array Oper) (o : Oper) : Bool := gk T ops o && wt T ops o && plainOp o && opsKnown T o && okDst n o.dst
def chkNo (n : Nat) (T : Tl) (ops : Array Oper) (o : Oper) : Bool := gk T ops o && !wt T ops o && okDst n o.dst
structure Chk (n : Nat) (T : Tl) (ops : Array Oper) (o : Oper) (a : Act) : Prop where
  want : Region.wanted o (yielded ops a.tmps) = true
  exec : execOp a.eval o = execOp (ev T) o
  ok : okDst n o.dst = true
theorem Ag.takes {n : Nat} {T : Tl} {a : Act} (h : Ag n T a) {ops : Array Oper} {o : Oper} (hc : chk n T ops o = true) : Chk n T ops o a := by
  unfold chk at hc
  simp only [Bool.and_eq_true] at hc
  exact ⟨(h.want hc.1.1.1.1).trans hc.1.1.1.2, h.exec hc.1.1.2 hc.1.2, hc.2⟩
/-- Is the type's value a row of cells, or one cell? -/
def isRow (P : Program) (t : TypeId) : Bool := match P.underlying t with | some d => d.isRow | none => false
def isCell (P : Program) (t : TypeId) : Bool := match P.underlying t with | some d => !d.isRow | none => false
theorem isRow_spec {P : Program} {t : TypeId} (h : isRow P t = true) : ∃ d, P.underlying t = some d ∧ d.isRow = true := by
  unfold isRow at h
  cases hu : P.underlying t with
  | none => rw [hu] at h; cases h
  | some d => rw [hu] at h; exact ⟨d, rfl, h⟩
theorem isCell_spec {P : Program} {t : TypeId} (h : isCell P t = true) : ∃ d, P.underlying t = some d ∧ d.isRow = false := by
  unfold isCell at h
  cases hu : P.underlying t with
  | none => rw [hu] at h; cases h
  | some d => rw [hu] at h; exact ⟨d, rfl, by simpa using h⟩
def G (P : Program) (n : Nat) (ops : Array Oper) (Q : Exit → Act → World → Prop) (w0 : World) (T : Tl) (L : List Res) (rest : List Oper) : Prop := ∀ a w, Ag n T a → St w0 w L → wpList P ops Q rest a w
def C (P : Program) (n : Nat) (Q : Exit → Act → World → Prop) (w0 : World) (T : Tl) (L : List Res) (c : Code) : Prop := ∀ a w, Ag n T a → St w0 w L → c.wp P Q a w
def E (n : Nat) (Q : Exit → Act → World → Prop) (w0 : World) (T : Tl) (L : List Res) (e : Exit) : Prop := ∀ a w, Ag n T a → St w0 w L → Q e a w
section
variable {P : Program} {n : Nat} {ops : Array Oper} {Q : Exit → Act → World → Prop} {w0 : World} {T : Tl} {L : List Res} {rest : List Oper} {o : Oper}
theorem G.nil (k : E n Q w0 T L .normal) : G P n ops Q w0 T L [] := fun a w hA S => wpList_nil (k a w hA S)
theorem wpList_takes {a : Act} {w : World} (hw : Region.wanted o (yielded ops a.tmps) = true) (h : o.wp P a w (wpList P ops Q rest) Q) : wpList P ops Q (o :: rest) a w := by
  unfold wpList
  rw [if_pos hw]
  exact .inl h
/-- A value is computed. -/
theorem G.pure (v : Value) (hc : chk n T ops o = true) (hv : ∀ w, (execOp (ev T) o).run P w = .ok (.value v) w) (k : G P n ops Q w0 (up o.dst v T) L rest) : G P n ops Q w0 T L (o :: rest) := fun a w hA S => by
  have c := hA.takes hc
  refine wpList_takes c.want ?_
  unfold Oper.wp
  rw [c.exec, hv w]
  exact k _ _ (hA.put c.ok v) S
theorem G.pureq (v0 v : Value) (hc : chk n T ops o = true) (hv : ∀ w, (execOp (ev T) o).run P w = .ok (.value v0) w) (he : v0 = v) (k : G P n ops Q w0 (up o.dst v T) L rest) : G P n ops Q w0 T L (o :: rest) := G.pure v hc (fun w => he ▸ hv w) k
/-- .. in the worlds that hold the claims. -/
theorem G.reads (v : Value) (hc : chk n T ops o = true) (hv : ∀ w, St w0 w L → (execOp (ev T) o).run P w = .ok (.value v) w) (k : G P n ops Q w0 (up o.dst v T) L rest) : G P n ops Q w0 T L (o :: rest) := fun a w hA S => by
  have c := hA.takes hc
  refine wpList_takes c.want ?_
  unfold Oper.wp
  rw [c.exec, hv w S]
  exact k _ _ (hA.put c.ok v) S
/-- .. whatever the world becomes. -/
theorem G.turns (hc : chk n T ops o = true) (hv : ∀ w, St w0 w L → ∃ v w' L', (execOp (ev T) o).run P w = .ok (.value v) w' ∧ St w0 w' L' ∧ G P n ops Q w0 (up o.dst v T) L' rest) : G P n ops Q w0 T L (o :: rest) := fun a w hA S => by
  have c := hA.takes hc
  obtain ⟨v, w', L', h1, h2, h3⟩ := hv w S
  refine wpList_takes c.want ?_
  unfold Oper.wp
  rw [c.exec, h1]
  exact h3 _ _ (hA.put c.ok v) h2
theorem G.acts (hc : chk n T ops o = true) (hv : ∀ w, St w0 w L → ∃ w' L', (execOp (ev T) o).run P w = .ok .skip w' ∧ St w0 w' L' ∧ G P n ops Q w0 (up o.dst undef T) L' rest) : G P n ops Q w0 T L (o :: rest) := fun a w hA S => by
  have c := hA.takes hc
  obtain ⟨w', L', h1, h2, h3⟩ := hv w S
  refine wpList_takes c.want ?_
  unfold Oper.wp
  rw [c.exec, h1]
  exact h3 _ _ (hA.put c.ok undef) h2
theorem G.skip (hc : chkNo n T ops o = true) (k : G P n ops Q w0 (up o.dst undef T) L rest) : G P n ops Q w0 T L (o :: rest) := fun a w hA S => by
  unfold chkNo at hc
  simp only [Bool.and_eq_true, Bool.not_eq_true'] at hc
  unfold wpList
  rw [if_neg (by rw [hA.want hc.1.1, hc.1.2]; decide)]
  exact k _ _ (hA.put hc.2 undef) S
/-- A call. -/
theorem G.call (f : FuncId) (args : Array Value) (hc : chk n T ops o = true) (hf : ∀ w, (execOp (ev T) o).run P w = .ok (.enter f args) w)
    (h : ∀ w, St w0 w L → Calls P f args w fun e w' => ∃ v L', e = .returned v ∧ St w0 w' L' ∧ G P n ops Q w0 (up o.dst v T) L' rest) : G P n ops Q w0 T L (o :: rest) := fun a w hA S => by
  have c := hA.takes hc
  refine wpList_takes c.want ?_
  unfold Oper.wp
  rw [c.exec, hf w]
  refine (h w S).mono ?_
  rintro e w' ⟨v, L', rfl, h1, h2⟩
  exact h2 _ _ (hA.put c.ok v) h1
/-- .. that hands back plain values and leaves the old as it was. -/
theorem G.plain (f : FuncId) (args : Array Value) (v : Value) (hc : chk n T ops o = true) (hf : ∀ w, (execOp (ev T) o).run P w = .ok (.enter f args) w)
    (h : ∀ w, St w0 w L → Calls P f args w fun e w' => e = .returned v ∧ Below w.heap.size w w') (k : G P n ops Q w0 (up o.dst v T) L rest) : G P n ops Q w0 T L (o :: rest) :=
  G.call f args hc hf fun w S => (h w S).mono fun e w' ⟨he, hb⟩ => ⟨v, L, he, S.call hb, k⟩
/-- A variable. -/
theorem G.box (t : TypeId) (x : Operand) (vs : List Value) (hop : o.op = .box t x) (hc : chk n T ops o = true) (hx : (ev T x).cells = vs.toArray)
    (k : ∀ b, G P n ops Q w0 (up o.dst (.pointer (some ⟨b, 0, none⟩)) T) (vr b vs :: L) rest) : G P n ops Q w0 T L (o :: rest) :=
  G.turns hc fun w S => ⟨_, _, _, by
    unfold execOp
    simp only [hop, Sem.run_bind, Instr.box, newVar, newRow, run_newObj_alloc, Sem.run_pure, Result.andThen_ok, hx], S.alloc vs t, k _⟩
/-- A struct, or a part of one, is loaded. -/
theorem G.ld (t : TypeId) (x : Operand) (b off i : Nat) (vs cs : List Value) (hop : o.op = .load t x) (hc : chk n T ops o = true) (hx : ev T x = .pointer (some ⟨b, off, none⟩)) (hL : L[i]? = some (vr b vs)) (hcs : (vs.drop off).take cs.length = cs)
    (hr : isRow P t = true) (hi : (P.info? t).map (·.size) = some cs.length) (k : G P n ops Q w0 (up o.dst (.agg cs.toArray) T) L rest) : G P n ops Q w0 T L (o :: rest) :=
  G.reads _ hc (fun w S => by
    obtain ⟨d, hu, hd⟩ := isRow_spec hr
    unfold execOp
    have h := run_loadAt_mid (P := P) w b off t cs d (fun j v hv => S.cell i hL (off + j) (by
      rw [← hcs] at hv
      have hj : j < cs.length := by have := (List.getElem?_eq_some_iff.1 hv).1; rw [List.length_take] at this; omega
      rwa [List.getElem?_take, if_pos hj, List.getElem?_drop] at hv)) hu hd hi
    simp only [hop, hx, Sem.run_bind, h, Sem.run_pure, Result.andThen_ok]) k
/-- One cell. -/
theorem G.ld1 (t : TypeId) (x : Operand) (b off i : Nat) (vs : List Value) (v : Value) (hop : o.op = .load t x) (hc : chk n T ops o = true) (hx : ev T x = .pointer (some ⟨b, off, none⟩)) (hL : L[i]? = some (vr b vs)) (hv : vs[off]? = some v)
    (hr : isCell P t = true) (k : G P n ops Q w0 (up o.dst v T) L rest) : G P n ops Q w0 T L (o :: rest) :=
  G.reads v hc (fun w S => by
    obtain ⟨d, hu, hd⟩ := isCell_spec hr
    unfold execOp
    have h : (Instr.loadAt t (.pointer (some ⟨b, off, none⟩))).run P w = .ok v w := by
      have hcell := S.cell i hL off hv
      have hagg : (isAgg t).run P w = .ok false w := by
        unfold isAgg
        rw [Sem.run_bind, run_underlying hu w]
        cases d <;> simp_all
      simp only [Instr.loadAt, Instr.sureAddr, loadVar, Sem.run_bind, Sem.run_pure, Result.andThen_ok, hagg, Bool.false_eq_true, if_false, run_load, hcell]
    simp only [hop, hx, Sem.run_bind, h, Sem.run_pure, Result.andThen_ok]) k
theorem G.alloc (t : TypeId) (z : Value) (vs : List Value) (hop : o.op = .alloc t) (hc : chk n T ops o = true) (hz : ∀ w, (zeroValue t).run P w = .ok z w) (hx : z.cells = vs.toArray)
    (k : ∀ b, G P n ops Q w0 (up o.dst (.pointer (some ⟨b, 0, none⟩)) T) (vr b vs :: L) rest) : G P n ops Q w0 T L (o :: rest) :=
  G.turns hc fun w S => ⟨_, _, _, by
    unfold execOp
    simp only [hop, Sem.run_bind, Instr.alloc, newVar, newRow, hz, run_newObj_alloc, Sem.run_pure, Result.andThen_ok, hx], S.alloc vs t, k _⟩
/-- A value is stored into a variable, or into a part of it. -/
theorem G.sto (t : TypeId) (x y : Operand) (b off i : Nat) (vs us vs' : List Value) (L' : List Res) (hop : o.op = .store t x y) (hc : chk n T ops o = true) (hx : ev T x = .pointer (some ⟨b, off, none⟩)) (hy : (ev T y).cells = us.toArray) (hL : L[i]? = some (vr b vs))
    (hvs : (us.foldl (fun (p : List Value × Nat) u => (p.1.set p.2 u, p.2 + 1)) (vs, off)).1 = vs') (hL' : L.set i (vr b vs') = L') (hl : Nat.ble (off + us.length) vs.length = true) (hi : (P.info? t).map (·.size) = some us.length) (h1 : us.all (·.oneCell') = true)
    (k : G P n ops Q w0 (up o.dst undef T) L' rest) : G P n ops Q w0 T L (o :: rest) :=
  G.acts hc fun w S => by
    have hl' : off + us.length ≤ vs.length := Nat.le_of_ble_eq_true hl
    have ht : w.there b off us.toArray.size := fun j hj => by
      have hj' : off + j < vs.length := by simp at hj; omega
      exact ⟨by rw [S.cell i hL (off + j) (List.getElem?_eq_getElem hj')]; rfl, S.loose i hL (off + j) (List.getElem?_eq_getElem hj')⟩
    refine ⟨w.setCells b off us, L', ?_, ?_, k⟩
    · unfold execOp
      have hcells : (storeVar t ⟨b, off, none⟩ (ev T y)).run P w = (storeVar t ⟨b, off, none⟩ (.agg us.toArray)).run P w := by
        unfold storeVar
        rw [hy]
        rfl
      have hs := run_storeVar_mid (P := P) w b off t us.toArray ht (by simpa using hi) (by simpa using h1)
      simp only [hop, Sem.run_bind, Instr.storeAt, Instr.sureAddr, hx, Sem.run_pure, Result.andThen_ok, hcells, hs]
    · subst hvs hL'
      exact S.turn i hL (vr b _) (Only.setCells (show (vr b vs).foot b from rfl) us off w) (Var.setCells us vs off w (S.at_ i hL)) (fun k hk => .inl hk) (show w0.heap.size ≤ b from S.lo i (vr b vs) hL) (by rw [setCells_size]; have := S.hi i (vr b vs) hL; simpa [vr] using this)
def elemB (P : Program) (t e : TypeId) (size bytes : Nat) : Bool :=
  match P.underlying t, P.info? e with
  | some (.slice e'), some i => Nat.beq e' e && Nat.beq i.size size && Nat.beq i.bytes bytes && Nat.blt 0 size && (match i.zero with | some z => Nat.beq z.cells.size size | none => false)
  | _, _ => false
theorem elemB_spec {t e : TypeId} {size bytes : Nat} (h : elemB P t e size bytes = true) : P.underlying t = some (.slice e) ∧ 0 < size ∧ ∃ i z, P.info? e = some i ∧ i.zero = some z ∧ i.size = size ∧ i.bytes = bytes ∧ z.cells.size = size := by
  unfold elemB at h
  cases hu : P.underlying t with
  | none => rw [hu] at h; cases h
  | some d =>
    rw [hu] at h
    cases d with
    | slice e' =>
      cases hi : P.info? e with
      | none => rw [hi] at h; cases h
      | some i =>
        rw [hi] at h
        simp only [Bool.and_eq_true, Nat.beq_eq] at h
        obtain ⟨⟨⟨⟨h1, h2⟩, h3⟩, h4⟩, h5⟩ := h
        subst h1
        cases hz : i.zero with
        | none => rw [hz] at h5; cases h5
        | some z => rw [hz] at h5; exact ⟨rfl, Nat.le_of_ble_eq_true h4, i, z, rfl, hz, h2, h3, by simpa using h5⟩
    | _ => cases h
/-- A slice made of nothing. -/
theorem G.fresh {α : Type} (e : TypeId) (r : Rp α) (hc : chk n T ops o = true) (hr : ∀ w : World, (execOp (ev T) o).run P w = .ok (.value (.slice (some ⟨w.heap.size, 0, none⟩) 0 0)) (w.alloc (.cells #[] e)))
    (k : ∀ b hi, G P n ops Q w0 (up o.dst (.slice (some ⟨b, 0, none⟩) 0 0) T) (ow (rLst e r) b hi [] [.slice (some ⟨b, 0, none⟩) 0 0] [b] :: L) rest) : G P n ops Q w0 T L (o :: rest) :=
  G.turns hc fun w S => ⟨_, _, _, hr w, S.fresh e r, k _ _⟩
/-- .. and of something: a variable of its own. -/
theorem G.made (e : TypeId) (vs : List Value) (m : Nat) (hc : chk n T ops o = true) (hr : ∀ w : World, (execOp (ev T) o).run P w = .ok (.value (.slice (some ⟨w.heap.size, 0, none⟩) m m)) (w.alloc (.cells vs.toArray e)))
    (k : ∀ b, G P n ops Q w0 (up o.dst (.slice (some ⟨b, 0, none⟩) m m) T) (vr b vs :: L) rest) : G P n ops Q w0 T L (o :: rest) :=
  G.turns hc fun w S => ⟨_, _, _, hr w, S.alloc vs e, k _⟩
/-- What 'append' does (XStOp's law, as a run). -/
theorem apps_run {α : Type} {r : Rp α} {e : TypeId} {o : Oper} {ρ : Operand → Value} {w : World} (S : St w0 w L) (k : Nat) {lo hi : Nat} {xs : List α} {v : Value} {F : List Nat} (hk : L[k]? = some (ow (rLst e r) lo hi xs [v] F))
    {ys zs : List α} {vx : Value} (hxs : rdLst r w 0 w.heap.size ys [vx]) (hzz : xs ++ ys = zs) (m : Nat) (hm : zs.length = m) (hf : Flat r)
    (s x : Operand) (t : TypeId) (ho : o.op = .call { callee := .builtin .append, args := #[s, x], argTypes := #[t, t] })
    (i : TypeInfo) (z : Value) (size bytes : Nat) (ht : P.underlying t = some (.slice e)) (hi' : P.info? e = some i) (hz : i.zero = some z) (hsize : i.size = size) (hby : i.bytes = bytes) (hzs : z.cells.size = size) (hsz : 0 < size) (hr : r.sz = size)
    (hs : ρ s = v) (hx : ρ x = vx) (h63 : xs.length + ys.length ≤ maxLen) (hbytes : (xs.length + ys.length) * bytes ≤ 140737488355328) :
    ∃ A c F' w', m ≤ c ∧ (execOp ρ o).run P w = .ok (.value (.slice A m c)) w' ∧ St w0 w' (L.set k (ow (rLst e r) w0.heap.size w'.heap.size zs [.slice A m c] F')) := by
  subst hm
  obtain ⟨⟨v', ds0, F1, e1, hF, hall, hrow, hhi⟩, hnd⟩ := S.at_ k hk
  cases e1
  have hlo' : w0.heap.size ≤ lo := S.lo k _ hk
  have hhi' : hi ≤ w.heap.size := S.hi k _ hk
  obtain ⟨A, c, ds, e2, hc, hrd, hl⟩ := hxs
  cases e2
  have hlen := rdAll_len hrd
  subst hr hzz
  obtain ⟨v', w', hrun, hown, hgr, hat⟩ := run_app (P := P) w w0.heap.size t o.type e i z r.sz bytes ht hi' hz hsize hby hzs hsz v xs.length ds0 (ownsRow_low hrow hlo') A ys.length c ds hlen (fun j u hu => by
    obtain ⟨b, off, e, _, _, hcell⟩ := hl j u hu
    exact ⟨_, e, by rw [Addr.add_lit]; exact hcell⟩) (flat_ones hf hrd) h63 hbytes S.below.size
  have hx1 : (execOp ρ o).run P w = .ok (.value v') w' := by
    unfold execOp
    simp only [ho, resolve, invoke, builtin, Sem.run_bind, Sem.run_pure, Result.andThen_ok, List.map_toArray, List.map_cons, List.map_nil, hs, hx, hrun]
  have hcl := app_claim (b0 := w0.heap.size) hnd hlo' hhi' hF hall hrow (flat_all hf w w0.heap.size w.heap.size hrd) (by simp) (fun q _ => by simp) (Nat.le_refl _) (Nat.le_refl _) hown hgr hat
  obtain ⟨A', c', rfl, hc'⟩ := row_form hown
  rw [← List.length_append] at hcl hc'
  have hfoot : ∀ q, v.ownBlock = some q → (ow (rLst e r) lo hi xs [v] F).foot q := fun q hq => ⟨by rw [hF]; simp [hq], (hrow.lt q hq).1, hhi q hq⟩
  refine ⟨A', c', _, w', hc', by rw [← List.length_append] at hx1; exact hx1, S.turn k hk _ (Only.of_grown hgr hfoot) hcl (fun q hq => ?_) (Nat.le_refl _) (Nat.le_refl _)⟩
  obtain ⟨hq, _, hq2⟩ := hq
  rw [List.append_nil] at hq
  rcases List.mem_append.1 hq with hq | hq
  · have hq' : (Value.slice A' (xs.length + ys.length) c').ownBlock = some q := by rw [← List.length_append]; simpa using hq
    rcases hat with h5 | h5
    · exact .inl (hfoot q (h5.symm.trans hq'))
    · rw [h5] at hq'; cases hq'; right; exact Nat.le_refl _
  · have := ownAll_inF hall q hq
    exact .inl ⟨by rw [hF]; simp [hq], this⟩
/-- 'append(x, ys...)' onto a row of the call's own. -/
theorem G.apps {α : Type} {r : Rp α} {e : TypeId} (j : Nat) {lo hi : Nat} {xs : List α} {v : Value} {F : List Nat} (hk : L[j]? = some (ow (rLst e r) lo hi xs [v] F)) {ys : List α} (zs : List α) {vx : Value} (hxs : ∀ w, St w0 w L → rdLst r w 0 w.heap.size ys [vx]) (hzz : xs ++ ys = zs) (m : Nat) (hm : zs.length = m) (hf : Flat r)
    (s x : Operand) (t : TypeId) (size bytes : Nat) (hg : o.guard = none) (hop : o.op = .call { callee := .builtin .append, args := #[s, x], argTypes := #[t, t] }) (hc : chk n T ops o = true) (he : elemB P t e size bytes = true) (hr : r.sz = size)
    (hs : ev T s = v) (hx : ev T x = vx) (h63 : xs.length + ys.length ≤ maxLen) (hbytes : (xs.length + ys.length) * bytes ≤ 140737488355328)
    (k : ∀ A c F' hi', m ≤ c → G P n ops Q w0 (up o.dst (.slice A m c) T) (L.set j (ow (rLst e r) w0.heap.size hi' zs [.slice A m c] F')) rest) : G P n ops Q w0 T L (o :: rest) := fun a w hA S => by
  obtain ⟨ht, hsz, i, z, hi', hz, hsize, hby, hzs⟩ := elemB_spec he
  have hkn : opsKnown T o = true := by unfold chk at hc; simp only [Bool.and_eq_true] at hc; exact hc.1.2
  have hkk : ∀ y ∈ o.op.operands, a.eval y = ev T y := fun y hy => hA.value (List.all_eq_true.1 hkn y (by simpa using hy))
  have hops : o.op.operands = #[s, x] := by rw [hop]; simp [Op.operands, Call.operands]
  refine wpList_apps S j hk (hxs w S) hzz m hm hf hg s x t hop i z size bytes ht hi' hz hsize hby hzs hsz hr ?_ ?_ h63 hbytes fun A c F' w' hmc S' => k A c F' _ hmc _ _ (hA.put (hA.takes hc).ok _) S'
  · rw [hkk s (by rw [hops]; simp), hs]
  · rw [hkk x (by rw [hops]; simp), hx]
theorem run_cell {t : TypeId} {b off : Nat} {v : Value} {w : World} (hr : isCell P t = true) (hcell : w.cell? ⟨b, off, none⟩ = some v) : (Instr.loadAt t (.pointer (some ⟨b, off, none⟩))).run P w = .ok v w := by
  obtain ⟨d, hu, hd⟩ := isCell_spec hr
  have hagg : (isAgg t).run P w = .ok false w := by
    unfold isAgg
    rw [Sem.run_bind, run_underlying hu w]
    cases d <;> simp_all
  simp only [Instr.loadAt, Instr.sureAddr, loadVar, Sem.run_bind, Sem.run_pure, Result.andThen_ok, hagg, Bool.false_eq_true, if_false, run_load, hcell]
theorem wrap_up (k : Nat) (h : k ≤ 9223372036854775806) : IntKind.i64.wrap ((k : Int) + 1) = ((k + 1 : Nat) : Int) := by rw [IntKind.wrap_i64]; omega
theorem C.seq {x y : Code} (h : C P n (Exit.then (fun a w => y.wp P Q a w) Q) w0 T L x) : C P n Q w0 T L (.seq x y) := fun a w hA S => wp_seq (h a w hA S)
theorem C.region {id : Nat} {l : List Oper} (h : G P n l.toArray Q w0 T L l) : C P n Q w0 T L (.region id l.toArray false) := fun a w hA S => wp_region_lit (h a w hA S)
theorem C.block {id : Nat} {c : Code} (h : C P n (Exit.inBlock id Q) w0 T L c) : C P n Q w0 T L (.block id c) := fun a w hA S => wp_block (h a w hA S)
theorem C.exit {id : Nat} (h : E n Q w0 T L (.exit id)) : C P n Q w0 T L (.exit id) := fun a w hA S => wp_exit (h a w hA S)
theorem C.ret (h : E n Q w0 T L .ret) : C P n Q w0 T L .ret := fun a w hA S => wp_ret (h a w hA S)
theorem C.skip (h : E n Q w0 T L .normal) : C P n Q w0 T L .skip := fun a w hA S => wp_skip (h a w hA S)
theorem C.yes {c : Operand} {x y : Code} (hk : known T c = true) (hc : ev T c = .bool true) (h : C P n Q w0 T L x) : C P n Q w0 T L (.cond c x y) := fun a w hA S => wp_cond_true ((hA.value hk).trans hc) (h a w hA S)
theorem C.no {c : Operand} {x y : Code} (hk : known T c = true) (hc : ev T c = .bool false) (h : C P n Q w0 T L y) : C P n Q w0 T L (.cond c x y) := fun a w hA S => wp_cond_false ((hA.value hk).trans hc) (h a w hA S)
theorem E.out {e : Exit} {a : Act} {w : World} (h : E n Q w0 T L e) (hA : Ag n T a) (S : St w0 w L) : Q e a w := h a w hA S
theorem E.next {c : Code} {P' : Program} {Q' : Exit → Act → World → Prop} (h : C P' n Q' w0 T L c) : E n (Exit.then (fun a w => c.wp P' Q' a w) Q) w0 T L .normal := h
theorem E.then_ret {N : Act → World → Prop} (h : E n Q w0 T L .ret) : E n (Exit.then N Q) w0 T L .ret := h
theorem E.then_exit {N : Act → World → Prop} {id : Nat} (h : E n Q w0 T L (.exit id)) : E n (Exit.then N Q) w0 T L (.exit id) := h
theorem E.block_ret {id : Nat} (h : E n Q w0 T L .ret) : E n (Exit.inBlock id Q) w0 T L .ret := h
theorem E.block_normal {id : Nat} (h : E n Q w0 T L .normal) : E n (Exit.inBlock id Q) w0 T L .normal := h
theorem E.block_hit {id : Nat} (h : E n Q w0 T L .normal) : E n (Exit.inBlock id Q) w0 T L (.exit id) := fun a w hA S => by
  show if id = id then Q .normal a w else Q (.exit id) a w
  rw [if_pos rfl]
  exact h a w hA S
noncomputable def leastOf (S : Nat → Prop) : Nat := Classical.epsilon fun m => S m ∧ ∀ k, S k → m ≤ k
theorem leastOf_spec {S : Nat → Prop} (h : ∃ m, S m) : S (leastOf S) ∧ ∀ k, S k → leastOf S ≤ k := by
  refine Classical.epsilon_spec (p := fun m => S m ∧ ∀ k, S k → m ≤ k) ?_
  obtain ⟨m, hm⟩ := h
  induction m using Nat.strongRecOn with
  | _ m ih =>
    by_cases h : ∃ k, k < m ∧ S k
    · obtain ⟨k, hk, hs⟩ := h
      exact ih k hk hs
    · exact ⟨m, hm, fun k hs => Nat.le_of_not_lt fun hk => h ⟨k, hk, hs⟩⟩
/-- What a round leaves behind. -/
def Again {α : Type} (n : Nat) (w0 : World) (p : α → Prop) (T : α → Tl) (L : α → List Res) (μ : α → Nat) (m : Nat) (a : Act) (w : World) : Prop := ∃ y, p y ∧ μ y < m ∧ Ag n (T y) a ∧ St w0 w (L y)
theorem C.loop {α : Type} {body : Code} (p : α → Prop) (T' : α → Tl) (L' : α → List Res) (μ : α → Nat) (x0 : α) (hp : p x0) (hT : ∀ a, Ag n T a → Ag n (T' x0) a) (hL : ∀ w, St w0 w L → St w0 w (L' x0))
    (round : ∀ x, p x → C P n (Exit.then (Again n w0 p T' L' μ (μ x)) Q) w0 (T' x) (L' x) body) : C P n Q w0 T L (.loop body) := fun a w hA S => by
  let I : Act → World → α → Prop := fun a w x => p x ∧ Ag n (T' x) a ∧ St w0 w (L' x)
  let M : Act → World → Nat := fun a w => leastOf fun m => ∃ x, I a w x ∧ μ x = m
  refine wp_loop (fun a w => ∃ x, I a w x) M ⟨x0, hp, hT a hA, hL w S⟩ fun a w ⟨x1, h1⟩ => ?_
  obtain ⟨⟨x, ⟨h2, h3, h4⟩, h5⟩, _⟩ := leastOf_spec (S := fun m => ∃ x, I a w x ∧ μ x = m) ⟨μ x1, x1, h1, rfl⟩
  refine wp_mono (round x h2 a w h3 h4) fun e a' w' hq => ?_
  cases e with
  | normal =>
    obtain ⟨y, hy1, hy2, hy3, hy4⟩ := hq
    refine ⟨⟨y, hy1, hy3, hy4⟩, ?_⟩
    have := (leastOf_spec (S := fun m => ∃ x, I a' w' x ∧ μ x = m) ⟨μ y, y, ⟨hy1, hy3, hy4⟩, rfl⟩).2 (μ y) ⟨y, ⟨hy1, hy3, hy4⟩, rfl⟩
    have hM : M a w = μ x := h5.symm
    show M a' w' < M a w
    rw [hM]
    exact Nat.lt_of_le_of_lt this hy2
  | _ => exact hq
theorem E.again {α : Type} {p : α → Prop} {T' : α → Tl} {L' : α → List Res} {μ : α → Nat} {m : Nat} (y : α) (hp : p y) (hμ : μ y < m) (hT : ∀ a, Ag n T a → Ag n (T' y) a) (hL : ∀ w, St w0 w L → St w0 w (L' y)) : E n (Exit.then (Again n w0 p T' L' μ m) Q) w0 T L .normal :=
  fun a w hA S => ⟨y, hp, hμ, hT a hA, hL w S⟩
/-- The function is left: its results. -/
theorem E.ret1 {fn : Func} {R : Ending → World → Prop} {t : Tmp} (v : Value) (hr : fn.results = #[.tmp t]) (ht : look T t = some v) (h : ∀ w, St w0 w L → R (.returned v) w) : E n (bodyPost P fn R) w0 T L .ret := fun a w hA S =>
  bodyPost_ret (v := v) (by rw [results_tmp hr, Array.getD_eq_getD_getElem?, hA.at_ t v ht]; rfl) hA.defers (h w S)
end
theorem St.tail {w0 w : World} {r : Res} {L : List Res} (S : St w0 w (r :: L)) : St w0 w L :=
  ⟨S.below, fun i s h => S.says (i + 1) s h, fun i s h => S.lo (i + 1) s h, fun i s h => S.hi (i + 1) s h, fun i j s t h1 h2 hne => S.apart (i + 1) (j + 1) s t h1 h2 (by omega)⟩
def GT (P : Program) (n : Nat) (ops : Array Oper) (Q : Exit → Act → World → Prop) (Z : World → Prop) (w0 : World) (T : Tl) (L : List Res) (t : Ord.Ot) : Prop := ∀ a w, Ag n T a → St w0 w L → Ord.wpOt P ops Q Z t a w
section
variable {P : Program} {n : Nat} {l : List Oper} {ops : Array Oper} {Q : Exit → Act → World → Prop} {w0 : World} {T : Tl} {L : List Res} {o : Oper} {Z : World → Prop} {t r : Ord.Ot}
theorem C.draw {id : Nat} {l : List Oper} (t : Ord.Ot) (Lz : List Res) (hZ : ∀ w, St w0 w L → St w0 w Lz) (hm : P.follows .mixedOrders = true) (hs : Region.noSelect l.toArray = true) (hB : Ord.ordT l.toArray l.toArray.size t (Array.replicate l.toArray.size false) = true)
    (h : GT P n l.toArray (NoPanic Q) (fun w => St w0 w Lz) w0 T L t) : C P n Q w0 T L (.region id l.toArray true) := fun a w hA S =>
  Ord.wp_region_tree (fun w => St w0 w Lz) t hm hs hB (hZ _ S.drew) (h a _ hA S.drew)
theorem GT.nil (k : E n Q w0 T L .normal) : GT P n ops (NoPanic Q) Z w0 T L .nil := fun a w hA S => Ord.ot_nil (k a w hA S)
theorem at_list {i : Nat} (h : l[i]? = some o) : l.toArray[i]? = some o := by simpa using h
theorem GT.pure (v : Value) (i : Nat) (ho : l[i]? = some o) (hc : chk n T l.toArray o = true) (hv : ∀ w, (execOp (ev T) o).run P w = .ok (.value v) w) (k : GT P n l.toArray Q Z w0 (up o.dst v T) L r) : GT P n l.toArray Q Z w0 T L (.take i r) := fun a w hA S => by
  have c := hA.takes hc
  exact Ord.ot_take (at_list ho) c.want (fun w' _ => by rw [c.exec]; exact hv w') (k _ _ (hA.put c.ok v) S)
theorem GT.pureq (v0 v : Value) (i : Nat) (ho : l[i]? = some o) (hc : chk n T l.toArray o = true) (hv : ∀ w, (execOp (ev T) o).run P w = .ok (.value v0) w) (he : v0 = v) (k : GT P n l.toArray Q Z w0 (up o.dst v T) L r) : GT P n l.toArray Q Z w0 T L (.take i r) := GT.pure v i ho hc (fun w => he ▸ hv w) k
theorem GT.reads (v : Value) (i : Nat) (ho : l[i]? = some o) (hc : chk n T l.toArray o = true) (hv : ∀ w, Z w → (execOp (ev T) o).run P w = .ok (.value v) w) (k : GT P n l.toArray Q Z w0 (up o.dst v T) L r) : GT P n l.toArray Q Z w0 T L (.take i r) := fun a w hA S => by
  have c := hA.takes hc
  exact Ord.ot_take (at_list ho) c.want (fun w' hZ => by rw [c.exec]; exact hv w' hZ) (k _ _ (hA.put c.ok v) S)
theorem GT.skip (i : Nat) (ho : l[i]? = some o) (hc : chkNo n T l.toArray o = true) (k : GT P n l.toArray Q Z w0 (up o.dst undef T) L r) : GT P n l.toArray Q Z w0 T L (.take i r) := fun a w hA S => by
  unfold chkNo at hc
  simp only [Bool.and_eq_true, Bool.not_eq_true'] at hc
  exact Ord.ot_skip (at_list ho) ((hA.want hc.1.1).trans hc.1.2) (k _ _ (hA.put hc.2 undef) S)
/-- A struct, or a part of one, of the claims that the region began with. -/
theorem GT.ld {L0 : List Res} (t : TypeId) (x : Operand) (b off j : Nat) (vs cs : List Value) (i : Nat) (ho : l[i]? = some o) (hop : o.op = .load t x) (hc : chk n T l.toArray o = true) (hx : ev T x = .pointer (some ⟨b, off, none⟩)) (hL : L0[j]? = some (vr b vs)) (hcs : (vs.drop off).take cs.length = cs)
    (hr : isRow P t = true) (hi : (P.info? t).map (·.size) = some cs.length) (k : GT P n l.toArray Q (fun w => St w0 w L0) w0 (up o.dst (.agg cs.toArray) T) L r) : GT P n l.toArray Q (fun w => St w0 w L0) w0 T L (.take i r) :=
  GT.reads _ i ho hc (fun w S => by
    obtain ⟨d, hu, hd⟩ := isRow_spec hr
    unfold execOp
    have h := run_loadAt_mid (P := P) w b off t cs d (fun j' v hv => S.cell j hL (off + j') (by
      rw [← hcs] at hv
      have hj : j' < cs.length := by have := (List.getElem?_eq_some_iff.1 hv).1; rw [List.length_take] at this; omega
      rwa [List.getElem?_take, if_pos hj, List.getElem?_drop] at hv)) hu hd hi
    simp only [hop, hx, Sem.run_bind, h, Sem.run_pure, Result.andThen_ok]) k
theorem GT.ld1 {L0 : List Res} (t : TypeId) (x : Operand) (b off j : Nat) (vs : List Value) (v : Value) (i : Nat) (ho : l[i]? = some o) (hop : o.op = .load t x) (hc : chk n T l.toArray o = true) (hx : ev T x = .pointer (some ⟨b, off, none⟩)) (hL : L0[j]? = some (vr b vs)) (hv : vs[off]? = some v)
    (hr : isCell P t = true) (k : GT P n l.toArray Q (fun w => St w0 w L0) w0 (up o.dst v T) L r) : GT P n l.toArray Q (fun w => St w0 w L0) w0 T L (.take i r) :=
  GT.reads v i ho hc (fun w S => by
    obtain ⟨d, hu, hd⟩ := isCell_spec hr
    unfold execOp
    have h : (Instr.loadAt t (.pointer (some ⟨b, off, none⟩))).run P w = .ok v w := by
      have hcell := S.cell j hL off hv
      have hagg : (isAgg t).run P w = .ok false w := by
        unfold isAgg
        rw [Sem.run_bind, run_underlying hu w]
        cases d <;> simp_all
      simp only [Instr.loadAt, Instr.sureAddr, loadVar, Sem.run_bind, Sem.run_pure, Result.andThen_ok, hagg, Bool.false_eq_true, if_false, run_load, hcell]
    simp only [hop, hx, Sem.run_bind, h, Sem.run_pure, Result.andThen_ok]) k
/-- What stands alone. -/
theorem ot_one {i : Nat} {a : Act} {w : World} {n : Nat} (ho : ops[i]? = some o) (hA : Ag n T a) (hc : chk n T ops o = true) (h : ∀ K' : Act → World → Prop, Shut (∀ a w, Z w → Ord.wpOt P ops Q Z r a w → K' a w) → o.upon P a K' Q ((execOp (ev T) o).run P w)) :
    ∀ K' : Act → World → Prop, Shut (∀ a w, Z w → Ord.wpOt P ops Q Z r a w → K' a w) → if Region.wanted o (yielded ops a.tmps) = true then Oper.wp P o a w K' Q else K' (a.put o.dst undef) w := fun K' hK => by
  have c := hA.takes hc
  rw [if_pos c.want]
  unfold Oper.wp
  rw [c.exec]
  exact h K' hK
def Alone (P : Program) (n : Nat) (ops : Array Oper) (Q : Exit → Act → World → Prop) (Z : World → Prop) (w0 : World) (T : Tl) (L : List Res) (i : Nat) (r : Ord.Ot) : Prop := ∀ a w, Ag n T a → St w0 w L → ∃ o, ops[i]? = some o ∧ ∀ K' : Act → World → Prop, Shut (∀ a w, Z w → Ord.wpOt P ops Q Z r a w → K' a w) → if Region.wanted o (yielded ops a.tmps) = true then Oper.wp P o a w K' Q else K' (a.put o.dst undef) w
theorem GT.alone {i : Nat} (h : Alone P n ops Q Z w0 T L i r) : GT P n ops Q Z w0 T L (.alone i r) := fun a w hA S => by
  obtain ⟨o, ho, h⟩ := h a w hA S
  exact Ord.ot_alone ho h
theorem GT.two {i j : Nat} {s : Ord.Ot} (h : Alone P n ops Q Z w0 T L i r) (h' : Alone P n ops Q Z w0 T L j s) : GT P n ops Q Z w0 T L (.two i r j s) := fun a w hA S => by
  obtain ⟨o, ho, h⟩ := h a w hA S
  obtain ⟨o', ho', h'⟩ := h' a w hA S
  exact Ord.ot_two ho ho' h h'
theorem Alone.call {i : Nat} (f : FuncId) (args : Array Value) (ho : l[i]? = some o) (hc : chk n T l.toArray o = true) (hf : ∀ w, (execOp (ev T) o).run P w = .ok (.enter f args) w)
    (h : ∀ w, St w0 w L → Calls P f args w fun e w' => ∃ v L', e = .returned v ∧ St w0 w' L' ∧ (∀ w, St w0 w L' → Z w) ∧ GT P n l.toArray Q Z w0 (up o.dst v T) L' r) : Alone P n l.toArray Q Z w0 T L i r := fun a w hA S =>
  ⟨o, at_list ho, ot_one (at_list ho) hA hc fun K' hK => by
    rw [hf w]
    refine (h w S).mono ?_
    rintro e w' ⟨v, L', rfl, h1, h2, h3⟩
    exact hK.out _ _ (h2 _ h1) (h3 _ _ (hA.put (hA.takes hc).ok v) h1)⟩
theorem Alone.plain {i : Nat} (f : FuncId) (args : Array Value) (v : Value) (ho : l[i]? = some o) (hc : chk n T l.toArray o = true) (hf : ∀ w, (execOp (ev T) o).run P w = .ok (.enter f args) w)
    (h : ∀ w, St w0 w L → Calls P f args w fun e w' => e = .returned v ∧ Below w.heap.size w w') (hz : ∀ w, St w0 w L → Z w) (k : GT P n l.toArray Q Z w0 (up o.dst v T) L r) : Alone P n l.toArray Q Z w0 T L i r :=
  Alone.call f args ho hc hf fun w S => (h w S).mono fun e w' ⟨he, hb⟩ => ⟨v, L, he, S.call hb, hz, k⟩
theorem Alone.skip {i : Nat} (ho : l[i]? = some o) (hc : chkNo n T l.toArray o = true) (hz : ∀ w, St w0 w L → Z w) (k : GT P n l.toArray Q Z w0 (up o.dst undef T) L r) : Alone P n l.toArray Q Z w0 T L i r := fun a w hA S => by
  unfold chkNo at hc
  simp only [Bool.and_eq_true, Bool.not_eq_true'] at hc
  exact ⟨o, at_list ho, fun K' hK => by
    rw [if_neg (by rw [hA.want hc.1.1, hc.1.2]; decide)]
    exact hK.out _ _ (hz w S) (k _ _ (hA.put hc.2 undef) S)⟩
theorem Alone.turns {i : Nat} (ho : l[i]? = some o) (hc : chk n T l.toArray o = true) (hv : ∀ w, St w0 w L → ∃ v w' L', (execOp (ev T) o).run P w = .ok (.value v) w' ∧ St w0 w' L' ∧ (∀ w, St w0 w L' → Z w) ∧ GT P n l.toArray Q Z w0 (up o.dst v T) L' r) : Alone P n l.toArray Q Z w0 T L i r := fun a w hA S =>
  ⟨o, at_list ho, ot_one (at_list ho) hA hc fun K' hK => by
    obtain ⟨v, w', L', h1, h2, h3, h4⟩ := hv w S
    rw [h1]
    exact hK.out _ _ (h3 _ h2) (h4 _ _ (hA.put (hA.takes hc).ok v) h2)⟩
theorem Alone.acts {i : Nat} (ho : l[i]? = some o) (hc : chk n T l.toArray o = true) (hv : ∀ w, St w0 w L → ∃ w' L', (execOp (ev T) o).run P w = .ok .skip w' ∧ St w0 w' L' ∧ (∀ w, St w0 w L' → Z w) ∧ GT P n l.toArray Q Z w0 (up o.dst undef T) L' r) : Alone P n l.toArray Q Z w0 T L i r := fun a w hA S =>
  ⟨o, at_list ho, ot_one (at_list ho) hA hc fun K' hK => by
    obtain ⟨w', L', h1, h2, h3, h4⟩ := hv w S
    rw [h1]
    exact hK.out _ _ (h3 _ h2) (h4 _ _ (hA.put (hA.takes hc).ok undef) h2)⟩
theorem Alone.reads {i : Nat} (v : Value) (ho : l[i]? = some o) (hc : chk n T l.toArray o = true) (hv : ∀ w, St w0 w L → (execOp (ev T) o).run P w = .ok (.value v) w) (hz : ∀ w, St w0 w L → Z w) (k : GT P n l.toArray Q Z w0 (up o.dst v T) L r) : Alone P n l.toArray Q Z w0 T L i r :=
  Alone.turns ho hc fun w S => ⟨v, w, L, hv w S, S, hz, k⟩
theorem Alone.ld {i : Nat} (t : TypeId) (x : Operand) (b off j : Nat) (vs cs : List Value) (ho : l[i]? = some o) (hop : o.op = .load t x) (hc : chk n T l.toArray o = true) (hx : ev T x = .pointer (some ⟨b, off, none⟩)) (hL : L[j]? = some (vr b vs)) (hcs : (vs.drop off).take cs.length = cs)
    (hr : isRow P t = true) (hi : (P.info? t).map (·.size) = some cs.length) (hz : ∀ w, St w0 w L → Z w) (k : GT P n l.toArray Q Z w0 (up o.dst (.agg cs.toArray) T) L r) : Alone P n l.toArray Q Z w0 T L i r :=
  Alone.reads _ ho hc (fun w S => by
    obtain ⟨d, hu, hd⟩ := isRow_spec hr
    unfold execOp
    have h := run_loadAt_mid (P := P) w b off t cs d (fun j' v hv => S.cell j hL (off + j') (by
      rw [← hcs] at hv
      have hj : j' < cs.length := by have := (List.getElem?_eq_some_iff.1 hv).1; rw [List.length_take] at this; omega
      rwa [List.getElem?_take, if_pos hj, List.getElem?_drop] at hv)) hu hd hi
    simp only [hop, hx, Sem.run_bind, h, Sem.run_pure, Result.andThen_ok]) hz k
theorem Alone.ld1 {i : Nat} (t : TypeId) (x : Operand) (b off j : Nat) (vs : List Value) (v : Value) (ho : l[i]? = some o) (hop : o.op = .load t x) (hc : chk n T l.toArray o = true) (hx : ev T x = .pointer (some ⟨b, off, none⟩)) (hL : L[j]? = some (vr b vs)) (hv : vs[off]? = some v)
    (hr : isCell P t = true) (hz : ∀ w, St w0 w L → Z w) (k : GT P n l.toArray Q Z w0 (up o.dst v T) L r) : Alone P n l.toArray Q Z w0 T L i r :=
  Alone.reads v ho hc (fun w S => by
    unfold execOp
    simp only [hop, hx, Sem.run_bind, run_cell hr (S.cell j hL off hv), Sem.run_pure, Result.andThen_ok]) hz k
theorem Alone.alloc {i : Nat} (t : TypeId) (z : Value) (vs : List Value) (ho : l[i]? = some o) (hop : o.op = .alloc t) (hc : chk n T l.toArray o = true) (hz : ∀ w, (zeroValue t).run P w = .ok z w) (hx : z.cells = vs.toArray) (hZ : ∀ w, St w0 w L → Z w)
    (k : ∀ b, GT P n l.toArray Q Z w0 (up o.dst (.pointer (some ⟨b, 0, none⟩)) T) (vr b vs :: L) r) : Alone P n l.toArray Q Z w0 T L i r :=
  Alone.turns ho hc fun w S => ⟨_, _, _, by
    unfold execOp
    simp only [hop, Sem.run_bind, Instr.alloc, newVar, newRow, hz, run_newObj_alloc, Sem.run_pure, Result.andThen_ok, hx], S.alloc vs t, fun w S => hZ w (St.tail S), k _⟩
theorem Alone.sto {i : Nat} (t : TypeId) (x y : Operand) (b off j : Nat) (vs us vs' : List Value) (L' : List Res) (ho : l[i]? = some o) (hop : o.op = .store t x y) (hc : chk n T l.toArray o = true) (hx : ev T x = .pointer (some ⟨b, off, none⟩)) (hy : (ev T y).cells = us.toArray) (hL : L[j]? = some (vr b vs))
    (hvs : (us.foldl (fun (p : List Value × Nat) u => (p.1.set p.2 u, p.2 + 1)) (vs, off)).1 = vs') (hL' : L.set j (vr b vs') = L') (hl : Nat.ble (off + us.length) vs.length = true) (hi : (P.info? t).map (·.size) = some us.length) (h1 : us.all (·.oneCell') = true)
    (hZ : ∀ w, St w0 w L' → Z w) (k : GT P n l.toArray Q Z w0 (up o.dst undef T) L' r) : Alone P n l.toArray Q Z w0 T L i r :=
  Alone.acts ho hc fun w S => by
    have hl' : off + us.length ≤ vs.length := Nat.le_of_ble_eq_true hl
    have ht : w.there b off us.toArray.size := fun j' hj => by
      have hj' : off + j' < vs.length := by simp at hj; omega
      exact ⟨by rw [S.cell j hL (off + j') (List.getElem?_eq_getElem hj')]; rfl, S.loose j hL (off + j') (List.getElem?_eq_getElem hj')⟩
    refine ⟨w.setCells b off us, L', ?_, ?_, hZ, k⟩
    · unfold execOp
      have hcells : (storeVar t ⟨b, off, none⟩ (ev T y)).run P w = (storeVar t ⟨b, off, none⟩ (.agg us.toArray)).run P w := by
        unfold storeVar
        rw [hy]
        rfl
      have hs := run_storeVar_mid (P := P) w b off t us.toArray ht (by simpa using hi) (by simpa using h1)
      simp only [hop, Sem.run_bind, Instr.storeAt, Instr.sureAddr, hx, Sem.run_pure, Result.andThen_ok, hcells, hs]
    · subst hvs hL'
      exact S.turn j hL (vr b _) (Only.setCells (show (vr b vs).foot b from rfl) us off w) (Var.setCells us vs off w (S.at_ j hL)) (fun k hk => .inl hk) (show w0.heap.size ≤ b from S.lo j (vr b vs) hL) (by rw [setCells_size]; have := S.hi j (vr b vs) hL; simpa [vr] using this)
theorem Alone.made {i : Nat} (e : TypeId) (vs : List Value) (m : Nat) (ho : l[i]? = some o) (hc : chk n T l.toArray o = true) (hr : ∀ w : World, (execOp (ev T) o).run P w = .ok (.value (.slice (some ⟨w.heap.size, 0, none⟩) m m)) (w.alloc (.cells vs.toArray e))) (hZ : ∀ w, St w0 w L → Z w)
    (k : ∀ b, GT P n l.toArray Q Z w0 (up o.dst (.slice (some ⟨b, 0, none⟩) m m) T) (vr b vs :: L) r) : Alone P n l.toArray Q Z w0 T L i r :=
  Alone.turns ho hc fun w S => ⟨_, _, _, hr w, S.alloc vs e, fun w S => hZ w (St.tail S), k _⟩
theorem Alone.apps {i : Nat} {α : Type} {q : Rp α} {e : TypeId} (j : Nat) {lo hi : Nat} {xs : List α} {v : Value} {F : List Nat} (hk : L[j]? = some (ow (rLst e q) lo hi xs [v] F)) {ys : List α} (zs : List α) {vx : Value} (hxs : ∀ w, St w0 w L → rdLst q w 0 w.heap.size ys [vx]) (hzz : xs ++ ys = zs) (m : Nat) (hm : zs.length = m) (hf : Flat q)
    (s x : Operand) (t : TypeId) (size bytes : Nat) (ho : l[i]? = some o) (hop : o.op = .call { callee := .builtin .append, args := #[s, x], argTypes := #[t, t] }) (hc : chk n T l.toArray o = true) (he : elemB P t e size bytes = true) (hr : q.sz = size)
    (hs : ev T s = v) (hx : ev T x = vx) (h63 : xs.length + ys.length ≤ maxLen) (hbytes : (xs.length + ys.length) * bytes ≤ 140737488355328)
    (hZ : ∀ A c F' hi', ∀ w, St w0 w (L.set j (ow (rLst e q) w0.heap.size hi' zs [.slice A m c] F')) → Z w)
    (k : ∀ A c F' hi', m ≤ c → GT P n l.toArray Q Z w0 (up o.dst (.slice A m c) T) (L.set j (ow (rLst e q) w0.heap.size hi' zs [.slice A m c] F')) r) : Alone P n l.toArray Q Z w0 T L i r :=
  Alone.turns ho hc fun w S => by
    obtain ⟨ht, hsz, y, z, hi', hz, hsize, hby, hzs⟩ := elemB_spec he
    obtain ⟨A, c, F', w', hmc, h1, h2⟩ := apps_run S j hk (hxs w S) hzz m hm hf s x t hop y z size bytes ht hi' hz hsize hby hzs hsz hr hs hx h63 hbytes
    exact ⟨_, w', _, h1, h2, hZ A c F' _, k A c F' _ hmc⟩
/-- A region's end under a name of one's own: whatever way it took, this stands. -/
theorem C.cut {c : Code} (R : Exit → Act → World → Prop) (h : C P n R w0 T L c) (k : ∀ e a w, R e a w → Q e a w) : C P n Q w0 T L c := fun a w hA S => wp_mono (h a w hA S) k
theorem Ag.none {n : Nat} {T : Tl} {a : Act} (h : Ag n T a) : Ag n [] a := ⟨h.size, h.defers, fun s v hs => by cases hs⟩
theorem Ag.and {n : Nat} {T T' : Tl} {a : Act} (h : Ag n T a) (h' : Ag n T' a) (s : Nat) (v : Value) (hv : look T s = some v) : Ag n ((s, v) :: T') a :=
  ⟨h.size, h.defers, fun q u hq => by
    simp only [look] at hq
    by_cases e : s = q
    · subst e
      rw [Nat.beq_refl, cond_true] at hq
      cases hq
      exact h.at_ s v hv
    · have hb : Nat.beq s q = false := by rw [← Bool.not_eq_true, Nat.beq_eq]; exact e
      rw [hb, cond_false] at hq
      exact h'.at_ q u hq⟩
theorem E.retc {fn : Func} {R : Ending → World → Prop} {t : Tmp} {ty : TypeId} (b i : Nat) (vs : List Value) (hr : fn.results = #[.cell t ty]) (ht : look T t = some (.pointer (some ⟨b, 0, none⟩))) (hL : L[i]? = some (vr b vs)) (hrow : isRow P ty = true) (hi : (P.info? ty).map (·.size) = some vs.length)
    (h : ∀ w, St w0 w L → R (.returned (.agg vs.toArray)) w) : E n (bodyPost P fn R) w0 T L .ret := fun a w hA S => by
  obtain ⟨d, hu, hd⟩ := isRow_spec hrow
  have hl := run_loadVar_mid (P := P) w b 0 ty vs d (S.range i hL) hu hd hi
  have hg : a.tmps[t]?.getD undef = .pointer (some ⟨b, 0, none⟩) := by rw [hA.at_ t _ ht]; rfl
  exact bodyPost_ret (v := .agg vs.toArray) (by simp [results, hr, hg, asAddr, hl]) hA.defers (h w S)
theorem E.end_ {fn : Func} {R : Ending → World → Prop} (h : E n (bodyPost P fn R) w0 T L .ret) : E n (bodyPost P fn R) w0 T L .normal := h
end
/-- The arguments lie in the first slots. -/
def slots : Nat → List Value → Tl
  | _, [] => []
  | k, v :: r => (k, v) :: slots (k + 1) r
theorem look_slots : ∀ (l : List Value) (k s : Nat) (v : Value), look (slots k l) s = some v → k ≤ s ∧ l[s - k]? = some v
  | [], k, s, v, h => by cases h
  | u :: l, k, s, v, h => by
    simp only [slots, look] at h
    by_cases e : k = s
    · subst e
      rw [Nat.beq_refl, cond_true] at h
      cases h
      exact ⟨Nat.le_refl _, by simp⟩
    · have hb : Nat.beq k s = false := by rw [← Bool.not_eq_true, Nat.beq_eq]; exact e
      rw [hb, cond_false] at h
      obtain ⟨h1, h2⟩ := look_slots l (k + 1) s v h
      refine ⟨by omega, ?_⟩
      rw [show s - k = (s - (k + 1)) + 1 by omega, List.getElem?_cons_succ]
      exact h2
theorem enter {P : Program} {f : FuncId} {fn : Func} {c : Code} {args : List Value} {w : World} {R : Ending → World → Prop} {n : Nat} (hf : P.funcs[f]? = some fn) (hb : fn.body = some c) (hn : fn.ntmps = n) (hl : Nat.ble args.length n = true)
    (h : C P n (bodyPost P fn R) w (slots 0 args) [] c) : Calls P f args.toArray w R :=
  calls_of_wp hf hb (h _ w ⟨by
    have := Nat.le_of_ble_eq_true hl
    simp [hn]; omega, rfl, fun s v hs => by
    obtain ⟨_, h2⟩ := look_slots args 0 s v hs
    have hlt : s < args.length := by have := (List.getElem?_eq_some_iff.1 h2).1; simpa using this
    rw [Array.getElem?_append_left (by simpa using hlt)]
    simpa using h2⟩ (St.start w))
/-- A call that hands back claims of its own: its contract says 'e = .returned v ∧ St w w' M'. -/
theorem St.join {w0 w w' : World} {L M : List Res} (S : St w0 w L) (U : St w w' M) : St w0 w' (M ++ L) := by
  have T := S.call U.below
  have key : ∀ (i : Nat) (s : Res), (M ++ L)[i]? = some s → (i < M.length ∧ M[i]? = some s) ∨ (M.length ≤ i ∧ L[i - M.length]? = some s) := fun i s h => by
    by_cases hi : i < M.length
    · rw [List.getElem?_append_left hi] at h; exact .inl ⟨hi, h⟩
    · rw [List.getElem?_append_right (by omega)] at h; exact .inr ⟨by omega, h⟩
  refine ⟨T.below, fun i s h => ?_, fun i s h => ?_, fun i s h => ?_, fun i j s t h1 h2 hne k hk hk' => ?_⟩
  · rcases key i s h with ⟨_, h⟩ | ⟨_, h⟩
    · exact U.says i s h
    · exact T.says _ s h
  · rcases key i s h with ⟨_, h⟩ | ⟨_, h⟩
    · exact Nat.le_trans S.below.size (U.lo i s h)
    · exact T.lo _ s h
  · rcases key i s h with ⟨_, h⟩ | ⟨_, h⟩
    · exact U.hi i s h
    · exact T.hi _ s h
  · rcases key i s h1 with ⟨a1, h1⟩ | ⟨a1, h1⟩
    · rcases key j t h2 with ⟨a2, h2⟩ | ⟨a2, h2⟩
      · exact U.apart i j s t h1 h2 hne k hk hk'
      · have e1 := (U.footlt h1 hk).1; have e2 := (S.footlt h2 hk').2; omega
    · rcases key j t h2 with ⟨a2, h2⟩ | ⟨a2, h2⟩
      · have e1 := (U.footlt h2 hk').1; have e2 := (S.footlt h1 hk).2; omega
      · exact T.apart _ _ s t h1 h2 (by omega) k hk hk'
end Go.Proofs.Ytdbhfadiinmgiaa.Sx
namespace Go.Proofs.Ytdbhfadiinmgiaa.Guests
set_option maxRecDepth 100000
open Go.ChangeShapes Go.WideShapes Go.ChangeAt Go.RowKit
open Go.Proofs.Ytdbhfadiinmgiaa.Base Go.Proofs.Ytdbhfadiinmgiaa.Mem Go.Proofs.Ytdbhfadiinmgiaa.Data Go.Proofs.Ytdbhfadiinmgiaa.Slots Go.Proofs.Ytdbhfadiinmgiaa.Ints Go.Proofs.Ytdbhfadiinmgiaa.Ctls Go.Proofs.Ytdbhfadiinmgiaa.Exits Go.Proofs.Ytdbhfadiinmgiaa.Stt Go.Proofs.Ytdbhfadiinmgiaa.Irqs
set_option linter.unusedVariables false
set_option linter.unusedSimpArgs false
theorem pcells_s : ∀ l : List (Int × Int), pcells l = Slots.scells l
  | [] => rfl
  | s :: l => by rw [Slots.scells, ← pcells_s l]; rfl
theorem pcells_j : ∀ l : List (Int × Int), pcells l = Inss.jcells l
  | [] => rfl
  | s :: l => by rw [Inss.jcells, ← pcells_j l]; rfl
theorem below_same {w w' : World} (h : w = w') : Below w.heap.size w w' := h ▸ Below.refl _ _
set_option maxRecDepth 100000 in
set_option maxHeartbeats 4000000 in
theorem specx_copy (g : gT) (cs : List Value) (w : World) (hc : rG.cap g) (h : rG.rd w 0 w.heap.size g cs) : Calls Try.prog 51 #[.agg cs.toArray] w (Gives rG w g) := by
  obtain ⟨q0, q1, q2, q3⟩ := rG_len hc
  have hr := h
  obtain ⟨P0, P1, P2, P3, rfl, h0, h1, h2, h3⟩ := rG_rd h
  obtain ⟨PA0, Pc0, e0, hP0⟩ := lst_val h0
  subst e0
  obtain ⟨PA1, Pc1, e1, hP1⟩ := lst_val h1
  subst e1
  obtain ⟨PA2, Pc2, e2, hP2⟩ := lst_val h2
  subst e2
  obtain ⟨PA3, Pc3, e3, hP3⟩ := lst_val h3
  subst e3
  refine Sx.enter (args := [.agg #[.slice PA0 g.prog.length Pc0, .int .i64 g.a, .int .i64 g.pc, .slice PA1 g.wr.length Pc1, .slice PA2 g.lv.length Pc2, .int .i64 g.t.1, .int .i64 g.t.2.1, .bool g.t.2.2, .int .i64 g.pd, .int .i64 g.x.1, .int .i64 g.x.2.1, .bool g.x.2.2.1, .int .i64 g.x.2.2.2, .bool g.hl, .slice PA3 g.seen.length Pc3]]) Try.func51 rfl Try.ntmps51 rfl ?_
  refine Sx.C.seq ?_
  refine Sx.C.region ?_
  refine Sx.G.box 32 (.tmp 0) [.slice PA0 g.prog.length Pc0, .int .i64 g.a, .int .i64 g.pc, .slice PA1 g.wr.length Pc1, .slice PA2 g.lv.length Pc2, .int .i64 g.t.1, .int .i64 g.t.2.1, .bool g.t.2.2, .int .i64 g.pd, .int .i64 g.x.1, .int .i64 g.x.2.1, .bool g.x.2.2.1, .int .i64 g.x.2.2.2, .bool g.hl, .slice PA3 g.seen.length Pc3] rfl (by kernel_rfl) (by kernel_rfl) (fun b1 => ?_)
  refine Sx.G.alloc 32 (.agg #[.slice none 0 0, .int .i64 0, .int .i64 0, .slice none 0 0, .slice none 0 0, .int .i64 0, .int .i64 0, .bool false, .int .i64 0, .int .i64 0, .int .i64 0, .bool false, .int .i64 0, .bool false, .slice none 0 0]) [.slice none 0 0, .int .i64 0, .int .i64 0, .slice none 0 0, .slice none 0 0, .int .i64 0, .int .i64 0, .bool false, .int .i64 0, .int .i64 0, .int .i64 0, .bool false, .int .i64 0, .bool false, .slice none 0 0] rfl (by kernel_rfl) (fun w => by kernel_rfl) (by kernel_rfl) (fun b2 => ?_)
  refine Sx.G.nil ?_
  refine Sx.E.next ?_
  refine Sx.C.seq ?_
  refine Sx.C.region ?_
  refine Sx.G.fresh 42 (rPair rInt rInt) (by kernel_rfl) (fun w => by kernel_rfl) (fun b3 hi3 => ?_)
  refine Sx.G.pure (.pointer (some ⟨b1, 0, none⟩)) (by kernel_rfl) (fun w => by kernel_rfl) ?_
  refine Sx.G.ld1 24 (.tmp 4) b1 0 2 [.slice PA0 g.prog.length Pc0, .int .i64 g.a, .int .i64 g.pc, .slice PA1 g.wr.length Pc1, .slice PA2 g.lv.length Pc2, .int .i64 g.t.1, .int .i64 g.t.2.1, .bool g.t.2.2, .int .i64 g.pd, .int .i64 g.x.1, .int .i64 g.x.2.1, .bool g.x.2.2.1, .int .i64 g.x.2.2.2, .bool g.hl, .slice PA3 g.seen.length Pc3] (.slice PA0 g.prog.length Pc0) rfl (by kernel_rfl) (by kernel_rfl) rfl (by kernel_rfl) (by kernel_rfl) ?_
  refine Sx.G.apps 0 rfl g.prog (fun w S => St.old S h0) (List.nil_append _) g.prog.length (by simp) flat_P2 (.tmp 3) (.tmp 5) 24 2 16 rfl rfl (by kernel_rfl) (by kernel_rfl) rfl (by kernel_rfl) (by kernel_rfl) (by simp only [maxLen, List.length_nil, List.length_cons]; omega) (by simp only [List.length_nil, List.length_cons]; omega) (fun A4 c4 F4 hi4 hm4 => ?_)
  refine Sx.G.pure (.pointer (some ⟨b1, 0, none⟩)) (by kernel_rfl) (fun w => by kernel_rfl) ?_
  refine Sx.G.sto 24 (.tmp 7) (.tmp 6) b1 0 2 [.slice PA0 g.prog.length Pc0, .int .i64 g.a, .int .i64 g.pc, .slice PA1 g.wr.length Pc1, .slice PA2 g.lv.length Pc2, .int .i64 g.t.1, .int .i64 g.t.2.1, .bool g.t.2.2, .int .i64 g.pd, .int .i64 g.x.1, .int .i64 g.x.2.1, .bool g.x.2.2.1, .int .i64 g.x.2.2.2, .bool g.hl, .slice PA3 g.seen.length Pc3] [.slice A4 g.prog.length c4] [.slice A4 g.prog.length c4, .int .i64 g.a, .int .i64 g.pc, .slice PA1 g.wr.length Pc1, .slice PA2 g.lv.length Pc2, .int .i64 g.t.1, .int .i64 g.t.2.1, .bool g.t.2.2, .int .i64 g.pd, .int .i64 g.x.1, .int .i64 g.x.2.1, .bool g.x.2.2.1, .int .i64 g.x.2.2.2, .bool g.hl, .slice PA3 g.seen.length Pc3] [ow (rLst 42 (rPair rInt rInt)) w.heap.size hi4 g.prog [.slice A4 g.prog.length c4] F4, vr b2 [.slice none 0 0, .int .i64 0, .int .i64 0, .slice none 0 0, .slice none 0 0, .int .i64 0, .int .i64 0, .bool false, .int .i64 0, .int .i64 0, .int .i64 0, .bool false, .int .i64 0, .bool false, .slice none 0 0], vr b1 [.slice A4 g.prog.length c4, .int .i64 g.a, .int .i64 g.pc, .slice PA1 g.wr.length Pc1, .slice PA2 g.lv.length Pc2, .int .i64 g.t.1, .int .i64 g.t.2.1, .bool g.t.2.2, .int .i64 g.pd, .int .i64 g.x.1, .int .i64 g.x.2.1, .bool g.x.2.2.1, .int .i64 g.x.2.2.2, .bool g.hl, .slice PA3 g.seen.length Pc3]] rfl (by kernel_rfl) (by kernel_rfl) (by kernel_rfl) rfl (by kernel_rfl) rfl (by kernel_rfl) (by kernel_rfl) (by kernel_rfl) ?_
  refine Sx.G.nil ?_
  refine Sx.E.next ?_
  refine Sx.C.seq ?_
  refine Sx.C.region ?_
  refine Sx.G.fresh 73 (rPair rInt rInt) (by kernel_rfl) (fun w => by kernel_rfl) (fun b5 hi5 => ?_)
  refine Sx.G.pure (.pointer (some ⟨b1, 3, none⟩)) (by kernel_rfl) (fun w => by kernel_rfl) ?_
  refine Sx.G.ld1 25 (.tmp 9) b1 3 3 [.slice A4 g.prog.length c4, .int .i64 g.a, .int .i64 g.pc, .slice PA1 g.wr.length Pc1, .slice PA2 g.lv.length Pc2, .int .i64 g.t.1, .int .i64 g.t.2.1, .bool g.t.2.2, .int .i64 g.pd, .int .i64 g.x.1, .int .i64 g.x.2.1, .bool g.x.2.2.1, .int .i64 g.x.2.2.2, .bool g.hl, .slice PA3 g.seen.length Pc3] (.slice PA1 g.wr.length Pc1) rfl (by kernel_rfl) (by kernel_rfl) rfl (by kernel_rfl) (by kernel_rfl) ?_
  refine Sx.G.apps 0 rfl g.wr (fun w S => St.old S h1) (List.nil_append _) g.wr.length (by simp) flat_P2 (.tmp 8) (.tmp 10) 25 2 16 rfl rfl (by kernel_rfl) (by kernel_rfl) rfl (by kernel_rfl) (by kernel_rfl) (by simp only [maxLen, List.length_nil, List.length_cons]; omega) (by simp only [List.length_nil, List.length_cons]; omega) (fun A6 c6 F6 hi6 hm6 => ?_)
  refine Sx.G.pure (.pointer (some ⟨b1, 3, none⟩)) (by kernel_rfl) (fun w => by kernel_rfl) ?_
  refine Sx.G.sto 25 (.tmp 12) (.tmp 11) b1 3 3 [.slice A4 g.prog.length c4, .int .i64 g.a, .int .i64 g.pc, .slice PA1 g.wr.length Pc1, .slice PA2 g.lv.length Pc2, .int .i64 g.t.1, .int .i64 g.t.2.1, .bool g.t.2.2, .int .i64 g.pd, .int .i64 g.x.1, .int .i64 g.x.2.1, .bool g.x.2.2.1, .int .i64 g.x.2.2.2, .bool g.hl, .slice PA3 g.seen.length Pc3] [.slice A6 g.wr.length c6] [.slice A4 g.prog.length c4, .int .i64 g.a, .int .i64 g.pc, .slice A6 g.wr.length c6, .slice PA2 g.lv.length Pc2, .int .i64 g.t.1, .int .i64 g.t.2.1, .bool g.t.2.2, .int .i64 g.pd, .int .i64 g.x.1, .int .i64 g.x.2.1, .bool g.x.2.2.1, .int .i64 g.x.2.2.2, .bool g.hl, .slice PA3 g.seen.length Pc3] [ow (rLst 73 (rPair rInt rInt)) w.heap.size hi6 g.wr [.slice A6 g.wr.length c6] F6, ow (rLst 42 (rPair rInt rInt)) w.heap.size hi4 g.prog [.slice A4 g.prog.length c4] F4, vr b2 [.slice none 0 0, .int .i64 0, .int .i64 0, .slice none 0 0, .slice none 0 0, .int .i64 0, .int .i64 0, .bool false, .int .i64 0, .int .i64 0, .int .i64 0, .bool false, .int .i64 0, .bool false, .slice none 0 0], vr b1 [.slice A4 g.prog.length c4, .int .i64 g.a, .int .i64 g.pc, .slice A6 g.wr.length c6, .slice PA2 g.lv.length Pc2, .int .i64 g.t.1, .int .i64 g.t.2.1, .bool g.t.2.2, .int .i64 g.pd, .int .i64 g.x.1, .int .i64 g.x.2.1, .bool g.x.2.2.1, .int .i64 g.x.2.2.2, .bool g.hl, .slice PA3 g.seen.length Pc3]] rfl (by kernel_rfl) (by kernel_rfl) (by kernel_rfl) rfl (by kernel_rfl) rfl (by kernel_rfl) (by kernel_rfl) (by kernel_rfl) ?_
  refine Sx.G.nil ?_
  refine Sx.E.next ?_
  refine Sx.C.seq ?_
  refine Sx.C.region ?_
  refine Sx.G.fresh 73 (rPair rInt rInt) (by kernel_rfl) (fun w => by kernel_rfl) (fun b7 hi7 => ?_)
  refine Sx.G.pure (.pointer (some ⟨b1, 4, none⟩)) (by kernel_rfl) (fun w => by kernel_rfl) ?_
  refine Sx.G.ld1 25 (.tmp 14) b1 4 4 [.slice A4 g.prog.length c4, .int .i64 g.a, .int .i64 g.pc, .slice A6 g.wr.length c6, .slice PA2 g.lv.length Pc2, .int .i64 g.t.1, .int .i64 g.t.2.1, .bool g.t.2.2, .int .i64 g.pd, .int .i64 g.x.1, .int .i64 g.x.2.1, .bool g.x.2.2.1, .int .i64 g.x.2.2.2, .bool g.hl, .slice PA3 g.seen.length Pc3] (.slice PA2 g.lv.length Pc2) rfl (by kernel_rfl) (by kernel_rfl) rfl (by kernel_rfl) (by kernel_rfl) ?_
  refine Sx.G.apps 0 rfl g.lv (fun w S => St.old S h2) (List.nil_append _) g.lv.length (by simp) flat_P2 (.tmp 13) (.tmp 15) 25 2 16 rfl rfl (by kernel_rfl) (by kernel_rfl) rfl (by kernel_rfl) (by kernel_rfl) (by simp only [maxLen, List.length_nil, List.length_cons]; omega) (by simp only [List.length_nil, List.length_cons]; omega) (fun A8 c8 F8 hi8 hm8 => ?_)
  refine Sx.G.pure (.pointer (some ⟨b1, 4, none⟩)) (by kernel_rfl) (fun w => by kernel_rfl) ?_
  refine Sx.G.sto 25 (.tmp 17) (.tmp 16) b1 4 4 [.slice A4 g.prog.length c4, .int .i64 g.a, .int .i64 g.pc, .slice A6 g.wr.length c6, .slice PA2 g.lv.length Pc2, .int .i64 g.t.1, .int .i64 g.t.2.1, .bool g.t.2.2, .int .i64 g.pd, .int .i64 g.x.1, .int .i64 g.x.2.1, .bool g.x.2.2.1, .int .i64 g.x.2.2.2, .bool g.hl, .slice PA3 g.seen.length Pc3] [.slice A8 g.lv.length c8] [.slice A4 g.prog.length c4, .int .i64 g.a, .int .i64 g.pc, .slice A6 g.wr.length c6, .slice A8 g.lv.length c8, .int .i64 g.t.1, .int .i64 g.t.2.1, .bool g.t.2.2, .int .i64 g.pd, .int .i64 g.x.1, .int .i64 g.x.2.1, .bool g.x.2.2.1, .int .i64 g.x.2.2.2, .bool g.hl, .slice PA3 g.seen.length Pc3] [ow (rLst 73 (rPair rInt rInt)) w.heap.size hi8 g.lv [.slice A8 g.lv.length c8] F8, ow (rLst 73 (rPair rInt rInt)) w.heap.size hi6 g.wr [.slice A6 g.wr.length c6] F6, ow (rLst 42 (rPair rInt rInt)) w.heap.size hi4 g.prog [.slice A4 g.prog.length c4] F4, vr b2 [.slice none 0 0, .int .i64 0, .int .i64 0, .slice none 0 0, .slice none 0 0, .int .i64 0, .int .i64 0, .bool false, .int .i64 0, .int .i64 0, .int .i64 0, .bool false, .int .i64 0, .bool false, .slice none 0 0], vr b1 [.slice A4 g.prog.length c4, .int .i64 g.a, .int .i64 g.pc, .slice A6 g.wr.length c6, .slice A8 g.lv.length c8, .int .i64 g.t.1, .int .i64 g.t.2.1, .bool g.t.2.2, .int .i64 g.pd, .int .i64 g.x.1, .int .i64 g.x.2.1, .bool g.x.2.2.1, .int .i64 g.x.2.2.2, .bool g.hl, .slice PA3 g.seen.length Pc3]] rfl (by kernel_rfl) (by kernel_rfl) (by kernel_rfl) rfl (by kernel_rfl) rfl (by kernel_rfl) (by kernel_rfl) (by kernel_rfl) ?_
  refine Sx.G.nil ?_
  refine Sx.E.next ?_
  refine Sx.C.seq ?_
  refine Sx.C.region ?_
  refine Sx.G.fresh 3 rInt (by kernel_rfl) (fun w => by kernel_rfl) (fun b9 hi9 => ?_)
  refine Sx.G.pure (.pointer (some ⟨b1, 14, none⟩)) (by kernel_rfl) (fun w => by kernel_rfl) ?_
  refine Sx.G.ld1 30 (.tmp 19) b1 14 5 [.slice A4 g.prog.length c4, .int .i64 g.a, .int .i64 g.pc, .slice A6 g.wr.length c6, .slice A8 g.lv.length c8, .int .i64 g.t.1, .int .i64 g.t.2.1, .bool g.t.2.2, .int .i64 g.pd, .int .i64 g.x.1, .int .i64 g.x.2.1, .bool g.x.2.2.1, .int .i64 g.x.2.2.2, .bool g.hl, .slice PA3 g.seen.length Pc3] (.slice PA3 g.seen.length Pc3) rfl (by kernel_rfl) (by kernel_rfl) rfl (by kernel_rfl) (by kernel_rfl) ?_
  refine Sx.G.apps 0 rfl g.seen (fun w S => St.old S h3) (List.nil_append _) g.seen.length (by simp) flat_int (.tmp 18) (.tmp 20) 30 1 8 rfl rfl (by kernel_rfl) (by kernel_rfl) rfl (by kernel_rfl) (by kernel_rfl) (by simp only [maxLen, List.length_nil, List.length_cons]; omega) (by simp only [List.length_nil, List.length_cons]; omega) (fun A10 c10 F10 hi10 hm10 => ?_)
  refine Sx.G.pure (.pointer (some ⟨b1, 14, none⟩)) (by kernel_rfl) (fun w => by kernel_rfl) ?_
  refine Sx.G.sto 30 (.tmp 22) (.tmp 21) b1 14 5 [.slice A4 g.prog.length c4, .int .i64 g.a, .int .i64 g.pc, .slice A6 g.wr.length c6, .slice A8 g.lv.length c8, .int .i64 g.t.1, .int .i64 g.t.2.1, .bool g.t.2.2, .int .i64 g.pd, .int .i64 g.x.1, .int .i64 g.x.2.1, .bool g.x.2.2.1, .int .i64 g.x.2.2.2, .bool g.hl, .slice PA3 g.seen.length Pc3] [.slice A10 g.seen.length c10] [.slice A4 g.prog.length c4, .int .i64 g.a, .int .i64 g.pc, .slice A6 g.wr.length c6, .slice A8 g.lv.length c8, .int .i64 g.t.1, .int .i64 g.t.2.1, .bool g.t.2.2, .int .i64 g.pd, .int .i64 g.x.1, .int .i64 g.x.2.1, .bool g.x.2.2.1, .int .i64 g.x.2.2.2, .bool g.hl, .slice A10 g.seen.length c10] [ow (rLst 3 rInt) w.heap.size hi10 g.seen [.slice A10 g.seen.length c10] F10, ow (rLst 73 (rPair rInt rInt)) w.heap.size hi8 g.lv [.slice A8 g.lv.length c8] F8, ow (rLst 73 (rPair rInt rInt)) w.heap.size hi6 g.wr [.slice A6 g.wr.length c6] F6, ow (rLst 42 (rPair rInt rInt)) w.heap.size hi4 g.prog [.slice A4 g.prog.length c4] F4, vr b2 [.slice none 0 0, .int .i64 0, .int .i64 0, .slice none 0 0, .slice none 0 0, .int .i64 0, .int .i64 0, .bool false, .int .i64 0, .int .i64 0, .int .i64 0, .bool false, .int .i64 0, .bool false, .slice none 0 0], vr b1 [.slice A4 g.prog.length c4, .int .i64 g.a, .int .i64 g.pc, .slice A6 g.wr.length c6, .slice A8 g.lv.length c8, .int .i64 g.t.1, .int .i64 g.t.2.1, .bool g.t.2.2, .int .i64 g.pd, .int .i64 g.x.1, .int .i64 g.x.2.1, .bool g.x.2.2.1, .int .i64 g.x.2.2.2, .bool g.hl, .slice A10 g.seen.length c10]] rfl (by kernel_rfl) (by kernel_rfl) (by kernel_rfl) rfl (by kernel_rfl) rfl (by kernel_rfl) (by kernel_rfl) (by kernel_rfl) ?_
  refine Sx.G.nil ?_
  refine Sx.E.next ?_
  refine Sx.C.seq ?_
  refine Sx.C.region ?_
  refine Sx.G.ld 32 (.tmp 1) b1 0 5 [.slice A4 g.prog.length c4, .int .i64 g.a, .int .i64 g.pc, .slice A6 g.wr.length c6, .slice A8 g.lv.length c8, .int .i64 g.t.1, .int .i64 g.t.2.1, .bool g.t.2.2, .int .i64 g.pd, .int .i64 g.x.1, .int .i64 g.x.2.1, .bool g.x.2.2.1, .int .i64 g.x.2.2.2, .bool g.hl, .slice A10 g.seen.length c10] [.slice A4 g.prog.length c4, .int .i64 g.a, .int .i64 g.pc, .slice A6 g.wr.length c6, .slice A8 g.lv.length c8, .int .i64 g.t.1, .int .i64 g.t.2.1, .bool g.t.2.2, .int .i64 g.pd, .int .i64 g.x.1, .int .i64 g.x.2.1, .bool g.x.2.2.1, .int .i64 g.x.2.2.2, .bool g.hl, .slice A10 g.seen.length c10] rfl (by kernel_rfl) (by kernel_rfl) rfl (by kernel_rfl) (by kernel_rfl) (by kernel_rfl) ?_
  refine Sx.G.sto 32 (.tmp 2) (.tmp 23) b2 0 4 [.slice none 0 0, .int .i64 0, .int .i64 0, .slice none 0 0, .slice none 0 0, .int .i64 0, .int .i64 0, .bool false, .int .i64 0, .int .i64 0, .int .i64 0, .bool false, .int .i64 0, .bool false, .slice none 0 0] [.slice A4 g.prog.length c4, .int .i64 g.a, .int .i64 g.pc, .slice A6 g.wr.length c6, .slice A8 g.lv.length c8, .int .i64 g.t.1, .int .i64 g.t.2.1, .bool g.t.2.2, .int .i64 g.pd, .int .i64 g.x.1, .int .i64 g.x.2.1, .bool g.x.2.2.1, .int .i64 g.x.2.2.2, .bool g.hl, .slice A10 g.seen.length c10] [.slice A4 g.prog.length c4, .int .i64 g.a, .int .i64 g.pc, .slice A6 g.wr.length c6, .slice A8 g.lv.length c8, .int .i64 g.t.1, .int .i64 g.t.2.1, .bool g.t.2.2, .int .i64 g.pd, .int .i64 g.x.1, .int .i64 g.x.2.1, .bool g.x.2.2.1, .int .i64 g.x.2.2.2, .bool g.hl, .slice A10 g.seen.length c10] [ow (rLst 3 rInt) w.heap.size hi10 g.seen [.slice A10 g.seen.length c10] F10, ow (rLst 73 (rPair rInt rInt)) w.heap.size hi8 g.lv [.slice A8 g.lv.length c8] F8, ow (rLst 73 (rPair rInt rInt)) w.heap.size hi6 g.wr [.slice A6 g.wr.length c6] F6, ow (rLst 42 (rPair rInt rInt)) w.heap.size hi4 g.prog [.slice A4 g.prog.length c4] F4, vr b2 [.slice A4 g.prog.length c4, .int .i64 g.a, .int .i64 g.pc, .slice A6 g.wr.length c6, .slice A8 g.lv.length c8, .int .i64 g.t.1, .int .i64 g.t.2.1, .bool g.t.2.2, .int .i64 g.pd, .int .i64 g.x.1, .int .i64 g.x.2.1, .bool g.x.2.2.1, .int .i64 g.x.2.2.2, .bool g.hl, .slice A10 g.seen.length c10], vr b1 [.slice A4 g.prog.length c4, .int .i64 g.a, .int .i64 g.pc, .slice A6 g.wr.length c6, .slice A8 g.lv.length c8, .int .i64 g.t.1, .int .i64 g.t.2.1, .bool g.t.2.2, .int .i64 g.pd, .int .i64 g.x.1, .int .i64 g.x.2.1, .bool g.x.2.2.1, .int .i64 g.x.2.2.2, .bool g.hl, .slice A10 g.seen.length c10]] rfl (by kernel_rfl) (by kernel_rfl) (by kernel_rfl) rfl (by kernel_rfl) rfl (by kernel_rfl) (by kernel_rfl) (by kernel_rfl) ?_
  refine Sx.G.nil ?_
  refine Sx.E.next ?_
  refine Sx.C.ret ?_
  refine Sx.E.retc b2 4 [.slice A4 g.prog.length c4, .int .i64 g.a, .int .i64 g.pc, .slice A6 g.wr.length c6, .slice A8 g.lv.length c8, .int .i64 g.t.1, .int .i64 g.t.2.1, .bool g.t.2.2, .int .i64 g.pd, .int .i64 g.x.1, .int .i64 g.x.2.1, .bool g.x.2.2.1, .int .i64 g.x.2.2.2, .bool g.hl, .slice A10 g.seen.length c10] rfl (by kernel_rfl) rfl (by kernel_rfl) (by kernel_rfl) (fun w S => ?_)
  obtain ⟨GW2, S⟩ := S.weak 2 rfl
  obtain ⟨GW1, S⟩ := S.weak 1 rfl
  obtain ⟨ho, hF⟩ := rG_shut (g := g) S 3 rfl 2 rfl 1 rfl 0 rfl (by decide) (by decide) (by decide) (by decide) (by decide) (by decide)
  exact ⟨_, _, rfl, ho, hF, S.below⟩
set_option maxRecDepth 100000 in
set_option maxHeartbeats 4000000 in
theorem specx_saw (g : gT) (cs : List Value) (n : Int) (w : World) (hc : rG.cap g) (h : rG.rd w 0 w.heap.size g cs) : Calls Try.prog 55 #[.agg cs.toArray, .int .i64 n] w (Gives rG w (sawG g n)) := by
  obtain ⟨q0, q1, q2, q3⟩ := rG_len hc
  have hr := h
  obtain ⟨P0, P1, P2, P3, rfl, h0, h1, h2, h3⟩ := rG_rd h
  obtain ⟨PA0, Pc0, e0, hP0⟩ := lst_val h0
  subst e0
  obtain ⟨PA1, Pc1, e1, hP1⟩ := lst_val h1
  subst e1
  obtain ⟨PA2, Pc2, e2, hP2⟩ := lst_val h2
  subst e2
  obtain ⟨PA3, Pc3, e3, hP3⟩ := lst_val h3
  subst e3
  refine Sx.enter (args := [.agg #[.slice PA0 g.prog.length Pc0, .int .i64 g.a, .int .i64 g.pc, .slice PA1 g.wr.length Pc1, .slice PA2 g.lv.length Pc2, .int .i64 g.t.1, .int .i64 g.t.2.1, .bool g.t.2.2, .int .i64 g.pd, .int .i64 g.x.1, .int .i64 g.x.2.1, .bool g.x.2.2.1, .int .i64 g.x.2.2.2, .bool g.hl, .slice PA3 g.seen.length Pc3], .int .i64 n]) Try.func55 rfl Try.ntmps55 rfl ?_
  refine Sx.C.seq ?_
  refine Sx.C.region ?_
  refine Sx.G.box 32 (.tmp 0) [.slice PA0 g.prog.length Pc0, .int .i64 g.a, .int .i64 g.pc, .slice PA1 g.wr.length Pc1, .slice PA2 g.lv.length Pc2, .int .i64 g.t.1, .int .i64 g.t.2.1, .bool g.t.2.2, .int .i64 g.pd, .int .i64 g.x.1, .int .i64 g.x.2.1, .bool g.x.2.2.1, .int .i64 g.x.2.2.2, .bool g.hl, .slice PA3 g.seen.length Pc3] rfl (by kernel_rfl) (by kernel_rfl) (fun b1 => ?_)
  refine Sx.G.alloc 32 (.agg #[.slice none 0 0, .int .i64 0, .int .i64 0, .slice none 0 0, .slice none 0 0, .int .i64 0, .int .i64 0, .bool false, .int .i64 0, .int .i64 0, .int .i64 0, .bool false, .int .i64 0, .bool false, .slice none 0 0]) [.slice none 0 0, .int .i64 0, .int .i64 0, .slice none 0 0, .slice none 0 0, .int .i64 0, .int .i64 0, .bool false, .int .i64 0, .int .i64 0, .int .i64 0, .bool false, .int .i64 0, .bool false, .slice none 0 0] rfl (by kernel_rfl) (fun w => by kernel_rfl) (by kernel_rfl) (fun b2 => ?_)
  refine Sx.G.nil ?_
  refine Sx.E.next ?_
  refine Sx.C.seq ?_
  refine Sx.C.region ?_
  refine Sx.G.ld 32 (.tmp 2) b1 0 1 [.slice PA0 g.prog.length Pc0, .int .i64 g.a, .int .i64 g.pc, .slice PA1 g.wr.length Pc1, .slice PA2 g.lv.length Pc2, .int .i64 g.t.1, .int .i64 g.t.2.1, .bool g.t.2.2, .int .i64 g.pd, .int .i64 g.x.1, .int .i64 g.x.2.1, .bool g.x.2.2.1, .int .i64 g.x.2.2.2, .bool g.hl, .slice PA3 g.seen.length Pc3] [.slice PA0 g.prog.length Pc0, .int .i64 g.a, .int .i64 g.pc, .slice PA1 g.wr.length Pc1, .slice PA2 g.lv.length Pc2, .int .i64 g.t.1, .int .i64 g.t.2.1, .bool g.t.2.2, .int .i64 g.pd, .int .i64 g.x.1, .int .i64 g.x.2.1, .bool g.x.2.2.1, .int .i64 g.x.2.2.2, .bool g.hl, .slice PA3 g.seen.length Pc3] rfl (by kernel_rfl) (by kernel_rfl) rfl (by kernel_rfl) (by kernel_rfl) (by kernel_rfl) ?_
  refine Sx.G.call 51 #[.agg #[.slice PA0 g.prog.length Pc0, .int .i64 g.a, .int .i64 g.pc, .slice PA1 g.wr.length Pc1, .slice PA2 g.lv.length Pc2, .int .i64 g.t.1, .int .i64 g.t.2.1, .bool g.t.2.2, .int .i64 g.pd, .int .i64 g.x.1, .int .i64 g.x.2.1, .bool g.x.2.2.1, .int .i64 g.x.2.2.2, .bool g.hl, .slice PA3 g.seen.length Pc3]] (by kernel_rfl) (fun w => by kernel_rfl) (fun w3 S => (specx_copy g _ _ (by exact hc) (St.old S hr)).mono fun e w3' hp => ?_)
  obtain ⟨cs, F, rfl, ho, hF, hb⟩ := hp
  obtain ⟨q3_0, q3_1, q3_2, q3_3, G3_0, G3_1, G3_2, G3_3, rfl, S'⟩ := rG_open (S.got hb ho hF)
  obtain ⟨q3A0, q3c0, e0, -⟩ := lst_val (S'.reads 0 rfl)
  subst e0
  obtain ⟨q3A1, q3c1, e1, -⟩ := lst_val (S'.reads 1 rfl)
  subst e1
  obtain ⟨q3A2, q3c2, e2, -⟩ := lst_val (S'.reads 2 rfl)
  subst e2
  obtain ⟨q3A3, q3c3, e3, -⟩ := lst_val (S'.reads 3 rfl)
  subst e3
  refine ⟨_, _, rfl, S', ?_⟩
  clear S S' ho hF hb
  refine Sx.G.sto 32 (.tmp 2) (.tmp 6) b1 0 5 [.slice PA0 g.prog.length Pc0, .int .i64 g.a, .int .i64 g.pc, .slice PA1 g.wr.length Pc1, .slice PA2 g.lv.length Pc2, .int .i64 g.t.1, .int .i64 g.t.2.1, .bool g.t.2.2, .int .i64 g.pd, .int .i64 g.x.1, .int .i64 g.x.2.1, .bool g.x.2.2.1, .int .i64 g.x.2.2.2, .bool g.hl, .slice PA3 g.seen.length Pc3] [.slice q3A0 g.prog.length q3c0, .int .i64 g.a, .int .i64 g.pc, .slice q3A1 g.wr.length q3c1, .slice q3A2 g.lv.length q3c2, .int .i64 g.t.1, .int .i64 g.t.2.1, .bool g.t.2.2, .int .i64 g.pd, .int .i64 g.x.1, .int .i64 g.x.2.1, .bool g.x.2.2.1, .int .i64 g.x.2.2.2, .bool g.hl, .slice q3A3 g.seen.length q3c3] [.slice q3A0 g.prog.length q3c0, .int .i64 g.a, .int .i64 g.pc, .slice q3A1 g.wr.length q3c1, .slice q3A2 g.lv.length q3c2, .int .i64 g.t.1, .int .i64 g.t.2.1, .bool g.t.2.2, .int .i64 g.pd, .int .i64 g.x.1, .int .i64 g.x.2.1, .bool g.x.2.2.1, .int .i64 g.x.2.2.2, .bool g.hl, .slice q3A3 g.seen.length q3c3] [ow (rLst 42 (rPair rInt rInt)) w3.heap.size (w3'.heap.size) g.prog [.slice q3A0 g.prog.length q3c0] G3_0, ow (rLsw (rPair rInt rInt)) w3.heap.size w3'.heap.size g.wr [.slice q3A1 g.wr.length q3c1] G3_1, ow (rLsw (rPair rInt rInt)) w3.heap.size w3'.heap.size g.lv [.slice q3A2 g.lv.length q3c2] G3_2, ow (rLst 3 rInt) w3.heap.size (w3'.heap.size) g.seen [.slice q3A3 g.seen.length q3c3] G3_3, vr b2 [.slice none 0 0, .int .i64 0, .int .i64 0, .slice none 0 0, .slice none 0 0, .int .i64 0, .int .i64 0, .bool false, .int .i64 0, .int .i64 0, .int .i64 0, .bool false, .int .i64 0, .bool false, .slice none 0 0], vr b1 [.slice q3A0 g.prog.length q3c0, .int .i64 g.a, .int .i64 g.pc, .slice q3A1 g.wr.length q3c1, .slice q3A2 g.lv.length q3c2, .int .i64 g.t.1, .int .i64 g.t.2.1, .bool g.t.2.2, .int .i64 g.pd, .int .i64 g.x.1, .int .i64 g.x.2.1, .bool g.x.2.2.1, .int .i64 g.x.2.2.2, .bool g.hl, .slice q3A3 g.seen.length q3c3]] rfl (by kernel_rfl) (by kernel_rfl) (by kernel_rfl) rfl (by kernel_rfl) rfl (by kernel_rfl) (by kernel_rfl) (by kernel_rfl) ?_
  refine Sx.G.nil ?_
  refine Sx.E.next ?_
  refine Sx.C.seq ?_
  refine Sx.C.seq ?_
  refine Sx.C.region ?_
  refine Sx.G.pure (.pointer (some ⟨b1, 14, none⟩)) (by kernel_rfl) (fun w => by kernel_rfl) ?_
  refine Sx.G.ld1 30 (.tmp 7) b1 14 5 [.slice q3A0 g.prog.length q3c0, .int .i64 g.a, .int .i64 g.pc, .slice q3A1 g.wr.length q3c1, .slice q3A2 g.lv.length q3c2, .int .i64 g.t.1, .int .i64 g.t.2.1, .bool g.t.2.2, .int .i64 g.pd, .int .i64 g.x.1, .int .i64 g.x.2.1, .bool g.x.2.2.1, .int .i64 g.x.2.2.2, .bool g.hl, .slice q3A3 g.seen.length q3c3] (.slice q3A3 g.seen.length q3c3) rfl (by kernel_rfl) (by kernel_rfl) rfl (by kernel_rfl) (by kernel_rfl) ?_
  refine Sx.G.pure (.int .i64 ((g.seen.length : Nat) : Int)) (by kernel_rfl) (fun w => by kernel_rfl) ?_
  refine Sx.G.pure (.bool (decide (((g.seen.length : Nat) : Int) < 40))) (by kernel_rfl) (fun w => by kernel_rfl) ?_
  refine Sx.G.nil ?_
  refine Sx.E.next ?_
  cases hc4 : (decide (((g.seen.length : Nat) : Int) < 40))
  · have hb4 := hc4
    replace hc4 := of_decide_eq_false hc4
    refine Sx.C.no (by kernel_rfl) (by kernel_rfl) ?_
    refine Sx.C.skip ?_
    refine Sx.E.next ?_
    refine Sx.C.seq ?_
    refine Sx.C.region ?_
    refine Sx.G.ld 32 (.tmp 2) b1 0 5 [.slice q3A0 g.prog.length q3c0, .int .i64 g.a, .int .i64 g.pc, .slice q3A1 g.wr.length q3c1, .slice q3A2 g.lv.length q3c2, .int .i64 g.t.1, .int .i64 g.t.2.1, .bool g.t.2.2, .int .i64 g.pd, .int .i64 g.x.1, .int .i64 g.x.2.1, .bool g.x.2.2.1, .int .i64 g.x.2.2.2, .bool g.hl, .slice q3A3 g.seen.length q3c3] [.slice q3A0 g.prog.length q3c0, .int .i64 g.a, .int .i64 g.pc, .slice q3A1 g.wr.length q3c1, .slice q3A2 g.lv.length q3c2, .int .i64 g.t.1, .int .i64 g.t.2.1, .bool g.t.2.2, .int .i64 g.pd, .int .i64 g.x.1, .int .i64 g.x.2.1, .bool g.x.2.2.1, .int .i64 g.x.2.2.2, .bool g.hl, .slice q3A3 g.seen.length q3c3] rfl (by kernel_rfl) (by kernel_rfl) rfl (by kernel_rfl) (by kernel_rfl) (by kernel_rfl) ?_
    refine Sx.G.sto 32 (.tmp 4) (.tmp 17) b2 0 4 [.slice none 0 0, .int .i64 0, .int .i64 0, .slice none 0 0, .slice none 0 0, .int .i64 0, .int .i64 0, .bool false, .int .i64 0, .int .i64 0, .int .i64 0, .bool false, .int .i64 0, .bool false, .slice none 0 0] [.slice q3A0 g.prog.length q3c0, .int .i64 g.a, .int .i64 g.pc, .slice q3A1 g.wr.length q3c1, .slice q3A2 g.lv.length q3c2, .int .i64 g.t.1, .int .i64 g.t.2.1, .bool g.t.2.2, .int .i64 g.pd, .int .i64 g.x.1, .int .i64 g.x.2.1, .bool g.x.2.2.1, .int .i64 g.x.2.2.2, .bool g.hl, .slice q3A3 g.seen.length q3c3] [.slice q3A0 g.prog.length q3c0, .int .i64 g.a, .int .i64 g.pc, .slice q3A1 g.wr.length q3c1, .slice q3A2 g.lv.length q3c2, .int .i64 g.t.1, .int .i64 g.t.2.1, .bool g.t.2.2, .int .i64 g.pd, .int .i64 g.x.1, .int .i64 g.x.2.1, .bool g.x.2.2.1, .int .i64 g.x.2.2.2, .bool g.hl, .slice q3A3 g.seen.length q3c3] [ow (rLst 42 (rPair rInt rInt)) w3.heap.size (w3'.heap.size) g.prog [.slice q3A0 g.prog.length q3c0] G3_0, ow (rLsw (rPair rInt rInt)) w3.heap.size w3'.heap.size g.wr [.slice q3A1 g.wr.length q3c1] G3_1, ow (rLsw (rPair rInt rInt)) w3.heap.size w3'.heap.size g.lv [.slice q3A2 g.lv.length q3c2] G3_2, ow (rLst 3 rInt) w3.heap.size (w3'.heap.size) g.seen [.slice q3A3 g.seen.length q3c3] G3_3, vr b2 [.slice q3A0 g.prog.length q3c0, .int .i64 g.a, .int .i64 g.pc, .slice q3A1 g.wr.length q3c1, .slice q3A2 g.lv.length q3c2, .int .i64 g.t.1, .int .i64 g.t.2.1, .bool g.t.2.2, .int .i64 g.pd, .int .i64 g.x.1, .int .i64 g.x.2.1, .bool g.x.2.2.1, .int .i64 g.x.2.2.2, .bool g.hl, .slice q3A3 g.seen.length q3c3], vr b1 [.slice q3A0 g.prog.length q3c0, .int .i64 g.a, .int .i64 g.pc, .slice q3A1 g.wr.length q3c1, .slice q3A2 g.lv.length q3c2, .int .i64 g.t.1, .int .i64 g.t.2.1, .bool g.t.2.2, .int .i64 g.pd, .int .i64 g.x.1, .int .i64 g.x.2.1, .bool g.x.2.2.1, .int .i64 g.x.2.2.2, .bool g.hl, .slice q3A3 g.seen.length q3c3]] rfl (by kernel_rfl) (by kernel_rfl) (by kernel_rfl) rfl (by kernel_rfl) rfl (by kernel_rfl) (by kernel_rfl) (by kernel_rfl) ?_
    refine Sx.G.nil ?_
    refine Sx.E.next ?_
    refine Sx.C.ret ?_
    refine Sx.E.retc b2 4 [.slice q3A0 g.prog.length q3c0, .int .i64 g.a, .int .i64 g.pc, .slice q3A1 g.wr.length q3c1, .slice q3A2 g.lv.length q3c2, .int .i64 g.t.1, .int .i64 g.t.2.1, .bool g.t.2.2, .int .i64 g.pd, .int .i64 g.x.1, .int .i64 g.x.2.1, .bool g.x.2.2.1, .int .i64 g.x.2.2.2, .bool g.hl, .slice q3A3 g.seen.length q3c3] rfl (by kernel_rfl) rfl (by kernel_rfl) (by kernel_rfl) (fun w S => ?_)
    obtain ⟨ho, hF⟩ := rG_shut (g := g) S 0 rfl 1 rfl 2 rfl 3 rfl (by decide) (by decide) (by decide) (by decide) (by decide) (by decide)
    rw [show sawG g n = g from if_neg (by omega)]; exact ⟨_, _, rfl, ho, hF, S.below⟩
  · have hb4 := hc4
    replace hc4 := of_decide_eq_true hc4
    refine Sx.C.yes (by kernel_rfl) (by kernel_rfl) ?_
    refine Sx.C.region ?_
    refine Sx.G.pure (.pointer (some ⟨b1, 14, none⟩)) (by kernel_rfl) (fun w => by kernel_rfl) ?_
    refine Sx.G.ld1 30 (.tmp 11) b1 14 5 [.slice q3A0 g.prog.length q3c0, .int .i64 g.a, .int .i64 g.pc, .slice q3A1 g.wr.length q3c1, .slice q3A2 g.lv.length q3c2, .int .i64 g.t.1, .int .i64 g.t.2.1, .bool g.t.2.2, .int .i64 g.pd, .int .i64 g.x.1, .int .i64 g.x.2.1, .bool g.x.2.2.1, .int .i64 g.x.2.2.2, .bool g.hl, .slice q3A3 g.seen.length q3c3] (.slice q3A3 g.seen.length q3c3) rfl (by kernel_rfl) (by kernel_rfl) rfl (by kernel_rfl) (by kernel_rfl) ?_
    refine Sx.G.pure (.int .i64 n) (by kernel_rfl) (fun w => by kernel_rfl) ?_
    refine Sx.G.made 3 [.int .i64 n] 1 (by kernel_rfl) (fun w => by kernel_rfl) (fun b5 => ?_)
    refine Sx.G.apps 4 rfl (g.seen ++ [n]) (fun w S => S.box 0 rfl rfl 1 (Nat.le_refl _)) rfl (g.seen.length + 1) (by simp) flat_int (.tmp 12) (.tmp 14) 30 1 8 rfl rfl (by kernel_rfl) (by kernel_rfl) rfl (by kernel_rfl) (by kernel_rfl) (by simp only [maxLen, List.length_nil, List.length_cons]; omega) (by simp only [List.length_nil, List.length_cons]; omega) (fun A6 c6 F6 hi6 hm6 => ?_)
    refine Sx.G.pure (.pointer (some ⟨b1, 14, none⟩)) (by kernel_rfl) (fun w => by kernel_rfl) ?_
    refine Sx.G.sto 30 (.tmp 16) (.tmp 15) b1 14 6 [.slice q3A0 g.prog.length q3c0, .int .i64 g.a, .int .i64 g.pc, .slice q3A1 g.wr.length q3c1, .slice q3A2 g.lv.length q3c2, .int .i64 g.t.1, .int .i64 g.t.2.1, .bool g.t.2.2, .int .i64 g.pd, .int .i64 g.x.1, .int .i64 g.x.2.1, .bool g.x.2.2.1, .int .i64 g.x.2.2.2, .bool g.hl, .slice q3A3 g.seen.length q3c3] [.slice A6 (g.seen.length + 1) c6] [.slice q3A0 g.prog.length q3c0, .int .i64 g.a, .int .i64 g.pc, .slice q3A1 g.wr.length q3c1, .slice q3A2 g.lv.length q3c2, .int .i64 g.t.1, .int .i64 g.t.2.1, .bool g.t.2.2, .int .i64 g.pd, .int .i64 g.x.1, .int .i64 g.x.2.1, .bool g.x.2.2.1, .int .i64 g.x.2.2.2, .bool g.hl, .slice A6 (g.seen.length + 1) c6] [vr b5 [.int .i64 n], ow (rLst 42 (rPair rInt rInt)) w3.heap.size (w3'.heap.size) g.prog [.slice q3A0 g.prog.length q3c0] G3_0, ow (rLsw (rPair rInt rInt)) w3.heap.size w3'.heap.size g.wr [.slice q3A1 g.wr.length q3c1] G3_1, ow (rLsw (rPair rInt rInt)) w3.heap.size w3'.heap.size g.lv [.slice q3A2 g.lv.length q3c2] G3_2, ow (rLst 3 rInt) w.heap.size hi6 (g.seen ++ [n]) [.slice A6 (g.seen.length + 1) c6] F6, vr b2 [.slice none 0 0, .int .i64 0, .int .i64 0, .slice none 0 0, .slice none 0 0, .int .i64 0, .int .i64 0, .bool false, .int .i64 0, .int .i64 0, .int .i64 0, .bool false, .int .i64 0, .bool false, .slice none 0 0], vr b1 [.slice q3A0 g.prog.length q3c0, .int .i64 g.a, .int .i64 g.pc, .slice q3A1 g.wr.length q3c1, .slice q3A2 g.lv.length q3c2, .int .i64 g.t.1, .int .i64 g.t.2.1, .bool g.t.2.2, .int .i64 g.pd, .int .i64 g.x.1, .int .i64 g.x.2.1, .bool g.x.2.2.1, .int .i64 g.x.2.2.2, .bool g.hl, .slice A6 (g.seen.length + 1) c6]] rfl (by kernel_rfl) (by kernel_rfl) (by kernel_rfl) rfl (by kernel_rfl) rfl (by kernel_rfl) (by kernel_rfl) (by kernel_rfl) ?_
    refine Sx.G.nil ?_
    refine Sx.E.next ?_
    refine Sx.C.seq ?_
    refine Sx.C.region ?_
    refine Sx.G.ld 32 (.tmp 2) b1 0 6 [.slice q3A0 g.prog.length q3c0, .int .i64 g.a, .int .i64 g.pc, .slice q3A1 g.wr.length q3c1, .slice q3A2 g.lv.length q3c2, .int .i64 g.t.1, .int .i64 g.t.2.1, .bool g.t.2.2, .int .i64 g.pd, .int .i64 g.x.1, .int .i64 g.x.2.1, .bool g.x.2.2.1, .int .i64 g.x.2.2.2, .bool g.hl, .slice A6 (g.seen.length + 1) c6] [.slice q3A0 g.prog.length q3c0, .int .i64 g.a, .int .i64 g.pc, .slice q3A1 g.wr.length q3c1, .slice q3A2 g.lv.length q3c2, .int .i64 g.t.1, .int .i64 g.t.2.1, .bool g.t.2.2, .int .i64 g.pd, .int .i64 g.x.1, .int .i64 g.x.2.1, .bool g.x.2.2.1, .int .i64 g.x.2.2.2, .bool g.hl, .slice A6 (g.seen.length + 1) c6] rfl (by kernel_rfl) (by kernel_rfl) rfl (by kernel_rfl) (by kernel_rfl) (by kernel_rfl) ?_
    refine Sx.G.sto 32 (.tmp 4) (.tmp 17) b2 0 5 [.slice none 0 0, .int .i64 0, .int .i64 0, .slice none 0 0, .slice none 0 0, .int .i64 0, .int .i64 0, .bool false, .int .i64 0, .int .i64 0, .int .i64 0, .bool false, .int .i64 0, .bool false, .slice none 0 0] [.slice q3A0 g.prog.length q3c0, .int .i64 g.a, .int .i64 g.pc, .slice q3A1 g.wr.length q3c1, .slice q3A2 g.lv.length q3c2, .int .i64 g.t.1, .int .i64 g.t.2.1, .bool g.t.2.2, .int .i64 g.pd, .int .i64 g.x.1, .int .i64 g.x.2.1, .bool g.x.2.2.1, .int .i64 g.x.2.2.2, .bool g.hl, .slice A6 (g.seen.length + 1) c6] [.slice q3A0 g.prog.length q3c0, .int .i64 g.a, .int .i64 g.pc, .slice q3A1 g.wr.length q3c1, .slice q3A2 g.lv.length q3c2, .int .i64 g.t.1, .int .i64 g.t.2.1, .bool g.t.2.2, .int .i64 g.pd, .int .i64 g.x.1, .int .i64 g.x.2.1, .bool g.x.2.2.1, .int .i64 g.x.2.2.2, .bool g.hl, .slice A6 (g.seen.length + 1) c6] [vr b5 [.int .i64 n], ow (rLst 42 (rPair rInt rInt)) w3.heap.size (w3'.heap.size) g.prog [.slice q3A0 g.prog.length q3c0] G3_0, ow (rLsw (rPair rInt rInt)) w3.heap.size w3'.heap.size g.wr [.slice q3A1 g.wr.length q3c1] G3_1, ow (rLsw (rPair rInt rInt)) w3.heap.size w3'.heap.size g.lv [.slice q3A2 g.lv.length q3c2] G3_2, ow (rLst 3 rInt) w.heap.size hi6 (g.seen ++ [n]) [.slice A6 (g.seen.length + 1) c6] F6, vr b2 [.slice q3A0 g.prog.length q3c0, .int .i64 g.a, .int .i64 g.pc, .slice q3A1 g.wr.length q3c1, .slice q3A2 g.lv.length q3c2, .int .i64 g.t.1, .int .i64 g.t.2.1, .bool g.t.2.2, .int .i64 g.pd, .int .i64 g.x.1, .int .i64 g.x.2.1, .bool g.x.2.2.1, .int .i64 g.x.2.2.2, .bool g.hl, .slice A6 (g.seen.length + 1) c6], vr b1 [.slice q3A0 g.prog.length q3c0, .int .i64 g.a, .int .i64 g.pc, .slice q3A1 g.wr.length q3c1, .slice q3A2 g.lv.length q3c2, .int .i64 g.t.1, .int .i64 g.t.2.1, .bool g.t.2.2, .int .i64 g.pd, .int .i64 g.x.1, .int .i64 g.x.2.1, .bool g.x.2.2.1, .int .i64 g.x.2.2.2, .bool g.hl, .slice A6 (g.seen.length + 1) c6]] rfl (by kernel_rfl) (by kernel_rfl) (by kernel_rfl) rfl (by kernel_rfl) rfl (by kernel_rfl) (by kernel_rfl) (by kernel_rfl) ?_
    refine Sx.G.nil ?_
    refine Sx.E.next ?_
    refine Sx.C.ret ?_
    refine Sx.E.retc b2 5 [.slice q3A0 g.prog.length q3c0, .int .i64 g.a, .int .i64 g.pc, .slice q3A1 g.wr.length q3c1, .slice q3A2 g.lv.length q3c2, .int .i64 g.t.1, .int .i64 g.t.2.1, .bool g.t.2.2, .int .i64 g.pd, .int .i64 g.x.1, .int .i64 g.x.2.1, .bool g.x.2.2.1, .int .i64 g.x.2.2.2, .bool g.hl, .slice A6 (g.seen.length + 1) c6] rfl (by kernel_rfl) rfl (by kernel_rfl) (by kernel_rfl) (fun w S => ?_)
    obtain ⟨ho, hF⟩ := rG_shut (g := { g with seen := g.seen ++ [n] }) S 1 rfl 2 rfl 3 rfl 4 rfl (by decide) (by decide) (by decide) (by decide) (by decide) (by decide)
    rw [show sawG g n = { g with seen := g.seen ++ [n] } from if_pos (by omega)]; exact ⟨_, _, rfl, ho, hF, S.below⟩
/-- A new guest. -/
def newG (p : List (Int × Int)) : gT := { prog := p, a := 0, pc := 0, wr := Slots.nosL 4, lv := Slots.nosL 4, t := (0, 0, false), pd := 0, x := (0, 0, false, 0), hl := false, seen := [] }
set_option maxRecDepth 100000 in
set_option maxHeartbeats 4000000 in
theorem specx_new (p : List (Int × Int)) (A : Option Addr) (c : Nat) (w : World) (hp : p.length ≤ 1048576) (h : rdLst (rPair rInt rInt) w 0 w.heap.size p [.slice A p.length c]) : Calls Try.prog 31 #[.slice A p.length c] w (Gives rG w (newG p)) := by
  refine Sx.enter (args := [.slice A p.length c]) Try.func31 rfl Try.ntmps31 rfl ?_
  refine Sx.C.seq ?_
  refine Sx.C.region ?_
  refine Sx.G.alloc 32 (.agg #[.slice none 0 0, .int .i64 0, .int .i64 0, .slice none 0 0, .slice none 0 0, .int .i64 0, .int .i64 0, .bool false, .int .i64 0, .int .i64 0, .int .i64 0, .bool false, .int .i64 0, .bool false, .slice none 0 0]) [.slice none 0 0, .int .i64 0, .int .i64 0, .slice none 0 0, .slice none 0 0, .int .i64 0, .int .i64 0, .bool false, .int .i64 0, .int .i64 0, .int .i64 0, .bool false, .int .i64 0, .bool false, .slice none 0 0] rfl (by kernel_rfl) (fun w => by kernel_rfl) (by kernel_rfl) (fun b1 => ?_)
  refine Sx.G.nil ?_
  refine Sx.E.next ?_
  refine Sx.C.seq ?_
  refine Sx.C.region ?_
  refine Sx.G.fresh 42 (rPair rInt rInt) (by kernel_rfl) (fun w => by kernel_rfl) (fun b2 hi2 => ?_)
  refine Sx.G.pure (.slice A p.length c) (by kernel_rfl) (fun w => by kernel_rfl) ?_
  refine Sx.G.apps 0 rfl p (fun w S => St.old (r := rLsw (rPair rInt rInt)) S h) (List.nil_append _) p.length (by simp) flat_P2 (.tmp 3) (.tmp 4) 24 2 16 rfl rfl (by kernel_rfl) (by kernel_rfl) rfl (by kernel_rfl) (by kernel_rfl) (by simp only [maxLen, List.length_nil, List.length_cons]; omega) (by simp only [List.length_nil, List.length_cons]; omega) (fun A3 c3 F3 hi3 hm3 => ?_)
  refine Sx.G.call 61 #[.int .i64 4] (by kernel_rfl) (fun w => by kernel_rfl) (fun w4 S => (Slots.spec_new 4 _).mono fun e w4' hp => ?_)
  obtain ⟨ad4, tc4, rfl, hc4, ho, hb⟩ := hp
  rw [← pcells_s] at ho
  refine ⟨_, _, rfl, (S.gotp (l := (Slots.nosL 4)) hb hc4 ho), ?_⟩
  clear S ho hb
  refine Sx.G.call 61 #[.int .i64 4] (by kernel_rfl) (fun w => by kernel_rfl) (fun w5 S => (Slots.spec_new 4 _).mono fun e w5' hp => ?_)
  obtain ⟨ad5, tc5, rfl, hc5, ho, hb⟩ := hp
  rw [← pcells_s] at ho
  refine ⟨_, _, rfl, (S.gotp (l := (Slots.nosL 4)) hb hc5 ho), ?_⟩
  clear S ho hb
  refine Sx.G.pure (.agg #[.slice A3 p.length c3, .int .i64 0, .int .i64 0, .slice (some ad4) 4 tc4, .slice (some ad5) 4 tc5, .int .i64 0, .int .i64 0, .bool false, .int .i64 0, .int .i64 0, .int .i64 0, .bool false, .int .i64 0, .bool false, .slice none 0 0]) (by kernel_rfl) (fun w => by kernel_rfl) ?_
  refine Sx.G.sto 32 (.tmp 2) (.tmp 8) b1 0 3 [.slice none 0 0, .int .i64 0, .int .i64 0, .slice none 0 0, .slice none 0 0, .int .i64 0, .int .i64 0, .bool false, .int .i64 0, .int .i64 0, .int .i64 0, .bool false, .int .i64 0, .bool false, .slice none 0 0] [.slice A3 p.length c3, .int .i64 0, .int .i64 0, .slice (some ad4) 4 tc4, .slice (some ad5) 4 tc5, .int .i64 0, .int .i64 0, .bool false, .int .i64 0, .int .i64 0, .int .i64 0, .bool false, .int .i64 0, .bool false, .slice none 0 0] [.slice A3 p.length c3, .int .i64 0, .int .i64 0, .slice (some ad4) 4 tc4, .slice (some ad5) 4 tc5, .int .i64 0, .int .i64 0, .bool false, .int .i64 0, .int .i64 0, .int .i64 0, .bool false, .int .i64 0, .bool false, .slice none 0 0] [ow (rLsw (rPair rInt rInt)) w5.heap.size w5'.heap.size (Slots.nosL 4) [.slice (some ad5) 4 tc5] (blks (some ad5) (pcells (Slots.nosL 4))), ow (rLsw (rPair rInt rInt)) w4.heap.size w4'.heap.size (Slots.nosL 4) [.slice (some ad4) 4 tc4] (blks (some ad4) (pcells (Slots.nosL 4))), ow (rLst 42 (rPair rInt rInt)) w.heap.size hi3 p [.slice A3 p.length c3] F3, vr b1 [.slice A3 p.length c3, .int .i64 0, .int .i64 0, .slice (some ad4) 4 tc4, .slice (some ad5) 4 tc5, .int .i64 0, .int .i64 0, .bool false, .int .i64 0, .int .i64 0, .int .i64 0, .bool false, .int .i64 0, .bool false, .slice none 0 0]] rfl (by kernel_rfl) (by kernel_rfl) (by kernel_rfl) rfl (by kernel_rfl) rfl (by kernel_rfl) (by kernel_rfl) (by kernel_rfl) ?_
  refine Sx.G.nil ?_
  refine Sx.E.next ?_
  refine Sx.C.ret ?_
  refine Sx.E.retc b1 3 [.slice A3 p.length c3, .int .i64 0, .int .i64 0, .slice (some ad4) 4 tc4, .slice (some ad5) 4 tc5, .int .i64 0, .int .i64 0, .bool false, .int .i64 0, .int .i64 0, .int .i64 0, .bool false, .int .i64 0, .bool false, .slice none 0 0] rfl (by kernel_rfl) rfl (by kernel_rfl) (by kernel_rfl) (fun w S => ?_)
  replace S := St.nil S 3 rInt
  obtain ⟨ho, hF⟩ := rG_shut (g := newG p) S 3 rfl 2 rfl 1 rfl 0 rfl (by decide) (by decide) (by decide) (by decide) (by decide) (by decide)
  exact ⟨_, _, rfl, ho, hF, S.below⟩
end Go.Proofs.Ytdbhfadiinmgiaa.Guests
namespace Go.Proofs.Ytdbhfadiinmgiaa.Addrs
set_option maxRecDepth 100000
open Go.ChangeShapes Go.WideShapes Go.ChangeAt Go.RowKit
open Go.Proofs.Ytdbhfadiinmgiaa.Base
set_option linter.unusedVariables false
theorem range {x : Int} (h : (Lit.int .i64 x).wf = true) : -9223372036854775808 ≤ x ∧ x ≤ 9223372036854775807 := by
  have hm : IntKind.i64.min = -9223372036854775808 := by decide
  rw [← hm]; simpa [Lit.wf] using h
end Go.Proofs.Ytdbhfadiinmgiaa.Addrs
namespace Go.Proofs.Ytdbhfadiinmgiaa.Inss
set_option maxRecDepth 100000
open Go.ChangeShapes Go.WideShapes Go.ChangeAt Go.RowKit
open Go.Proofs.Ytdbhfadiinmgiaa.Base Go.Proofs.Ytdbhfadiinmgiaa.Mem Go.Proofs.Ytdbhfadiinmgiaa.Data Go.Proofs.Ytdbhfadiinmgiaa.Addrs Go.Proofs.Ytdbhfadiinmgiaa.Rights
set_option linter.unusedVariables false
set_option linter.unusedSimpArgs false
def haltJ : JT := (7, 0)
def insAt (l : List JT) (pc : Int) : JT := if inB pc 0 ((l.length : Int) - 1) then l.getD pc.toNat haltJ else haltJ
def OneIns (w : World) (s : JT) (e : Ending) (w' : World) : Prop := e = .returned (.agg #[.int .i64 s.1, .int .i64 s.2]) ∧ Below w.heap.size w w'
theorem insAt_in {l : List JT} {pc : Int} (h0 : 0 ≤ pc) (h1 : pc.toNat < l.length) : insAt l pc = l[pc.toNat] := by
  unfold insAt
  rw [if_pos (inB_iff.2 ⟨h0, by omega⟩), List.getD_eq_getElem?_getD, List.getElem?_eq_getElem h1]
  rfl
theorem insAt_out {l : List JT} {pc : Int} (h : pc < 0 ∨ (l.length : Int) - 1 < pc) : insAt l pc = haltJ := by
  unfold insAt
  rw [inB_false.2 h]; rfl
set_option maxHeartbeats 2000000 in
theorem spec_insAt (A : Option Addr) (n c lo : Nat) (pc : Int) (l : List JT) (w : World) (hn : n ≤ 1048576) (hl : l.length = n) (h1 : Lies w lo w.heap.size A (jcells l)) :
    Calls Try.prog 52 #[.slice A n c, .int .i64 pc] w (OneIns w (insAt l pc)) := by
  have H1 := Lib.hid h1
  have HL := Lib.hid hl
  clear h1 hl
  by_cases h : 0 ≤ pc ∧ pc < n
  · obtain ⟨h0, h1⟩ := h
    obtain ⟨k, rfl⟩ := Int.eq_ofNat_of_zero_le h0
    have hkl : k < l.length := by have := HL.out; omega
    rw [show insAt l (k : Int) = l[k] from insAt_in (pc := (k : Int)) h0 (by simpa using hkl), show l[k] = (l[k].1, l[k].2) from rfl]
    obtain ⟨b, off, rfl, _, hbw, c1, c2⟩ := j_at H1.out k hkl
    have hne : b ≠ w.heap.size := by omega
    have hK := fun V : World => spec_in (k : Int) 0 ((n : Int) - 1) V
    rw [show inB (k : Int) 0 ((n : Int) - 1) = true from inB_iff.2 ⟨by omega, by omega⟩] at hK
    have HK := Lib.hid hK
    clear hK
    generalize l[k].1 = x at c1 ⊢
    generalize l[k].2 = y at c2 ⊢
    go_enter Try.func52, Try.ntmps52
    go_wp2_with (go_at_call 53; refine (HK.out _).mono ?_; rintro e w' ⟨rfl, rfl⟩)
    exact bodyPost_ret (v := .agg #[.int .i64 x, .int .i64 y]) (by simp [results, Try.results52, go_sem]) rfl ⟨rfl, (Below.refl _ _).alloc (Nat.le_refl _) _⟩
  · have hK := fun V : World => spec_in pc 0 ((n : Int) - 1) V
    rw [show inB pc 0 ((n : Int) - 1) = false from inB_false.2 (by omega)] at hK
    have HK := Lib.hid hK
    clear hK
    have HA := Lib.hid (insAt_out (l := l) (pc := pc) (by rw [HL.out]; omega))
    go_enter Try.func52, Try.ntmps52
    go_wp2_with (go_at_call 53; refine (HK.out _).mono ?_; rintro e w' ⟨rfl, rfl⟩)
    exact bodyPost_ret (v := .agg #[.int .i64 7, .int .i64 0]) (by simp [results, Try.results52, go_sem]) rfl ⟨by rw [HA.out]; rfl, (Below.refl _ _).alloc (Nat.le_refl _) _⟩
end Go.Proofs.Ytdbhfadiinmgiaa.Inss
namespace Go.Proofs.Ytdbhfadiinmgiaa.Inss
set_option maxRecDepth 100000
open Go.ChangeShapes Go.WideShapes Go.ChangeAt Go.RowKit
open Go.Proofs.Ytdbhfadiinmgiaa.Base Go.Proofs.Ytdbhfadiinmgiaa.Mem Go.Proofs.Ytdbhfadiinmgiaa.Data
def SamePost (w : World) (l m : List JT) (e : Ending) (w' : World) : Prop := e = .returned (.bool (decide (l = m))) ∧ ∃ q, w' = w.drewN q
theorem same_step {l m : List JT} {k : Nat} (hl : k < l.length) (hm : k < m.length) (h : l.take k = m.take k) :
    (l[k].1 = m[k].1 ∧ l[k].2 = m[k].2 → l.take (k + 1) = m.take (k + 1)) ∧ (¬ (l[k].1 = m[k].1 ∧ l[k].2 = m[k].2) → l ≠ m) := by
  refine ⟨fun e => ?_, fun e => ?_⟩
  · rw [List.take_succ_eq_append_getElem hl, List.take_succ_eq_append_getElem hm, h, Prod.ext e.1 e.2]
  · rintro rfl
    exact e ⟨rfl, rfl⟩
theorem same_no {w : World} {l m : List JT} (q : Nat) (h : l ≠ m) : SamePost w l m (.returned (.bool false)) (w.drewN q) := ⟨by rw [decide_eq_false h], q, rfl⟩
theorem same_no2 {w : World} {l m : List JT} (q r : Nat) (h : l ≠ m) : SamePost w l m (.returned (.bool false)) ((w.drewN q).drewN r) := ⟨by rw [decide_eq_false h], q + r, World.drewN_drewN ..⟩
theorem same_yes {w : World} {l m : List JT} {n : Nat} (q : Nat) (h : l.take n = m.take n) (hl : l.length = n) (hm : m.length = n) : SamePost w l m (.returned (.bool true)) (w.drewN q) := by
  rw [List.take_of_length_le (by omega), List.take_of_length_le (by omega)] at h
  exact ⟨by rw [decide_eq_true h], q, rfl⟩
set_option maxHeartbeats 1000000 in
theorem law_same (A B : Option Addr) (n n' c d lo lo' hi hi' : Nat) (l m : List JT) (w : World) (hn : n ≤ 1048576) (hn' : n' ≤ 1048576) (hl : l.length = n) (hm : m.length = n')
    (h1 : Lies w lo hi A (jcells l)) (h2 : Lies w lo' hi' B (jcells m)) :
    Calls Try.prog 49 #[.slice A n c, .slice B n' d] w (SamePost w l m) := by
  have H1 := Lib.hid h1
  have H2 := Lib.hid h2
  have HL := Lib.hid hl
  have HM := Lib.hid hm
  clear h1 h2 hl hm
  by_cases hnn : n = n'
  · subst hnn
    go_enter Try.func49, Try.ntmps49
    go_wp2
    go_loopw [5] (fun i wr => ∃ (k q : Nat), k ≤ n ∧ i = .int .i64 k ∧ l.take k = m.take k ∧ wr = w.drewN q) (fun i _ => n - (intOf i).toNat)
    case atStart => exact ⟨0, 0, Nat.zero_le _, rfl, rfl, rfl⟩
    case round =>
      obtain ⟨k, q, hk, rfl, ht, rfl⟩ := hrel
      have HT := Lib.hid ht
      clear ht
      by_cases hlt : k < n
      · have hkl : k < l.length := by have := HL.out; omega
        have hkm : k < m.length := by have := HM.out; omega
        obtain ⟨b, off, rfl, _, hbw, c1, c2⟩ := j_at H1.out k hkl
        obtain ⟨b', off', rfl, _, hbw', c1', c2'⟩ := j_at H2.out k hkm
        have hi0 : (0 : Int) ≤ (k : Int) := Int.natCast_nonneg _
        have hi1 : (k : Int) < (n : Int) := by omega
        have hstep := same_step hkl hkm HT.out
        have HP := Lib.hid hstep
        clear hstep
        generalize l[k].1 = x at c1 HP
        generalize l[k].2 = y at c2 HP
        generalize m[k].1 = x' at c1' HP
        generalize m[k].2 = y' at c2' HP
        by_cases hx : x = x'
        · subst hx
          by_cases hy : y = y'
          · subst hy
            go_wp2
            go_quiet (fail)
            go_wp2
            go_roundw
            case rel => exact ⟨k + 1, _, by omega, by go_num, HP.out.1 (by simp), rfl⟩
            case measure => simp [intOf]; omega
          · have hy' : (y == y') = false := by simpa using hy
            go_wp2
            go_quiet (fail)
            go_wp2
            go_ret
            exact same_no2 _ _ (HP.out.2 (fun h => hy h.2))
        · have hx' : (x == x') = false := by simpa using hx
          go_wp2
          go_quiet (fail)
          go_wp2
          go_ret
          exact same_no2 _ _ (HP.out.2 (fun h => hx h.1))
      · have hkn : k = n := by omega
        subst hkn
        go_wp2
        go_ret
        exact same_yes _ HT.out HL.out HM.out
  · have hd : (n == n') = false := by simpa using hnn
    have hd' : ((n : Int) == (n' : Int)) = false := by simp; omega
    go_enter Try.func49, Try.ntmps49
    go_wp2
    go_ret
    exact same_no 0 (fun e => hnn (by rw [← HL.out, ← HM.out, e]))
end Go.Proofs.Ytdbhfadiinmgiaa.Inss
namespace Go.Proofs.Ytdbhfadiinmgiaa.Slots
set_option maxRecDepth 100000
open Go.ChangeShapes Go.WideShapes Go.ChangeAt Go.RowKit
open Go.Proofs.Ytdbhfadiinmgiaa.Base Go.Proofs.Ytdbhfadiinmgiaa.Mem Go.Proofs.Ytdbhfadiinmgiaa.Ints
def SamePost (w : World) (l m : List Sl) (e : Ending) (w' : World) : Prop := e = .returned (.bool (decide (l = m))) ∧ ∃ q, w' = w.drewN q
theorem same_step {l m : List Sl} {k : Nat} (hl : k < l.length) (hm : k < m.length) (h : l.take k = m.take k) :
    (l[k].1 = m[k].1 ∧ l[k].2 = m[k].2 → l.take (k + 1) = m.take (k + 1)) ∧ (¬ (l[k].1 = m[k].1 ∧ l[k].2 = m[k].2) → l ≠ m) := by
  refine ⟨fun e => ?_, fun e => ?_⟩
  · rw [List.take_succ_eq_append_getElem hl, List.take_succ_eq_append_getElem hm, h, Prod.ext e.1 e.2]
  · rintro rfl
    exact e ⟨rfl, rfl⟩
theorem same_no {w : World} {l m : List Sl} (q : Nat) (h : l ≠ m) : SamePost w l m (.returned (.bool false)) (w.drewN q) := ⟨by rw [decide_eq_false h], q, rfl⟩
theorem same_no2 {w : World} {l m : List Sl} (q r : Nat) (h : l ≠ m) : SamePost w l m (.returned (.bool false)) ((w.drewN q).drewN r) := ⟨by rw [decide_eq_false h], q + r, World.drewN_drewN ..⟩
theorem same_yes {w : World} {l m : List Sl} {n : Nat} (q : Nat) (h : l.take n = m.take n) (hl : l.length = n) (hm : m.length = n) : SamePost w l m (.returned (.bool true)) (w.drewN q) := by
  rw [List.take_of_length_le (by omega), List.take_of_length_le (by omega)] at h
  exact ⟨by rw [decide_eq_true h], q, rfl⟩
set_option maxHeartbeats 1000000 in
theorem law_same (A B : Option Addr) (n n' c d lo lo' hi hi' : Nat) (l m : List Sl) (w : World) (hn : n ≤ 1048576) (hn' : n' ≤ 1048576) (hl : l.length = n) (hm : m.length = n')
    (h1 : Lies w lo hi A (scells l)) (h2 : Lies w lo' hi' B (scells m)) :
    Calls Try.prog 33 #[.slice A n c, .slice B n' d] w (SamePost w l m) := by
  have H1 := Lib.hid h1
  have H2 := Lib.hid h2
  have HL := Lib.hid hl
  have HM := Lib.hid hm
  clear h1 h2 hl hm
  by_cases hnn : n = n'
  · subst hnn
    go_enter Try.func33, Try.ntmps33
    go_wp2
    go_loopw [5] (fun i wr => ∃ (k q : Nat), k ≤ n ∧ i = .int .i64 k ∧ l.take k = m.take k ∧ wr = w.drewN q) (fun i _ => n - (intOf i).toNat)
    case atStart => exact ⟨0, 0, Nat.zero_le _, rfl, rfl, rfl⟩
    case round =>
      obtain ⟨k, q, hk, rfl, ht, rfl⟩ := hrel
      have HT := Lib.hid ht
      clear ht
      by_cases hlt : k < n
      · have hkl : k < l.length := by have := HL.out; omega
        have hkm : k < m.length := by have := HM.out; omega
        obtain ⟨b, off, rfl, _, hbw, c1, c2⟩ := slot_at H1.out k hkl
        obtain ⟨b', off', rfl, _, hbw', c1', c2'⟩ := slot_at H2.out k hkm
        have hi0 : (0 : Int) ≤ (k : Int) := Int.natCast_nonneg _
        have hi1 : (k : Int) < (n : Int) := by omega
        have hstep := same_step hkl hkm HT.out
        have HP := Lib.hid hstep
        clear hstep
        generalize l[k].1 = x at c1 HP
        generalize l[k].2 = y at c2 HP
        generalize m[k].1 = x' at c1' HP
        generalize m[k].2 = y' at c2' HP
        by_cases hx : x = x'
        · subst hx
          by_cases hy : y = y'
          · subst hy
            go_wp2
            go_quiet (fail)
            go_wp2
            go_roundw
            case rel => exact ⟨k + 1, _, by omega, by go_num, HP.out.1 (by simp), rfl⟩
            case measure => simp [intOf]; omega
          · have hy' : (y == y') = false := by simpa using hy
            go_wp2
            go_quiet (fail)
            go_wp2
            go_ret
            exact same_no2 _ _ (HP.out.2 (fun h => hy h.2))
        · have hx' : (x == x') = false := by simpa using hx
          go_wp2
          go_quiet (fail)
          go_wp2
          go_ret
          exact same_no2 _ _ (HP.out.2 (fun h => hx h.1))
      · have hkn : k = n := by omega
        subst hkn
        go_wp2
        go_ret
        exact same_yes _ HT.out HL.out HM.out
  · have hd : (n == n') = false := by simpa using hnn
    have hd' : ((n : Int) == (n' : Int)) = false := by simp; omega
    go_enter Try.func33, Try.ntmps33
    go_wp2
    go_ret
    exact same_no 0 (fun e => hnn (by rw [← HL.out, ← HM.out, e]))
end Go.Proofs.Ytdbhfadiinmgiaa.Slots
namespace Go.Proofs.Ytdbhfadiinmgiaa.Grid
set_option maxRecDepth 100000
open Go.ChangeShapes Go.WideShapes Go.ChangeAt Go.RowKit
open Go.Proofs.Ytdbhfadiinmgiaa.Base Go.Proofs.Ytdbhfadiinmgiaa.Mem Go.Proofs.Ytdbhfadiinmgiaa.Ints
set_option linter.unusedVariables false
def hasPB (n : Nat) (page : Int) : Bool := inB page 0 ((n : Int) - 1)
def hasCB (M : List (List Int)) (page cell : Int) : Bool := hasPB M.length page && hasPB (M.getD page.toNat []).length cell
def cellAt (M : List (List Int)) (page cell : Int) : Int := if hasCB M page cell = true then (M.getD page.toNat []).getD cell.toNat 0 else 0
end Go.Proofs.Ytdbhfadiinmgiaa.Grid
namespace Go.Proofs.Ytdbhfadiinmgiaa.Grid
set_option maxRecDepth 100000
open Go.ChangeShapes Go.WideShapes Go.ChangeAt Go.RowKit
open Go.Proofs.Ytdbhfadiinmgiaa.Base Go.Proofs.Ytdbhfadiinmgiaa.Mem Go.Proofs.Ytdbhfadiinmgiaa.Ints
set_option linter.unusedVariables false
section
variable {P : Program}
end
theorem ncells_set (l : List Int) (j : Nat) (v : Int) : (ncells l).set j (.int .i64 v) = ncells (l.set j v) := by
  simp [ncells, List.map_set]
end Go.Proofs.Ytdbhfadiinmgiaa.Grid
