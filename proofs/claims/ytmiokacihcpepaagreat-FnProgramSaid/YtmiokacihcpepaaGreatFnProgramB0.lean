/-
  The texts that FnProgram wants, part 0: Base Mem Var Data DataO St Append StOp OrdT Sx SxRes Draw SxCur SxM Code SxRd Hole SxA Sq KitM KitF SlotH IntH RightsMath In SlotMath SlotArgs InsH Grid. No condition.
-/
import Derived.Test.YtmiokacihcpepaaGreatRows
import Derived.WalkKit
import Derived.ProofKit
import Derived.OpenShut
import Derived.Below
import Derived.OwnWalk
import Derived.Laws.OwnMore
import Derived.Laws.IdiomStrings
import Derived.Laws.BytesArg
import Derived.Deep.AppendLies
import Derived.Deep.Draws
import Derived.StillTailTactics
import Derived.StillTactics
import Derived.Deep.QuietTactic
import Derived.BigQuiet
import Derived.Lib.Hide
import Derived.Outline
import Derived.IntWalk
import Derived.Carry
import Derived.Deep.Slices
import Derived.ChangeArms
import Derived.Maps.AppendAt
import Derived.RegionTactic
import Derived.Deep.MidRow
import Derived.Deep.RegionHeld3
import Derived.Deep.SlicePairs
import Derived.Lib.SmallJoins
import Derived.StillTail
import Derived.Tactics
import Derived.LaidEql
import Derived.Stop.Asserts
import Derived.RowKitTokens
import Derived.Laws.BitsLemmas
namespace Go.Proofs.YtmiokacihcpepaaGreat.Base
end Go.Proofs.YtmiokacihcpepaaGreat.Base
namespace Go.Proofs.YtmiokacihcpepaaGreat.Mem
end Go.Proofs.YtmiokacihcpepaaGreat.Mem
namespace Go.Proofs.YtmiokacihcpepaaGreat.Data
end Go.Proofs.YtmiokacihcpepaaGreat.Data
namespace Go.Proofs.YtmiokacihcpepaaGreat.Stt
end Go.Proofs.YtmiokacihcpepaaGreat.Stt
namespace Go.Proofs.YtmiokacihcpepaaGreat.App
end Go.Proofs.YtmiokacihcpepaaGreat.App
namespace Go.Proofs.YtmiokacihcpepaaGreat.Ord
end Go.Proofs.YtmiokacihcpepaaGreat.Ord
namespace Go.Proofs.YtmiokacihcpepaaGreat.Sx
end Go.Proofs.YtmiokacihcpepaaGreat.Sx
namespace Go.Proofs.YtmiokacihcpepaaGreat.Reg
end Go.Proofs.YtmiokacihcpepaaGreat.Reg
namespace Go.Proofs.YtmiokacihcpepaaGreat.Draw
end Go.Proofs.YtmiokacihcpepaaGreat.Draw
namespace Go.Proofs.YtmiokacihcpepaaGreat.Kit
end Go.Proofs.YtmiokacihcpepaaGreat.Kit
namespace Go.Proofs.YtmiokacihcpepaaGreat.Slots
end Go.Proofs.YtmiokacihcpepaaGreat.Slots
namespace Go.Proofs.YtmiokacihcpepaaGreat.Ints
end Go.Proofs.YtmiokacihcpepaaGreat.Ints
namespace Go.Proofs.YtmiokacihcpepaaGreat.Rights
end Go.Proofs.YtmiokacihcpepaaGreat.Rights
namespace Go.Proofs.YtmiokacihcpepaaGreat.Inss
end Go.Proofs.YtmiokacihcpepaaGreat.Inss
namespace Go.Proofs.YtmiokacihcpepaaGreat.Grid
end Go.Proofs.YtmiokacihcpepaaGreat.Grid
namespace Go.Proofs.YtmiokacihcpepaaGreat.Part
end Go.Proofs.YtmiokacihcpepaaGreat.Part
namespace Go.Proofs.YtmiokacihcpepaaGreat.Ctls
end Go.Proofs.YtmiokacihcpepaaGreat.Ctls
namespace Go.Proofs.YtmiokacihcpepaaGreat.Exits
end Go.Proofs.YtmiokacihcpepaaGreat.Exits
namespace Go.Proofs.YtmiokacihcpepaaGreat.Guests
end Go.Proofs.YtmiokacihcpepaaGreat.Guests
namespace Go.Proofs.YtmiokacihcpepaaGreat.Irqs
end Go.Proofs.YtmiokacihcpepaaGreat.Irqs
namespace Go.Proofs.YtmiokacihcpepaaGreat.BroughtW
end Go.Proofs.YtmiokacihcpepaaGreat.BroughtW
namespace Go.Proofs.YtmiokacihcpepaaGreat.Addrs
end Go.Proofs.YtmiokacihcpepaaGreat.Addrs
namespace Go.Proofs.YtmiokacihcpepaaGreat.Walks
end Go.Proofs.YtmiokacihcpepaaGreat.Walks
namespace Go.Proofs.YtmiokacihcpepaaGreat.SDraw
end Go.Proofs.YtmiokacihcpepaaGreat.SDraw
namespace Go.Proofs.YtmiokacihcpepaaGreat.fnProgram
end Go.Proofs.YtmiokacihcpepaaGreat.fnProgram
namespace Go.Proofs.YtmiokacihcpepaaGreat.Base
set_option maxHeartbeats 8000000
set_option maxRecDepth 100000
set_option maxRecDepth 100000
open Go.ChangeShapes Go.WideShapes Go.ChangeAt Go.RowKit
theorem own : ownKnob Tryz.prog.godebug = none := by kernel_rfl
theorem below_drewN {B : Nat} {a w : World} (h : Below B a w) (n : Nat) : Below B a (w.drewN n) := ⟨h.os, h.tape, h.output, h.size, h.block⟩
section
variable {H : Type} {enc : TypeId × Value → H} {P : Program}
theorem post_kept {f : Func} {s : ChangeSpec} {fresh handsOn again : Bool} {W W' : World} {args : Array Value} {v : Value} {ds : List (DataW H)} {ps : List MemPlace}
  (hvs : s.vars = []) (hvr : (s.fn H (ds ++ [])).vars = [])
  (hW : DataW.Whole enc P f.params.toList s.vars false W args.toList ds [] ps) (hb : Below W.heap.size W W')
  (hr : ∀ (b : Nat) (sp : Nat → Bool) (hd : Bool), DataW.TrodAll enc P W' b sp hd f.resultTypes.toList (v.resultList f.resultTypes.size) (s.fn H (ds ++ [])).results [])
  (ha : ∀ sp : Nat → Bool, (∀ p ∈ ps, sp p.block = true) → DataW.TrodAll enc P W' 0 sp true f.params.toList args.toList (s.fn H (ds ++ [])).args ps)
  (hok : ∀ (j : Nat) (t : TypeId) (r : Value), f.resultTypes[j]? = some t → (v.resultList f.resultTypes.size)[j]? = some r → Value.okWide P W' .any 0 t r) :
  s.post enc P f false fresh handsOn again W args v W' := by
 have lt := hW.lt
 have tv : ∀ sp : Nat → Bool, DataW.TrodVars enc P W' sp s.vars (s.fn H (ds ++ [])).vars [] := fun sp => by
  rw [hvs, hvr]; exact rfl
 have fz : W'.noneFrozen ps := by
  obtain ⟨_, _, _, _, _, h, _⟩ := hW
  intro b off hm
  exact (hb.frozen (lt _ hm)).trans (h b off hm)
 have both := trodAll_append (ha (fun _ => true) (fun _ _ => rfl)) (hr 0 (fun _ => true) true)
 rw [List.nil_append] at both
 exact ⟨ds, [], ps, [], ps, [], hW, hr _ _ _, ha _ (fun p hp => decide_eq_true (lt p hp)), tv _, World.keptBut_mono (fun p hp => ⟨hp, Or.inr (Or.inl hp)⟩) (hb.frame (· ∈ ps)),
  fun _ => ⟨hok, _, _, ps, ⟨ps, [], both, tv _, (List.append_nil ps).symm, fz, fun h => by cases h⟩, fun _ hp _ => hp⟩⟩
end
end Go.Proofs.YtmiokacihcpepaaGreat.Base
namespace Go.Proofs.YtmiokacihcpepaaGreat.Mem
set_option maxHeartbeats 8000000
set_option maxRecDepth 100000
set_option maxRecDepth 100000
open Go.ChangeShapes Go.WideShapes Go.ChangeAt Go.RowKit
open Go.Proofs.YtmiokacihcpepaaGreat.Base
def Lies (w : World) (lo hi : Nat) (A : Option Addr) (cs : List Value) : Prop :=
 ∀ j u, cs[j]? = some u → ∃ b off, A = some ⟨b, off, none⟩ ∧ lo ≤ b ∧ b < hi ∧ w.cell? ⟨b, off + j, none⟩ = some u
def Owned (w : World) (lo hi : Nat) (A : Option Addr) (cs : List Value) : Prop :=
 Lies w lo hi A cs ∧ ∀ b off, A = some ⟨b, off, none⟩ → 0 < cs.length → ∀ j, w.frozen? ⟨b, j, none⟩ = false
section
variable {w w' : World} {lo hi lo' hi' : Nat} {A : Option Addr} {cs : List Value}
theorem Lies.nil : Lies w lo hi A [] := fun j u h => by simp at h
theorem Lies.wide (h : Lies w lo hi A cs) (h1 : lo' ≤ lo) (h2 : hi ≤ hi') : Lies w lo' hi' A cs := fun j u hu => by
 obtain ⟨b, off, e, x, y, z⟩ := h j u hu
 exact ⟨b, off, e, by omega, by omega, z⟩
theorem Owned.wide (h : Owned w lo hi A cs) (h1 : lo' ≤ lo) (h2 : hi ≤ hi') : Owned w lo' hi' A cs := ⟨h.1.wide h1 h2, h.2⟩
theorem Lies.kept (h : Lies w lo hi A cs) (hb : ∀ k, lo ≤ k → k < hi → w'.heap[k]? = w.heap[k]?) : Lies w' lo hi A cs := fun j u hu => by
 obtain ⟨b, off, e, x, y, z⟩ := h j u hu
 exact ⟨b, off, e, x, y, (World.cell?_of_block (w := w) (a := ⟨b, off + j, none⟩) (hb b x y)).trans z⟩
theorem Lies.at_ (h : Lies w lo hi A cs) (hn : 0 < cs.length) : ∃ b off, A = some ⟨b, off, none⟩ ∧ lo ≤ b ∧ b < hi ∧ ∀ j u, cs[j]? = some u → w.cell? ⟨b, off + j, none⟩ = some u := by
 obtain ⟨b, off, e, x, y, _⟩ := h 0 _ (List.getElem?_eq_getElem hn)
 refine ⟨b, off, e, x, y, fun j u hu => ?_⟩
 obtain ⟨b', off', e', _, _, z⟩ := h j u hu
 rw [e] at e'
 cases e'
 exact z
theorem Owned.kept (h : Owned w lo hi A cs) (hb : ∀ k, lo ≤ k → k < hi → w'.heap[k]? = w.heap[k]?) : Owned w' lo hi A cs :=
 ⟨h.1.kept hb, fun b off e hn j => by
  obtain ⟨b', off', e', x, y, _⟩ := h.1.at_ hn
  rw [e] at e'
  cases e'
  exact (World.frozen?_of_block (w := w) (a := ⟨b, j, none⟩) (hb b x y)).trans (h.2 b off e hn j)⟩
theorem Lies.below {B : Nat} (h : Lies w lo hi A cs) (hb : Below B w w') (hB : hi ≤ B) : Lies w' lo hi A cs := h.kept fun k _ h2 => hb.block k (by omega)
theorem Owned.below {B : Nat} (h : Owned w lo hi A cs) (hb : Below B w w') (hB : hi ≤ B) : Owned w' lo hi A cs := h.kept fun k _ h2 => hb.block k (by omega)
theorem Lies.drewN (h : Lies w lo hi A cs) (n : Nat) : Lies (w.drewN n) lo hi A cs := h
theorem Owned.drewN (h : Owned w lo hi A cs) (n : Nat) : Owned (w.drewN n) lo hi A cs := h
theorem Lies.turned {lo2 hi2 : Nat} (h : Lies w lo hi A cs) (hb : ∀ k, k < w.heap.size → (k < lo2 ∨ hi2 ≤ k) → w'.heap[k]? = w.heap[k]?) (hh : hi ≤ w.heap.size) (hd : hi ≤ lo2 ∨ hi2 ≤ lo) : Lies w' lo hi A cs :=
 h.kept fun k h1 h2 => hb k (by omega) (by omega)
theorem Owned.turned {lo2 hi2 : Nat} (h : Owned w lo hi A cs) (hb : ∀ k, k < w.heap.size → (k < lo2 ∨ hi2 ≤ k) → w'.heap[k]? = w.heap[k]?) (hh : hi ≤ w.heap.size) (hd : hi ≤ lo2 ∨ hi2 ≤ lo) : Owned w' lo hi A cs :=
 h.kept fun k h1 h2 => hb k (by omega) (by omega)
theorem Owned.set {b off : Nat} (h : Owned w lo hi (some ⟨b, off, none⟩) cs) (j : Nat) (u : Value) : Owned (w.setCell ⟨b, off + j, none⟩ u) lo hi (some ⟨b, off, none⟩) (cs.set j u) := by
 refine ⟨fun i v hv => ?_, fun b' off' e hn i => ?_⟩
 ·
  have hi : i < cs.length := by
   have := (List.getElem?_eq_some_iff.1 hv).1
   simpa using this
  obtain ⟨b', off', e, x, y, z⟩ := h.1 i _ (List.getElem?_eq_getElem hi)
  cases e
  refine ⟨b, off, rfl, x, y, ?_⟩
  by_cases hij : i = j
  ·
   subst hij
   rw [List.getElem?_set_self hi] at hv
   cases hv
   exact World.cell?_setCell_same w _ _ z
  ·
   rw [List.getElem?_set_ne (fun e => hij e.symm), List.getElem?_eq_getElem hi] at hv
   cases hv
   rw [World.cell?_setCell_other w _ _ u (by intro e; injection e with _ e2; omega)]
   exact z
 ·
  cases e
  have := h.2 b off rfl (by simpa using hn) i
  simpa using this
theorem Owned.of_row {base size n c : Nat} {e : TypeId} (h : w.ownsRow base e size (.slice A n c) n cs) : Owned w base w.heap.size A cs := by
 rcases h.2 with ⟨h', h0⟩ | ⟨g, cap, cur, h', hb, hg, hnc, _, hcs, htake⟩
 ·
  have hz : cs = [] := List.eq_nil_of_length_eq_zero (by rw [h.1, h0]; simp)
  subst hz
  exact ⟨Lies.nil, fun _ _ _ hn => absurd hn (by simp)⟩
 ·
  injection h' with h1 h2 h3
  subst h1
  have hlt : g < w.heap.size := by
   rcases Nat.lt_or_ge g w.heap.size with x | x
   ·
    exact x
   ·
    rw [Array.getElem?_eq_none x] at hg; cases hg
  refine ⟨fun j u hu => ⟨g, 0, rfl, hb, hlt, ?_⟩, fun b off e _ j => ?_⟩
  ·
   have := h.cells (g := g) rfl j u hu
   rwa [Addr.add_lit] at this
  ·
   cases e
   exact frozen_of_row w g j cur _ hg
end
structure Turned (lo hi : Nat) (w w' : World) : Prop where
 os : w'.os = w.os
 tape : w'.tape = w.tape
 output : w'.output = w.output
 size : w.heap.size ≤ w'.heap.size
 block : ∀ k, k < w.heap.size → (k < lo ∨ hi ≤ k) → w'.heap[k]? = w.heap[k]?
theorem Turned.refl (lo hi : Nat) (w : World) : Turned lo hi w w := ⟨rfl, rfl, rfl, Nat.le_refl _, fun _ _ _ => rfl⟩
theorem Turned.trans {lo hi : Nat} {a b c : World} (h : Turned lo hi a b) (k : Turned lo hi b c) : Turned lo hi a c :=
 ⟨k.os.trans h.os, k.tape.trans h.tape, k.output.trans h.output, Nat.le_trans h.size k.size, fun i hi hd => (k.block i (Nat.lt_of_lt_of_le hi h.size) hd).trans (h.block i hi hd)⟩
theorem Turned.setCell {lo hi : Nat} {a w : World} (h : Turned lo hi a w) {b off : Nat} (h1 : lo ≤ b) (h2 : b < hi) (u : Value) : Turned lo hi a (w.setCell ⟨b, off, none⟩ u) :=
 h.trans ⟨rfl, rfl, rfl, by simp, fun i _ hd => Below.heap_setCell w ⟨b, off, none⟩ u i (by show i ≠ b; omega)⟩
theorem Turned.below {lo hi : Nat} {w w' : World} (h : Turned lo hi w w') {B : Nat} (hB : B ≤ lo) (hw : B ≤ w.heap.size) : Below B w w' :=
 ⟨h.os, h.tape, h.output, h.size, fun k hk => h.block k (by omega) (by omega)⟩
theorem Turned.drewN {lo hi : Nat} {a w : World} (h : Turned lo hi a w) (n : Nat) : Turned lo hi a (w.drewN n) := ⟨h.os, h.tape, h.output, h.size, h.block⟩
theorem btr {a b c : World} (h : Below a.heap.size a b) (k : Below b.heap.size b c) : Below a.heap.size a c := h.trans (k.mono h.size)
section
variable {H : Type} {enc : TypeId × Value → H} {P : Program}
theorem trodAll_stays (hl : laidOutB P = true) {W W' : World} (hb : Below W.heap.size W W') {sp : Nat → Bool} : ∀ (ts : List TypeId) (vs : List Value) (ds : List (DataW H)) (ps : List MemPlace),
  (∀ t ∈ ts, P.readableRec t = true ∧ t < P.types.size) → DataW.TrodAll enc P W 0 (fun _ => true) true ts vs ds ps → (∀ p ∈ ps, p.block < W.heap.size) → (∀ p ∈ ps, sp p.block = true) → DataW.TrodAll enc P W' 0 sp true ts vs ds ps
 | [], vs, ds, ps, _, h, _, _ => by
  obtain ⟨rfl, rfl, rfl⟩ := trodAll_nil h
  exact trodAll_mk0
 | t :: ts, vs, ds, ps, hr, h, hlt, hsp => by
  obtain ⟨v, vs', d, ds', p, q, rfl, rfl, rfl, h0, h1⟩ := trodAll_cons h
  have g0 := hr t (by simp)
  exact trodAll_cons_mk (WideElems.Trod_stays hl g0.1 g0.2 h0 (fun x hx => hb.same (hlt x (by simp [hx]))) (fun x hx => hsp x (by simp [hx])))
   (trodAll_stays hl hb ts vs' ds' q (fun t' ht => hr t' (by simp [ht])) h1 (fun x hx => hlt x (by simp [hx])) (fun x hx => hsp x (by simp [hx])))
theorem post_args {f : Func} {s : ChangeSpec} {fresh handsOn again : Bool} {W W' : World} {args : Array Value} {v : Value} {ds : List (DataW H)} {ps : List MemPlace}
  (hl : laidOutB P = true) (hread : f.params.toList.all (fun t => P.readableRec t && decide (t < P.types.size)) = true)
  (hvs : s.vars = []) (hvr : (s.fn H (ds ++ [])).vars = []) (har : (s.fn H (ds ++ [])).args = ds)
  (hW : DataW.Whole enc P f.params.toList s.vars false W args.toList ds [] ps) (hA : DataW.TrodAll enc P W 0 (fun _ => true) true f.params.toList args.toList ds ps) (hb : Below W.heap.size W W')
  (hr : ∀ (b : Nat) (sp : Nat → Bool) (hd : Bool), DataW.TrodAll enc P W' b sp hd f.resultTypes.toList (v.resultList f.resultTypes.size) (s.fn H (ds ++ [])).results [])
  (hok : ∀ (j : Nat) (t : TypeId) (r : Value), f.resultTypes[j]? = some t → (v.resultList f.resultTypes.size)[j]? = some r → Value.okWide P W' .any 0 t r) :
  s.post enc P f false fresh handsOn again W args v W' := by
 refine post_kept hvs hvr hW hb hr (fun sp hsp => ?_) hok
 rw [har]
 refine trodAll_stays hl hb _ _ _ _ (fun t ht => ?_) hA (fun p hp => hW.lt p hp) hsp
 have := List.all_eq_true.1 hread t ht
 simpa using this
end
end Go.Proofs.YtmiokacihcpepaaGreat.Mem
namespace Go.Proofs.YtmiokacihcpepaaGreat.Mem
set_option maxHeartbeats 8000000
set_option maxRecDepth 100000
set_option maxRecDepth 100000
open Go.ChangeShapes Go.WideShapes Go.ChangeAt Go.RowKit
open Go.Proofs.YtmiokacihcpepaaGreat.Base
def Var (w : World) (b : Nat) (vs : List Value) : Prop :=
 (∀ (i : Nat) (v : Value), vs[i]? = some v → w.cell? ⟨b, i, none⟩ = some v ∧ w.frozen? ⟨b, i, none⟩ = false) ∧ b < w.heap.size
theorem Var.new (w : World) (vs : List Value) (T : TypeId) : Var (w.alloc (.cells vs.toArray T)) w.heap.size vs :=
 ⟨fun i v hv => ⟨cell_of_row _ _ i _ _ _ (heap_alloc_new w _) |>.trans (by simpa using hv), frozen_of_row _ _ _ _ _ (heap_alloc_new w _)⟩, by simp⟩
theorem Var.below {w w' : World} {b : Nat} {vs : List Value} {B : Nat} (h : Var w b vs) (hb : Below B w w') (hB : b + 1 ≤ B) : Var w' b vs :=
 ⟨fun i v hv => ⟨(hb.cell (p := ⟨b, i, none⟩) hB).trans (h.1 i v hv).1, (hb.frozen (p := ⟨b, i, none⟩) hB).trans (h.1 i v hv).2⟩, Nat.lt_of_lt_of_le h.2 hb.size⟩
theorem Var.turned {w w' : World} {b lo hi : Nat} {vs : List Value} (h : Var w b vs) (hb : ∀ k, k < w.heap.size → (k < lo ∨ hi ≤ k) → w'.heap[k]? = w.heap[k]?) (hz : w.heap.size ≤ w'.heap.size) (hd : b + 1 ≤ lo ∨ hi ≤ b) : Var w' b vs :=
 have hk := hb b h.2 (by omega)
 ⟨fun i v hv => ⟨(World.cell?_of_block (w := w) (a := ⟨b, i, none⟩) hk).trans (h.1 i v hv).1, (World.frozen?_of_block (w := w) (a := ⟨b, i, none⟩) hk).trans (h.1 i v hv).2⟩, Nat.lt_of_lt_of_le h.2 hz⟩
theorem Var.grown {w w' : World} {b g : Nat} {vs : List Value} (h : Var w b vs) (hG : w.grownBy w' (some g)) (hne : b ≠ g) : Var w' b vs :=
 h.turned (lo := g) (hi := g + 1) (fun k hk hd => hG.block k hk (by simp; omega)) hG.size (by omega)
theorem Var.far {w : World} {b b' : Nat} {vs : List Value} (h : Var w b vs) (hne : b ≠ b') (i : Nat) (x : Value) : Var (w.setCell ⟨b', i, none⟩ x) b vs :=
 have hk := Below.heap_setCell w ⟨b', i, none⟩ x b hne
 ⟨fun j v hv => ⟨(World.cell?_of_block (w := w) (a := ⟨b, j, none⟩) hk).trans (h.1 j v hv).1, (World.frozen?_of_block (w := w) (a := ⟨b, j, none⟩) hk).trans (h.1 j v hv).2⟩, by simpa using h.2⟩
theorem Var.set {w : World} {b : Nat} {vs : List Value} (h : Var w b vs) (i : Nat) (x : Value) : Var (w.setCell ⟨b, i, none⟩ x) b (vs.set i x) :=
 ⟨fun j v hv => by
  refine ⟨?_, (World.frozen?_setCell _ _ _ _).trans ?_⟩
  ·
   rw [List.getElem?_set] at hv
   by_cases hij : i = j
   ·
    subst hij
    rw [if_pos rfl] at hv
    by_cases hl : i < vs.length
    ·
     rw [if_pos hl] at hv
     cases hv
     exact World.cell?_setCell_same _ _ _ (h.1 i vs[i] (by simp [hl])).1
    ·
     rw [if_neg hl] at hv
     cases hv
   ·
    rw [if_neg hij] at hv
    rw [World.cell?_setCell_other _ _ _ x (by intro e; injection e; omega)]
    exact (h.1 j v hv).1
  ·
   have hl : j < vs.length := by have := (List.getElem?_eq_some_iff.1 hv).1; simpa using this
   exact (h.1 j vs[j] (by simp [hl])).2, by simpa using h.2⟩
theorem Var.cell {w : World} {b : Nat} {vs : List Value} (h : Var w b vs) (i : Nat) {v : Value} (hv : vs[i]? = some v) : w.cell? ⟨b, i, none⟩ = some v := (h.1 i v hv).1
theorem Var.loose {w : World} {b : Nat} {vs : List Value} (h : Var w b vs) (i : Nat) {v : Value} (hv : vs[i]? = some v) : w.frozen? ⟨b, i, none⟩ = false := (h.1 i v hv).2
end Go.Proofs.YtmiokacihcpepaaGreat.Mem
namespace Go.Proofs.YtmiokacihcpepaaGreat.Data
set_option maxHeartbeats 8000000
set_option maxRecDepth 100000
set_option maxRecDepth 100000
open Go.ChangeShapes Go.WideShapes Go.ChangeAt Go.RowKit
open Go.Proofs.YtmiokacihcpepaaGreat.Base Go.Proofs.YtmiokacihcpepaaGreat.Mem
set_option linter.unusedVariables false
structure Rp (α : Type) where
 sz : Nat
 val : List Value → Value
 rd : World → Nat → Nat → α → List Value → Prop
 own : World → Nat → Nat → α → List Value → List Nat → Prop
 /-- every number of an int's range, every list of a length that a machine holds -/
 wf : α → Prop
 /-- no list longer than 2^21 -/
 cap : α → Prop
 /-- the laws' size: the lengths of all slices together -/
 size : α → Nat
 /-- how many leaves, and the value with its leaves marked from k on; the same of a value that is handed over by value ('t': what lies behind its slices alone) -/
 cnt : α → Nat
 mark : Nat → α → α
 tcnt : α → Nat
 top : Nat → α → α
 len : ∀ {w : World} {lo hi : Nat} {x : α} {cs : List Value}, rd w lo hi x cs → cs.length = sz
 kept : ∀ {w w' : World} {lo hi : Nat} {x : α} {cs : List Value}, rd w lo hi x cs → (∀ k, lo ≤ k → k < hi → w'.heap[k]? = w.heap[k]?) → rd w' lo hi x cs
 wide : ∀ {w : World} {lo hi lo' hi' : Nat} {x : α} {cs : List Value}, rd w lo hi x cs → lo' ≤ lo → hi ≤ hi' → rd w lo' hi' x cs
 reads : ∀ {w : World} {lo hi : Nat} {x : α} {cs : List Value} {F : List Nat}, own w lo hi x cs F → rd w lo hi x cs
 okept : ∀ {w w' : World} {lo hi : Nat} {x : α} {cs : List Value} {F : List Nat}, own w lo hi x cs F → (∀ k ∈ F, w'.heap[k]? = w.heap[k]?) → own w' lo hi x cs F
 owide : ∀ {w : World} {lo hi lo' hi' : Nat} {x : α} {cs : List Value} {F : List Nat}, own w lo hi x cs F → lo' ≤ lo → hi ≤ hi' → own w lo' hi' x cs F
 inF : ∀ {w : World} {lo hi : Nat} {x : α} {cs : List Value} {F : List Nat}, own w lo hi x cs F → ∀ k ∈ F, lo ≤ k ∧ k < hi
def Own {α : Type} (r : Rp α) (w : World) (lo hi : Nat) (x : α) (cs : List Value) : Prop := ∃ F, r.own w lo hi x cs F ∧ F.Nodup
section
variable {α : Type} {r : Rp α} {w w' : World} {lo hi lo' hi' : Nat} {x : α} {cs : List Value}
theorem rd_below {B : Nat} (h : r.rd w lo hi x cs) (hb : Below B w w') (hB : hi ≤ B) : r.rd w' lo hi x cs := r.kept h fun k _ h2 => hb.block k (by omega)
theorem Own.reads (h : Own r w lo hi x cs) : r.rd w lo hi x cs := by
 obtain ⟨F, h, _⟩ := h
 exact r.reads h
theorem Own.kept (h : Own r w lo hi x cs) (hb : ∀ k, lo ≤ k → k < hi → w'.heap[k]? = w.heap[k]?) : Own r w' lo hi x cs := by
 obtain ⟨F, h, hF⟩ := h
 exact ⟨F, r.okept h fun k hk => hb k (r.inF h k hk).1 (r.inF h k hk).2, hF⟩
theorem Own.wide (h : Own r w lo hi x cs) (h1 : lo' ≤ lo) (h2 : hi ≤ hi') : Own r w lo' hi' x cs := by
 obtain ⟨F, h, hF⟩ := h
 exact ⟨F, r.owide h h1 h2, hF⟩
theorem Own.below {B : Nat} (h : Own r w lo hi x cs) (hb : Below B w w') (hB : hi ≤ B) : Own r w' lo hi x cs := h.kept fun k _ h2 => hb.block k (by omega)
theorem Own.turned {lo2 hi2 : Nat} (h : Own r w lo hi x cs) (hb : ∀ k, k < w.heap.size → (k < lo2 ∨ hi2 ≤ k) → w'.heap[k]? = w.heap[k]?) (hh : hi ≤ w.heap.size) (hd : hi ≤ lo2 ∨ hi2 ≤ lo) : Own r w' lo hi x cs :=
 h.kept fun k h1 h2 => hb k (by omega) (by omega)
theorem Own.drew (h : Own r w lo hi x cs) : Own r w.drew lo hi x cs := h.kept fun _ _ _ => rfl
end
def rInt : Rp Int where
 sz := 1
 val cs := cs.headD undef
 rd _ _ _ x cs := cs = [.int .i64 x]
 own _ _ _ x cs F := cs = [.int .i64 x] ∧ F = []
 wf x := (Lit.int .i64 x).wf = true
 cap _ := True
 size _ := 0
 cnt _ := 1
 mark k _ := k
 tcnt _ := 0
 top _ x := x
 len h := by rw [h]; rfl
 kept h _ := h
 wide h _ _ := h
 reads h := h.1
 okept h _ := h
 owide h _ _ := h
 inF h k hk := by rw [h.2] at hk; cases hk
def rBool : Rp Bool where
 sz := 1
 val cs := cs.headD undef
 rd _ _ _ x cs := cs = [.bool x]
 own _ _ _ x cs F := cs = [.bool x] ∧ F = []
 wf _ := True
 cap _ := True
 size _ := 0
 cnt _ := 1
 mark k _ := k % 3 == 0
 tcnt _ := 0
 top _ x := x
 len h := by rw [h]; rfl
 kept h _ := h
 wide h _ _ := h
 reads h := h.1
 okept h _ := h
 owide h _ _ := h
 inF h k hk := by rw [h.2] at hk; cases hk
def rPair {α β : Type} (r : Rp α) (q : Rp β) : Rp (α × β) where
 sz := r.sz + q.sz
 val cs := .agg cs.toArray
 rd w lo hi x cs := ∃ c1 c2, cs = c1 ++ c2 ∧ r.rd w lo hi x.1 c1 ∧ q.rd w lo hi x.2 c2
 own w lo hi x cs F := ∃ c1 c2 F1 F2, cs = c1 ++ c2 ∧ F = F1 ++ F2 ∧ r.own w lo hi x.1 c1 F1 ∧ q.own w lo hi x.2 c2 F2
 wf x := r.wf x.1 ∧ q.wf x.2
 cap x := r.cap x.1 ∧ q.cap x.2
 size x := r.size x.1 + q.size x.2
 cnt x := r.cnt x.1 + q.cnt x.2
 mark k x := (r.mark k x.1, q.mark (k + r.cnt x.1) x.2)
 tcnt x := r.tcnt x.1 + q.tcnt x.2
 top k x := (r.top k x.1, q.top (k + r.tcnt x.1) x.2)
 len h := by
  obtain ⟨c1, c2, rfl, h1, h2⟩ := h
  rw [List.length_append, r.len h1, q.len h2]
 kept h hb := by
  obtain ⟨c1, c2, e, h1, h2⟩ := h
  exact ⟨c1, c2, e, r.kept h1 hb, q.kept h2 hb⟩
 wide h a b := by
  obtain ⟨c1, c2, e, h1, h2⟩ := h
  exact ⟨c1, c2, e, r.wide h1 a b, q.wide h2 a b⟩
 reads h := by
  obtain ⟨c1, c2, F1, F2, e, _, h1, h2⟩ := h
  exact ⟨c1, c2, e, r.reads h1, q.reads h2⟩
 okept h hb := by
  obtain ⟨c1, c2, F1, F2, e, rfl, h1, h2⟩ := h
  exact ⟨c1, c2, F1, F2, e, rfl, r.okept h1 fun k hk => hb k (by simp [hk]), q.okept h2 fun k hk => hb k (by simp [hk])⟩
 owide h a b := by
  obtain ⟨c1, c2, F1, F2, e, f, h1, h2⟩ := h
  exact ⟨c1, c2, F1, F2, e, f, r.owide h1 a b, q.owide h2 a b⟩
 inF h k hk := by
  obtain ⟨c1, c2, F1, F2, e, rfl, h1, h2⟩ := h
  rcases List.mem_append.1 hk with hk | hk
  ·
   exact r.inF h1 k hk
  ·
   exact q.inF h2 k hk
section
variable {α : Type} (r : Rp α)
def rdAll (w : World) (lo hi : Nat) : List α → List Value → Prop
 | [], ds => ds = []
 | x :: xs, ds => ∃ c1 c2, ds = c1 ++ c2 ∧ r.rd w lo hi x c1 ∧ rdAll w lo hi xs c2
def ownAll (w : World) (lo hi : Nat) : List α → List Value → List Nat → Prop
 | [], ds, F => ds = [] ∧ F = []
 | x :: xs, ds, F => ∃ c1 c2 F1 F2, ds = c1 ++ c2 ∧ F = F1 ++ F2 ∧ r.own w lo hi x c1 F1 ∧ ownAll w lo hi xs c2 F2
def mkAll : Nat → List α → List α
 | _, [] => []
 | k, x :: xs => r.mark k x :: mkAll (k + r.cnt x) xs
def cntAll : List α → Nat
 | [] => 0
 | x :: xs => r.cnt x + cntAll xs
def sizeAll : List α → Nat
 | [] => 0
 | x :: xs => r.size x + sizeAll xs
def blks (A : Option Addr) (ds : List Value) : List Nat := if ds = [] then [] else (A.map Addr.block).toList
variable {r} {w w' : World} {lo hi lo' hi' : Nat}
theorem rdAll_len : ∀ {xs : List α} {ds : List Value}, rdAll r w lo hi xs ds → ds.length = xs.length * r.sz
 | [], ds, h => by rw [show ds = [] from h]; simp
 | x :: xs, ds, h => by
  obtain ⟨c1, c2, rfl, h1, h2⟩ := h
  rw [List.length_append, r.len h1, rdAll_len h2, List.length_cons, Nat.add_mul]
  omega
theorem rdAll_kept (hb : ∀ k, lo ≤ k → k < hi → w'.heap[k]? = w.heap[k]?) : ∀ {xs : List α} {ds : List Value}, rdAll r w lo hi xs ds → rdAll r w' lo hi xs ds
 | [], ds, h => h
 | x :: xs, ds, h => by
  obtain ⟨c1, c2, e, h1, h2⟩ := h
  exact ⟨c1, c2, e, r.kept h1 hb, rdAll_kept hb h2⟩
theorem rdAll_wide (a : lo' ≤ lo) (b : hi ≤ hi') : ∀ {xs : List α} {ds : List Value}, rdAll r w lo hi xs ds → rdAll r w lo' hi' xs ds
 | [], ds, h => h
 | x :: xs, ds, h => by
  obtain ⟨c1, c2, e, h1, h2⟩ := h
  exact ⟨c1, c2, e, r.wide h1 a b, rdAll_wide a b h2⟩
theorem ownAll_reads : ∀ {xs : List α} {ds : List Value} {F : List Nat}, ownAll r w lo hi xs ds F → rdAll r w lo hi xs ds
 | [], ds, F, h => h.1
 | x :: xs, ds, F, h => by
  obtain ⟨c1, c2, F1, F2, e, _, h1, h2⟩ := h
  exact ⟨c1, c2, e, r.reads h1, ownAll_reads h2⟩
theorem ownAll_kept : ∀ {xs : List α} {ds : List Value} {F : List Nat}, ownAll r w lo hi xs ds F → (∀ k ∈ F, w'.heap[k]? = w.heap[k]?) → ownAll r w' lo hi xs ds F
 | [], ds, F, h, _ => h
 | x :: xs, ds, F, h, hb => by
  obtain ⟨c1, c2, F1, F2, e, rfl, h1, h2⟩ := h
  exact ⟨c1, c2, F1, F2, e, rfl, r.okept h1 fun k hk => hb k (by simp [hk]), ownAll_kept h2 fun k hk => hb k (by simp [hk])⟩
theorem ownAll_wide (a : lo' ≤ lo) (b : hi ≤ hi') : ∀ {xs : List α} {ds : List Value} {F : List Nat}, ownAll r w lo hi xs ds F → ownAll r w lo' hi' xs ds F
 | [], ds, F, h => h
 | x :: xs, ds, F, h => by
  obtain ⟨c1, c2, F1, F2, e, f, h1, h2⟩ := h
  exact ⟨c1, c2, F1, F2, e, f, r.owide h1 a b, ownAll_wide a b h2⟩
theorem ownAll_inF : ∀ {xs : List α} {ds : List Value} {F : List Nat}, ownAll r w lo hi xs ds F → ∀ k ∈ F, lo ≤ k ∧ k < hi
 | [], ds, F, h, k, hk => by rw [h.2] at hk; cases hk
 | x :: xs, ds, F, h, k, hk => by
  obtain ⟨c1, c2, F1, F2, e, rfl, h1, h2⟩ := h
  rcases List.mem_append.1 hk with hk | hk
  ·
   exact r.inF h1 k hk
  ·
   exact ownAll_inF h2 k hk
theorem owned_agree {A : Option Addr} {ds : List Value} (h : Owned w lo hi A ds) (hb : ∀ k ∈ blks A ds, w'.heap[k]? = w.heap[k]?) : Owned w' lo hi A ds := by
 by_cases hd : ds = []
 ·
  subst hd
  exact ⟨Lies.nil, fun b off e h => by simp at h⟩
 ·
  have hn : 0 < ds.length := List.length_pos_iff.2 hd
  obtain ⟨b, off, rfl, x, y, hc⟩ := h.1.at_ hn
  have hk : w'.heap[b]? = w.heap[b]? := hb b (by simp [blks, hd])
  refine ⟨fun j u hu => ⟨b, off, rfl, x, y, (World.cell?_of_block (w := w) (a := ⟨b, off + j, none⟩) hk).trans (hc j u hu)⟩, fun b' off' e _ j => ?_⟩
  cases e
  exact (World.frozen?_of_block (w := w) (a := ⟨b, j, none⟩) hk).trans (h.2 b off rfl hn j)
theorem blks_in {A : Option Addr} {ds : List Value} (h : Owned w lo hi A ds) {k : Nat} (hk : k ∈ blks A ds) : lo ≤ k ∧ k < hi := by
 by_cases hd : ds = []
 ·
  simp [blks, hd] at hk
 ·
  obtain ⟨b, off, rfl, x, y, _⟩ := h.1.at_ (List.length_pos_iff.2 hd)
  simp [blks, hd] at hk
  subst hk
  exact ⟨x, y⟩
end
def rVia {α β : Type} (q : Rp β) (f : α → β) (g : β → α) : Rp α where
 sz := q.sz
 val := q.val
 rd w lo hi x := q.rd w lo hi (f x)
 own w lo hi x := q.own w lo hi (f x)
 wf x := q.wf (f x)
 cap x := q.cap (f x)
 size x := q.size (f x)
 cnt x := q.cnt (f x)
 mark k x := g (q.mark k (f x))
 tcnt x := q.tcnt (f x)
 top k x := g (q.top k (f x))
 len h := q.len h
 kept h := q.kept h
 wide h := q.wide h
 reads h := q.reads h
 okept h := q.okept h
 owide h := q.owide h
 inF h := q.inF h
end Go.Proofs.YtmiokacihcpepaaGreat.Data
namespace Go.Proofs.YtmiokacihcpepaaGreat.Data
set_option maxHeartbeats 8000000
set_option maxRecDepth 100000
set_option maxRecDepth 100000
open Go.ChangeShapes Go.WideShapes Go.ChangeAt Go.RowKit Go.Deep
open Go.Proofs.YtmiokacihcpepaaGreat.Base Go.Proofs.YtmiokacihcpepaaGreat.Mem
set_option linter.unusedVariables false
section
variable {α β : Type} {r : Rp α} {q : Rp β} {w w' : World} {lo hi lo' hi' : Nat}
theorem rdAll_at : ∀ {xs : List α} {ds : List Value} (k : Nat) (hk : k < xs.length), rdAll r w lo hi xs ds → r.rd w lo hi xs[k] ((ds.drop (k * r.sz)).take r.sz)
 | x :: xs, ds, 0, _, h => by
  obtain ⟨c1, c2, rfl, h1, h2⟩ := h
  have hl := r.len h1
  simpa [← hl] using h1
 | x :: xs, ds, k + 1, hk, h => by
  obtain ⟨c1, c2, rfl, h1, h2⟩ := h
  have hl := r.len h1
  have := rdAll_at k (by simpa using hk) h2
  rw [show (k + 1) * r.sz = c1.length + k * r.sz by rw [hl, Nat.add_mul]; omega, ← List.drop_drop, List.drop_left]
  exact this
theorem list_at {xs : List α} {A : Option Addr} {ds : List Value} (hs : 0 < r.sz) (h : rdAll r w lo hi xs ds) (hl : Lies w lo hi A ds) (k : Nat) (hk : k < xs.length) :
  ∃ b off es, A = some ⟨b, off, none⟩ ∧ lo ≤ b ∧ b < hi ∧ r.rd w lo hi xs[k] es ∧ es.length = r.sz ∧ ∀ j u, es[j]? = some u → w.cell? ⟨b, off + (k * r.sz + j), none⟩ = some u := by
 have h1 := rdAll_at k hk h
 have hlen := rdAll_len h
 have hd : k * r.sz + r.sz ≤ ds.length := by
  have := Nat.mul_le_mul_right r.sz (show k + 1 ≤ xs.length from hk)
  rw [Nat.add_mul] at this
  omega
 obtain ⟨b, off, e, x, y, hc⟩ := hl.at_ (show 0 < ds.length by omega)
 refine ⟨b, off, _, e, x, y, h1, r.len h1, fun j u hu => ?_⟩
 have hj : j < r.sz := by
  have := (List.getElem?_eq_some_iff.1 hu).1
  rw [List.length_take] at this
  omega
 rw [List.getElem?_take, if_pos hj, List.getElem?_drop] at hu
 exact hc _ u hu
theorem ownAll_append : ∀ {xs ys : List α} {ds es : List Value} {F G : List Nat}, ownAll r w lo hi xs ds F → ownAll r w lo hi ys es G → ownAll r w lo hi (xs ++ ys) (ds ++ es) (F ++ G)
 | [], ys, ds, es, F, G, h, h' => by rw [show ds = [] from h.1, show F = [] from h.2]; exact h'
 | x :: xs, ys, ds, es, F, G, h, h' => by
  obtain ⟨c1, c2, F1, F2, rfl, rfl, h1, h2⟩ := h
  exact ⟨c1, c2 ++ es, F1, F2 ++ G, by simp, by simp, h1, ownAll_append h2 h'⟩
theorem ownAll_one {x : α} {cs : List Value} {F : List Nat} (h : r.own w lo hi x cs F) : ownAll r w lo hi [x] cs F := ⟨cs, [], F, [], by simp, by simp, h, rfl, rfl⟩
theorem rdAll_one {x : α} {cs : List Value} (h : r.rd w lo hi x cs) : rdAll r w lo hi [x] cs := ⟨cs, [], by simp, h, rfl⟩
end
section
variable {P : Program} {t e : TypeId}
end
end Go.Proofs.YtmiokacihcpepaaGreat.Data
namespace Go.Proofs.YtmiokacihcpepaaGreat.Stt
set_option maxHeartbeats 8000000
set_option maxRecDepth 100000
set_option maxRecDepth 100000
open Go.ChangeShapes Go.WideShapes Go.ChangeAt Go.RowKit
open Go.Proofs.YtmiokacihcpepaaGreat.Base Go.Proofs.YtmiokacihcpepaaGreat.Mem Go.Proofs.YtmiokacihcpepaaGreat.Data
set_option linter.unusedVariables false
structure Only (f : Nat → Prop) (w w' : World) : Prop where
 os : w'.os = w.os
 tape : w'.tape = w.tape
 output : w'.output = w.output
 size : w.heap.size ≤ w'.heap.size
 block : ∀ k, k < w.heap.size → ¬ f k → w'.heap[k]? = w.heap[k]?
theorem Only.refl (f : Nat → Prop) (w : World) : Only f w w := ⟨rfl, rfl, rfl, Nat.le_refl _, fun _ _ _ => rfl⟩
theorem Only.of_grown {f : Nat → Prop} {w w' : World} {row : Option Nat} (h : w.grownBy w' row) (hf : ∀ k, row = some k → f k) : Only f w w' :=
 ⟨h.os, h.tape, h.output, h.size, fun k hk hn => h.block k hk fun e => hn (hf k e.symm)⟩
theorem Only.trans {f : Nat → Prop} {a b c : World} (h : Only f a b) (k : Only f b c) : Only f a c :=
 ⟨k.os.trans h.os, k.tape.trans h.tape, k.output.trans h.output, Nat.le_trans h.size k.size, fun i hi hn => (k.block i (Nat.lt_of_lt_of_le hi h.size) hn).trans (h.block i hi hn)⟩
theorem Only.weak {f g : Nat → Prop} {w w' : World} (h : Only f w w') (hfg : ∀ k, f k → g k) : Only g w w' := ⟨h.os, h.tape, h.output, h.size, fun k hk hn => h.block k hk fun e => hn (hfg k e)⟩
theorem Only.set {f : Nat → Prop} (w : World) {b : Nat} (hf : f b) (i : Nat) (u : Value) : Only f w (w.setCell ⟨b, i, none⟩ u) :=
 ⟨rfl, rfl, rfl, by simp, fun k _ hn => Below.heap_setCell w ⟨b, i, none⟩ u k (by show k ≠ b; intro e; exact hn (e ▸ hf))⟩
theorem Only.below {f : Nat → Prop} {w w' : World} (h : Only f w w') {B : Nat} (hB : B ≤ w.heap.size) (hf : ∀ k, f k → B ≤ k) : Below B w w' :=
 ⟨h.os, h.tape, h.output, h.size, fun k hk => h.block k (Nat.lt_of_lt_of_le hk hB) fun e => by have := hf k e; omega⟩
structure Res where
 says : World → Prop
 foot : Nat → Prop
 lo : Nat
 hi : Nat
 inn : ∀ k, foot k → lo ≤ k ∧ k < hi
 kept : ∀ {w w' : World}, says w → (∀ k, foot k → w'.heap[k]? = w.heap[k]?) → says w'
structure St (w0 w : World) (L : List Res) : Prop where
 below : Below w0.heap.size w0 w
 says : ∀ (i : Nat) (r : Res), L[i]? = some r → r.says w
 lo : ∀ (i : Nat) (r : Res), L[i]? = some r → w0.heap.size ≤ r.lo
 hi : ∀ (i : Nat) (r : Res), L[i]? = some r → r.hi ≤ w.heap.size
 apart : ∀ (i j : Nat) (r s : Res), L[i]? = some r → L[j]? = some s → i ≠ j → ∀ k, r.foot k → ¬ s.foot k
section
variable {w0 w w' : World} {L : List Res} {r : Res}
theorem St.start (w : World) : St w w [] := ⟨Below.refl _ _, fun i r h => by simp at h, fun i r h => by simp at h, fun i r h => by simp at h, fun i j r s h => by simp at h⟩
theorem St.at_ (S : St w0 w L) (i : Nat) (h : L[i]? = some r) : r.says w := S.says i r h
theorem St.footlt (S : St w0 w L) {i : Nat} (h : L[i]? = some r) {k : Nat} (hk : r.foot k) : w0.heap.size ≤ k ∧ k < w.heap.size := by
 have h1 := r.inn k hk
 have h2 := S.lo i r h
 have h3 := S.hi i r h
 omega
theorem St.call (S : St w0 w L) (hb : Below w.heap.size w w') : St w0 w' L :=
 ⟨S.below.trans (hb.mono S.below.size), fun i r h => r.kept (S.says i r h) fun k hk => hb.block k (S.footlt h hk).2, S.lo, fun i r h => Nat.le_trans (S.hi i r h) hb.size, S.apart⟩
theorem St.add (S : St w0 w L) (hb : Below w.heap.size w w') (r : Res) (hs : r.says w') (hl : w.heap.size ≤ r.lo) (hh : r.hi ≤ w'.heap.size) : St w0 w' (r :: L) := by
 have T := S.call hb
 refine ⟨T.below, fun i s h => ?_, fun i s h => ?_, fun i s h => ?_, fun i j s t h1 h2 hne k hk hk' => ?_⟩
 ·
  cases i with
  | zero => cases h; exact hs
  | succ i => exact T.says i s h
 ·
  cases i with
  | zero => cases h; exact Nat.le_trans S.below.size hl
  | succ i => exact T.lo i s h
 ·
  cases i with
  | zero => cases h; exact hh
  | succ i => exact T.hi i s h
 ·
  cases i with
  | zero =>
   cases h1
   cases j with
   | zero => exact hne rfl
   | succ j => have h3 := (S.footlt h2 hk').2; have h4 := (r.inn k hk).1; omega
  | succ i =>
   cases j with
   | zero => cases h2; have h3 := (S.footlt h1 hk).2; have h4 := (r.inn k hk').1; omega
   | succ j => exact S.apart i j s t h1 h2 (by omega) k hk hk'
theorem St.turn (S : St w0 w L) (i : Nat) (h : L[i]? = some r) (r' : Res) (hc : Only r.foot w w') (hs : r'.says w') (hf : ∀ k, r'.foot k → r.foot k ∨ w.heap.size ≤ k) (hl : w0.heap.size ≤ r'.lo) (hh : r'.hi ≤ w'.heap.size) : St w0 w' (L.set i r') := by
 have hi : i < L.length := (List.getElem?_eq_some_iff.1 h).1
 have key : ∀ (j : Nat) (s : Res), (L.set i r')[j]? = some s → (j = i ∧ s = r') ∨ (j ≠ i ∧ L[j]? = some s) := fun j s hj => by
  by_cases e : j = i
  ·
   subst e
   rw [List.getElem?_set_self hi] at hj
   cases hj
   exact .inl ⟨rfl, rfl⟩
  ·
   rw [List.getElem?_set_ne (fun e' => e e'.symm)] at hj
   exact .inr ⟨e, hj⟩
 refine ⟨S.below.trans (hc.below S.below.size fun k hk => (S.footlt h hk).1), fun j s hj => ?_, fun j s hj => ?_, fun j s hj => ?_, fun j j' s t h1 h2 hne k hk hk' => ?_⟩
 ·
  rcases key j s hj with ⟨_, rfl⟩ | ⟨e, hj⟩
  ·
   exact hs
  ·
   exact s.kept (S.says j s hj) fun k hk => hc.block k (S.footlt hj hk).2 (S.apart j i s r hj h e k hk)
 ·
  rcases key j s hj with ⟨_, rfl⟩ | ⟨e, hj⟩
  ·
   exact hl
  ·
   exact S.lo j s hj
 ·
  rcases key j s hj with ⟨_, rfl⟩ | ⟨e, hj⟩
  ·
   exact hh
  ·
   exact Nat.le_trans (S.hi j s hj) hc.size
 ·
  rcases key j s h1 with ⟨e1, e2⟩ | ⟨e, h1'⟩
  ·
   rcases key j' t h2 with ⟨e3, e4⟩ | ⟨e', h2'⟩
   ·
    exact hne (e1.trans e3.symm)
   ·
    rw [e2] at hk
    rcases hf k hk with hk | hk
    ·
     exact S.apart i j' r t h h2' (fun x => hne (e1.trans x)) k hk hk'
    ·
     have := (S.footlt h2' hk').2; omega
  ·
   rcases key j' t h2 with ⟨e3, e4⟩ | ⟨e', h2'⟩
   ·
    rw [e4] at hk'
    rcases hf k hk' with hk' | hk'
    ·
     exact S.apart j i s r h1' h (fun x => hne (x.trans e3.symm)) k hk hk'
    ·
     have := (S.footlt h1' hk).2; omega
   ·
    exact S.apart j j' s t h1' h2' hne k hk hk'
theorem St.cut (S : St w0 w L) (i : Nat) (h : L[i]? = some r) (r1 r2 : Res) (h1 : r1.says w) (h2 : r2.says w) (f1 : ∀ k, r1.foot k → r.foot k) (f2 : ∀ k, r2.foot k → r.foot k) (ha : ∀ k, r1.foot k → ¬ r2.foot k)
  (l1 : w0.heap.size ≤ r1.lo) (l2 : w0.heap.size ≤ r2.lo) (g1 : r1.hi ≤ w.heap.size) (g2 : r2.hi ≤ w.heap.size) : St w0 w (r1 :: L.set i r2) := by
 have T := S.turn i h r2 (Only.refl _ _) h2 (fun k hk => .inl (f2 k hk)) l2 g2
 have hi : i < L.length := (List.getElem?_eq_some_iff.1 h).1
 have key : ∀ (j : Nat) (s : Res), (L.set i r2)[j]? = some s → ∀ k, r1.foot k → ¬ s.foot k := fun j s hj k hk hk' => by
  by_cases e : j = i
  ·
   subst e
   rw [List.getElem?_set_self hi] at hj
   cases hj
   exact ha k hk hk'
  ·
   rw [List.getElem?_set_ne (fun e' => e e'.symm)] at hj
   exact S.apart i j r s h hj (fun e' => e e'.symm) k (f1 k hk) hk'
 refine ⟨T.below, fun j s hj => ?_, fun j s hj => ?_, fun j s hj => ?_, fun j j' s t hj hj' hne k hk hk' => ?_⟩
 ·
  cases j with
  | zero => cases hj; exact h1
  | succ j => exact T.says j s hj
 ·
  cases j with
  | zero => cases hj; exact l1
  | succ j => exact T.lo j s hj
 ·
  cases j with
  | zero => cases hj; exact g1
  | succ j => exact T.hi j s hj
 ·
  cases j with
  | zero =>
   cases hj
   cases j' with
   | zero => exact hne rfl
   | succ j' => exact key j' t hj' k hk hk'
  | succ j =>
   cases j' with
   | zero => cases hj'; exact key j s hj k hk' hk
   | succ j' => exact T.apart j j' s t hj hj' (by omega) k hk hk'
theorem St.pick (S : St w0 w L) (is : List Nat) (L' : List Res) (hL : is.map (fun i => L[i]?) = L'.map some) (hn : is.Nodup) : St w0 w L' := by
 have key : ∀ (j : Nat) (s : Res), L'[j]? = some s → ∃ i, is[j]? = some i ∧ L[i]? = some s := fun j s hj => by
  have h1 : (L'.map some)[j]? = some (some s) := by rw [List.getElem?_map, hj]; rfl
  rw [← hL, List.getElem?_map] at h1
  cases hi : is[j]? with
  | none => rw [hi] at h1; cases h1
  | some i => rw [hi] at h1; exact ⟨i, rfl, by simpa using h1⟩
 refine ⟨S.below, fun j s hj => ?_, fun j s hj => ?_, fun j s hj => ?_, fun j j' s t hj hj' hne k hk hk' => ?_⟩
 ·
  obtain ⟨i, _, h⟩ := key j s hj; exact S.says i s h
 ·
  obtain ⟨i, _, h⟩ := key j s hj; exact S.lo i s h
 ·
  obtain ⟨i, _, h⟩ := key j s hj; exact S.hi i s h
 ·
  obtain ⟨i, e, h⟩ := key j s hj
  obtain ⟨i', e', h'⟩ := key j' t hj'
  refine S.apart i i' s t h h' (fun he => hne ?_) k hk hk'
  subst he
  exact (List.getElem?_inj (List.getElem?_eq_some_iff.1 e).1 hn).1 (e.trans e'.symm)
end
def vr (b : Nat) (vs : List Value) : Res where
 says w := Var w b vs
 foot k := k = b
 lo := b
 hi := b + 1
 inn k h := by omega
 kept h hk := by
  have e := hk _ rfl
  refine ⟨fun i v hv => ⟨(World.cell?_of_block (a := ⟨b, i, none⟩) e).trans (h.1 i v hv).1, (World.frozen?_of_block (a := ⟨b, i, none⟩) e).trans (h.1 i v hv).2⟩, ?_⟩
  rw [Array.getElem?_eq_getElem h.2] at e
  exact (Array.getElem?_eq_some_iff.1 e).1
def ow {α : Type} (r : Rp α) (lo hi : Nat) (x : α) (cs : List Value) (F : List Nat) : Res where
 says w := r.own w lo hi x cs F ∧ F.Nodup
 foot k := k ∈ F ∧ lo ≤ k ∧ k < hi
 lo := lo
 hi := hi
 inn k h := h.2
 kept h hk := ⟨r.okept h.1 fun k hF => hk k ⟨hF, r.inF h.1 k hF⟩, h.2⟩
section
variable {w0 w w' : World} {L : List Res}
theorem St.alloc (S : St w0 w L) (vs : List Value) (T : TypeId) : St w0 (w.alloc (.cells vs.toArray T)) (vr w.heap.size vs :: L) :=
 S.add ((Below.refl _ _).alloc (Nat.le_refl _) _) (vr w.heap.size vs) (Var.new w vs T) (Nat.le_refl _) (by simp [vr])
theorem St.drew (S : St w0 w L) : St w0 w.drew L := S.call (Below.refl _ _).drew
theorem St.cell (S : St w0 w L) (i : Nat) {b : Nat} {vs : List Value} (h : L[i]? = some (vr b vs)) (j : Nat) {v : Value} (hv : vs[j]? = some v) : w.cell? ⟨b, j, none⟩ = some v := (S.at_ i h).cell j hv
theorem St.loose (S : St w0 w L) (i : Nat) {b : Nat} {vs : List Value} (h : L[i]? = some (vr b vs)) (j : Nat) {v : Value} (hv : vs[j]? = some v) : w.frozen? ⟨b, j, none⟩ = false := (S.at_ i h).loose j hv
theorem St.store (S : St w0 w L) (i : Nat) {b : Nat} {vs : List Value} (h : L[i]? = some (vr b vs)) (j : Nat) (v : Value) : St w0 (w.setCell ⟨b, j, none⟩ v) (L.set i (vr b (vs.set j v))) :=
 S.turn i h (vr b (vs.set j v)) (Only.set w (show (vr b vs).foot b from rfl) j v) ((S.at_ i h).set j v) (fun k hk => .inl hk) (show w0.heap.size ≤ b from S.lo i (vr b vs) h) (by have := S.hi i (vr b vs) h; simpa [vr] using this)
theorem St.got {α : Type} {r : Rp α} {x : α} {cs : List Value} {F : List Nat} (S : St w0 w L) (hb : Below w.heap.size w w') (h : r.own w' w.heap.size w'.heap.size x cs F) (hF : F.Nodup) : St w0 w' (ow r w.heap.size w'.heap.size x cs F :: L) :=
 S.add hb (ow r w.heap.size w'.heap.size x cs F) ⟨h, hF⟩ (Nat.le_refl _) (Nat.le_refl _)
end
def Gives {α : Type} (r : Rp α) (w : World) (x : α) (e : Ending) (w' : World) : Prop := ∃ cs F, e = .returned (r.val cs) ∧ r.own w' w.heap.size w'.heap.size x cs F ∧ F.Nodup ∧ Below w.heap.size w w'
theorem St.parts {w0 w : World} {T : List Res} {r : Res} (S : St w0 w (r :: T)) (rs : List Res) (hs : ∀ s ∈ rs, s.says w ∧ (∀ k, s.foot k → r.foot k) ∧ w0.heap.size ≤ s.lo ∧ s.hi ≤ w.heap.size) (ha : rs.Pairwise fun s t => ∀ k, s.foot k → ¬ t.foot k) : St w0 w (rs ++ T) := by
 have key : ∀ (j : Nat) (s : Res), (rs ++ T)[j]? = some s → (j < rs.length ∧ rs[j]? = some s) ∨ (rs.length ≤ j ∧ (r :: T)[j - rs.length + 1]? = some s) := fun j s hj => by
  by_cases h : j < rs.length
  ·
   rw [List.getElem?_append_left h] at hj; exact .inl ⟨h, hj⟩
  ·
   rw [List.getElem?_append_right (by omega)] at hj; exact .inr ⟨by omega, by simpa using hj⟩
 have mem : ∀ {j : Nat} {s : Res}, rs[j]? = some s → s ∈ rs := fun h => List.mem_of_getElem? h
 refine ⟨S.below, fun j s hj => ?_, fun j s hj => ?_, fun j s hj => ?_, fun j j' s t hj hj' hne k hk hk' => ?_⟩
 ·
  rcases key j s hj with ⟨_, h⟩ | ⟨_, h⟩
  ·
   exact (hs s (mem h)).1
  ·
   exact S.says _ s h
 ·
  rcases key j s hj with ⟨_, h⟩ | ⟨_, h⟩
  ·
   exact (hs s (mem h)).2.2.1
  ·
   exact S.lo _ s h
 ·
  rcases key j s hj with ⟨_, h⟩ | ⟨_, h⟩
  ·
   exact (hs s (mem h)).2.2.2
  ·
   exact S.hi _ s h
 ·
  rcases key j s hj with ⟨l1, h⟩ | ⟨l1, h⟩
  ·
   rcases key j' t hj' with ⟨l2, h'⟩ | ⟨l2, h'⟩
   ·
    have hp := List.pairwise_iff_getElem.1 ha
    obtain ⟨x1, e1⟩ := List.getElem?_eq_some_iff.1 h
    obtain ⟨x2, e2⟩ := List.getElem?_eq_some_iff.1 h'
    rcases Nat.lt_or_gt_of_ne hne with x | x
    ·
     exact hp j j' x1 x2 x k (by rw [e1]; exact hk) (by rw [e2]; exact hk')
    ·
     exact hp j' j x2 x1 x k (by rw [e2]; exact hk') (by rw [e1]; exact hk)
   ·
    exact S.apart 0 _ r t rfl h' (by omega) k ((hs s (mem h)).2.1 k hk) hk'
  ·
   rcases key j' t hj' with ⟨l2, h'⟩ | ⟨l2, h'⟩
   ·
    exact S.apart 0 _ r s rfl h (by omega) k ((hs t (mem h')).2.1 k hk') hk
   ·
    exact S.apart _ _ s t h h' (by omega) k hk hk'
theorem St.disj {α β : Type} {w0 w : World} {L : List Res} {r : Rp α} {q : Rp β} {lo hi lo' hi' : Nat} {x : α} {y : β} {cs cs' : List Value} {F G : List Nat} (S : St w0 w L) (i j : Nat) (h : L[i]? = some (ow r lo hi x cs F)) (h' : L[j]? = some (ow q lo' hi' y cs' G)) (hne : i ≠ j) : ∀ k ∈ F, k ∉ G := fun k hk hk' => by
 have h1 := r.inF (S.at_ i h).1 k hk
 have h2 := q.inF (S.at_ j h').1 k hk'
 exact S.apart i j _ _ h h' hne k ⟨hk, h1⟩ ⟨hk', h2⟩
theorem St.own {α : Type} {w0 w : World} {L : List Res} {r : Rp α} {lo hi : Nat} {x : α} {cs : List Value} {F : List Nat} (S : St w0 w L) (i : Nat) (h : L[i]? = some (ow r lo hi x cs F)) : r.own w w0.heap.size w.heap.size x cs F :=
 r.owide (S.at_ i h).1 (S.lo i _ h) (S.hi i _ h)
theorem St.nodup {α : Type} {w0 w : World} {L : List Res} {r : Rp α} {lo hi : Nat} {x : α} {cs : List Value} {F : List Nat} (S : St w0 w L) (i : Nat) (h : L[i]? = some (ow r lo hi x cs F)) : F.Nodup := (S.at_ i h).2
theorem St.reads {α : Type} {w0 w : World} {L : List Res} {r : Rp α} {lo hi : Nat} {x : α} {cs : List Value} {F : List Nat} (S : St w0 w L) (i : Nat) (h : L[i]? = some (ow r lo hi x cs F)) : r.rd w 0 w.heap.size x cs :=
 r.wide (r.reads (S.own i h)) (Nat.zero_le _) (Nat.le_refl _)
theorem St.old {α : Type} {w0 w : World} {L : List Res} {r : Rp α} {x : α} {cs : List Value} (S : St w0 w L) (h : r.rd w0 0 w0.heap.size x cs) : r.rd w 0 w.heap.size x cs :=
 r.wide (rd_below h S.below (Nat.le_refl _)) (Nat.le_refl _) S.below.size
theorem nodup_app {F G : List Nat} (hF : F.Nodup) (hG : G.Nodup) (h : ∀ k ∈ F, k ∉ G) : (F ++ G).Nodup := List.nodup_append.2 ⟨hF, hG, fun a ha b hb e => h a ha (e ▸ hb)⟩
theorem not_app {k : Nat} {F G : List Nat} (h : k ∉ F) (h' : k ∉ G) : k ∉ F ++ G := fun x => (List.mem_append.1 x).elim h h'
theorem ownsRow_keep {w w' : World} {base size n : Nat} {e : TypeId} {v : Value} {xs : List Value} (h : w.ownsRow base e size v n xs) (hk : ∀ k, v.ownBlock = some k → w'.heap[k]? = w.heap[k]?) : w'.ownsRow base e size v n xs := by
 obtain ⟨h1, h2⟩ := h
 refine ⟨h1, ?_⟩
 rcases h2 with h2 | ⟨g, cap, cur, hv, hg, hh, r⟩
 ·
  exact .inl h2
 ·
  exact .inr ⟨g, cap, cur, hv, hg, (hk g (by rw [hv]; rfl)).trans hh, r⟩
theorem ownsRow_low {w : World} {base base' size n : Nat} {e : TypeId} {v : Value} {xs : List Value} (h : w.ownsRow base e size v n xs) (hb : base' ≤ base) : w.ownsRow base' e size v n xs := by
 obtain ⟨h1, h2⟩ := h
 refine ⟨h1, ?_⟩
 rcases h2 with h2 | ⟨g, cap, cur, hv, hg, r⟩
 ·
  exact .inl h2
 ·
  exact .inr ⟨g, cap, cur, hv, Nat.le_trans hb hg, r⟩
theorem row_form {w : World} {base size n : Nat} {e : TypeId} {v : Value} {xs : List Value} (h : w.ownsRow base e size v n xs) : ∃ A c, v = .slice A n c ∧ n ≤ c := by
 rcases h.2 with ⟨rfl, rfl⟩ | ⟨g, cap, cur, rfl, _, _, hc, _⟩
 ·
  exact ⟨none, 0, rfl, Nat.le_refl _⟩
 ·
  exact ⟨_, cap, rfl, hc⟩
theorem row_lies {w : World} {base size n c hi : Nat} {e : TypeId} {A : Option Addr} {xs : List Value} (h : w.ownsRow base e size (.slice A n c) n xs) (hh : ∀ k, (Value.slice A n c).ownBlock = some k → k < hi) : Owned w base hi A xs := by
 have o := Owned.of_row h
 refine ⟨fun j u hu => ?_, o.2⟩
 obtain ⟨b, off, e1, x, y, z⟩ := o.1 j u hu
 exact ⟨b, off, e1, x, hh b (by rw [e1]; rfl), z⟩
def rdLst {α : Type} (r : Rp α) (w : World) (lo hi : Nat) (xs : List α) (cs : List Value) : Prop := ∃ A c ds, cs = [.slice A xs.length c] ∧ xs.length ≤ c ∧ rdAll r w lo hi xs ds ∧ Lies w lo hi A ds
theorem rdLst.kept {α : Type} {r : Rp α} {w w' : World} {lo hi : Nat} {xs : List α} {cs : List Value} (h : rdLst r w lo hi xs cs) (hb : ∀ k, lo ≤ k → k < hi → w'.heap[k]? = w.heap[k]?) : rdLst r w' lo hi xs cs := by
 obtain ⟨A, c, ds, e, hc, h1, h2⟩ := h
 exact ⟨A, c, ds, e, hc, rdAll_kept hb h1, h2.kept hb⟩
theorem rdLst.wide {α : Type} {r : Rp α} {w : World} {lo hi lo' hi' : Nat} {xs : List α} {cs : List Value} (h : rdLst r w lo hi xs cs) (a : lo' ≤ lo) (b : hi ≤ hi') : rdLst r w lo' hi' xs cs := by
 obtain ⟨A, c, ds, e, hc, h1, h2⟩ := h
 exact ⟨A, c, ds, e, hc, rdAll_wide a b h1, h2.wide a b⟩
def rLsw {α : Type} (r : Rp α) : Rp (List α) where
 sz := 1
 val cs := cs.headD undef
 rd := rdLst r
 own w lo hi xs cs F := ∃ A c ds F1, cs = [.slice A xs.length c] ∧ xs.length ≤ c ∧ F = blks A ds ++ F1 ∧ ownAll r w lo hi xs ds F1 ∧ Owned w lo hi A ds
 wf xs := xs.length ≤ maxLen ∧ ∀ x ∈ xs, r.wf x
 cap xs := xs.length ≤ 1048576 ∧ ∀ x ∈ xs, r.cap x
 size xs := xs.length + sizeAll r xs
 cnt xs := cntAll r xs
 mark k xs := mkAll r k xs
 tcnt xs := cntAll r xs
 top k xs := mkAll r k xs
 len h := by obtain ⟨A, c, ds, rfl, _⟩ := h; rfl
 kept h hb := h.kept hb
 wide h a b := h.wide a b
 reads h := by
  obtain ⟨A, c, ds, F1, e, hc, _, h1, h2⟩ := h
  exact ⟨A, c, ds, e, hc, ownAll_reads h1, h2.1⟩
 okept h hb := by
  obtain ⟨A, c, ds, F1, e, hc, rfl, h1, h2⟩ := h
  exact ⟨A, c, ds, F1, e, hc, rfl, ownAll_kept h1 fun k hk => hb k (by simp [hk]), owned_agree h2 fun k hk => hb k (by simp [hk])⟩
 owide h a b := by
  obtain ⟨A, c, ds, F1, e, hc, f, h1, h2⟩ := h
  exact ⟨A, c, ds, F1, e, hc, f, ownAll_wide a b h1, h2.wide a b⟩
 inF h k hk := by
  obtain ⟨A, c, ds, F1, e, hc, rfl, h1, h2⟩ := h
  rcases List.mem_append.1 hk with hk | hk
  ·
   exact blks_in h2 hk
  ·
   exact ownAll_inF h1 k hk
def rLst {α : Type} (e : TypeId) (r : Rp α) : Rp (List α) where
 sz := 1
 val cs := cs.headD undef
 rd := rdLst r
 own w lo hi xs cs F := ∃ v ds F1, cs = [v] ∧ F = v.ownBlock.toList ++ F1 ∧ ownAll r w lo hi xs ds F1 ∧ w.ownsRow lo e r.sz v xs.length ds ∧ (∀ k, v.ownBlock = some k → k < hi)
 wf xs := xs.length ≤ maxLen ∧ ∀ x ∈ xs, r.wf x
 cap xs := xs.length ≤ 1048576 ∧ ∀ x ∈ xs, r.cap x
 size xs := xs.length + sizeAll r xs
 cnt xs := cntAll r xs
 mark k xs := mkAll r k xs
 tcnt xs := cntAll r xs
 top k xs := mkAll r k xs
 len h := by obtain ⟨A, c, ds, rfl, _⟩ := h; rfl
 kept h hb := h.kept hb
 wide h a b := h.wide a b
 reads h := by
  obtain ⟨v, ds, F1, e1, _, h1, h2, h3⟩ := h
  obtain ⟨A, c, rfl, hc⟩ := row_form h2
  exact ⟨A, c, ds, e1, hc, ownAll_reads h1, (row_lies h2 h3).1⟩
 okept h hb := by
  obtain ⟨v, ds, F1, e1, rfl, h1, h2, h3⟩ := h
  exact ⟨v, ds, F1, e1, rfl, ownAll_kept h1 fun k hk => hb k (by simp [hk]), ownsRow_keep h2 fun k hk => hb k (by simp [hk]), h3⟩
 owide h a b := by
  obtain ⟨v, ds, F1, e1, f, h1, h2, h3⟩ := h
  exact ⟨v, ds, F1, e1, f, ownAll_wide a b h1, ownsRow_low h2 a, fun k hk => Nat.lt_of_lt_of_le (h3 k hk) b⟩
 inF h k hk := by
  obtain ⟨v, ds, F1, e1, rfl, h1, h2, h3⟩ := h
  rcases List.mem_append.1 hk with hk | hk
  ·
   have hk' : v.ownBlock = some k := by simpa using hk
   exact ⟨(h2.lt k hk').1, h3 k hk'⟩
  ·
   exact ownAll_inF h1 k hk
theorem lst_own {α : Type} {e : TypeId} {r : Rp α} {w : World} {lo hi : Nat} {xs : List α} {cs : List Value} {F : List Nat} (h : (rLst e r).own w lo hi xs cs F) : ∃ v, cs = [v] := by
 obtain ⟨v, _, _, e, _⟩ := h
 exact ⟨v, e⟩
theorem lsw_own {α : Type} {r : Rp α} {w : World} {lo hi : Nat} {xs : List α} {cs : List Value} {F : List Nat} (h : (rLsw r).own w lo hi xs cs F) : ∃ v, cs = [v] := by
 obtain ⟨A, c, _, _, e, _⟩ := h
 exact ⟨_, e⟩
theorem lst_rd {α : Type} {r : Rp α} {w : World} {lo hi : Nat} {xs : List α} {cs : List Value} (h : rdLst r w lo hi xs cs) : ∃ v, cs = [v] := by
 obtain ⟨A, c, _, e, _⟩ := h
 exact ⟨_, e⟩
theorem lst_val {α : Type} {r : Rp α} {w : World} {lo hi : Nat} {xs : List α} {v : Value} (h : rdLst r w lo hi xs [v]) : ∃ A c, v = .slice A xs.length c ∧ xs.length ≤ c := by
 obtain ⟨A, c, ds, e, hc, _⟩ := h
 cases e
 exact ⟨A, c, rfl, hc⟩
theorem lst_weak {α : Type} {e : TypeId} {r : Rp α} {w : World} {lo hi : Nat} {xs : List α} {cs : List Value} {F : List Nat} (h : (rLst e r).own w lo hi xs cs F) (hF : F.Nodup) : ∃ G, (rLsw r).own w lo hi xs cs G ∧ G.Nodup ∧ ∀ k ∈ G, k ∈ F := by
 obtain ⟨v, ds, F1, rfl, rfl, h1, h2, h3⟩ := h
 obtain ⟨A, c, rfl, hc⟩ := row_form h2
 obtain ⟨_, n1, n2⟩ := List.nodup_append.1 hF
 have hb : ∀ k ∈ blks A ds, (Value.slice A xs.length c).ownBlock = some k := fun k hk => by
  unfold blks at hk
  split at hk
  ·
   cases hk
  ·
   cases A with
   | none => simp at hk
   | some a => simp at hk; rw [hk]; rfl
 refine ⟨blks A ds ++ F1, ⟨A, c, ds, F1, rfl, hc, rfl, h1, row_lies h2 h3⟩, List.nodup_append.2 ⟨?_, n1, fun a ha b hb' e => n2 a (by simp [hb a ha]) b hb' e⟩, fun k hk => ?_⟩
 ·
  unfold blks
  split
  ·
   simp
  ·
   cases A <;> simp
 ·
  rcases List.mem_append.1 hk with hk | hk
  ·
   simp [hb k hk]
  ·
   simp [hk]
theorem St.weak {α : Type} {e : TypeId} {r : Rp α} {w0 w : World} {L : List Res} {lo hi : Nat} {xs : List α} {cs : List Value} {F : List Nat} (S : St w0 w L) (i : Nat) (h : L[i]? = some (ow (rLst e r) lo hi xs cs F)) : ∃ G, St w0 w (L.set i (ow (rLsw r) lo hi xs cs G)) := by
 obtain ⟨h1, h2⟩ := S.at_ i h
 obtain ⟨G, h3, h4, h5⟩ := lst_weak h1 h2
 exact ⟨G, S.turn i h (ow (rLsw r) lo hi xs cs G) (Only.refl _ _) ⟨h3, h4⟩ (fun k hk => .inl ⟨h5 k hk.1, hk.2⟩) (S.lo i (ow (rLst e r) lo hi xs cs F) h) (S.hi i (ow (rLst e r) lo hi xs cs F) h)⟩
def pcells (l : List (Int × Int)) : List Value := l.flatMap fun s => [.int .i64 s.1, .int .i64 s.2]
theorem p2_cells {w : World} {lo hi : Nat} : ∀ {l : List (Int × Int)} {ds : List Value}, rdAll (rPair rInt rInt) w lo hi l ds → ds = pcells l
 | [], ds, h => h
 | s :: l, ds, h => by
  obtain ⟨c1, c2, rfl, ⟨a, b, rfl, ha, hb⟩, h2⟩ := h
  rw [show a = _ from ha, show b = _ from hb, p2_cells h2]
  rfl
theorem p2_all (w : World) (lo hi : Nat) : ∀ (l : List (Int × Int)), rdAll (rPair rInt rInt) w lo hi l (pcells l)
 | [] => rfl
 | s :: l => ⟨[.int .i64 s.1, .int .i64 s.2], pcells l, rfl, ⟨_, _, rfl, rfl, rfl⟩, p2_all w lo hi l⟩
def icells (l : List Int) : List Value := l.map fun n => .int .i64 n
theorem i1_cells {w : World} {lo hi : Nat} : ∀ {l : List Int} {ds : List Value}, rdAll rInt w lo hi l ds → ds = icells l
 | [], ds, h => h
 | s :: l, ds, h => by
  obtain ⟨c1, c2, rfl, h1, h2⟩ := h
  rw [show c1 = _ from h1, i1_cells h2]
  rfl
theorem p2_lies {w : World} {lo hi n c : Nat} {A : Option Addr} {l : List (Int × Int)} (h : rdLst (rPair rInt rInt) w lo hi l [.slice A n c]) : Lies w lo hi A (pcells l) := by
 obtain ⟨A', c', ds, e, _, h1, h2⟩ := h
 cases e
 rwa [p2_cells h1] at h2
theorem i1_lies {w : World} {lo hi n c : Nat} {A : Option Addr} {l : List Int} (h : rdLst rInt w lo hi l [.slice A n c]) : Lies w lo hi A (icells l) := by
 obtain ⟨A', c', ds, e, _, h1, h2⟩ := h
 cases e
 rwa [i1_cells h1] at h2
theorem p2_own {w : World} {lo hi c : Nat} {A : Option Addr} {l : List (Int × Int)} (hc : l.length ≤ c) (h : Owned w lo hi A (pcells l)) : (rLsw (rPair rInt rInt)).own w lo hi l [.slice A l.length c] (blks A (pcells l)) ∧ (blks A (pcells l)).Nodup :=
 ⟨⟨A, c, pcells l, [], rfl, hc, by simp, (show ∀ l : List (Int × Int), ownAll (rPair rInt rInt) w lo hi l (pcells l) [] from fun l => by
  induction l with
  | nil => exact ⟨rfl, rfl⟩
  | cons s l ih => exact ⟨[.int .i64 s.1, .int .i64 s.2], pcells l, [], [], rfl, rfl, ⟨_, _, [], [], rfl, rfl, ⟨rfl, rfl⟩, ⟨rfl, rfl⟩⟩, ih⟩) l, h⟩, by
  unfold blks
  split
  ·
   simp
  ·
   cases A <;> simp⟩
end Go.Proofs.YtmiokacihcpepaaGreat.Stt
namespace Go.Proofs.YtmiokacihcpepaaGreat.App
set_option maxHeartbeats 8000000
set_option maxRecDepth 100000
set_option maxRecDepth 100000
open Go.ChangeShapes Go.WideShapes Go.ChangeAt Go.RowKit
open Go.Proofs.YtmiokacihcpepaaGreat.Base Go.Proofs.YtmiokacihcpepaaGreat.Mem
set_option linter.unusedVariables false
section
variable {P : Program}
end
theorem Lies.src {w : World} {lo hi : Nat} {A : Option Addr} {cs : List Value} (h : Lies w lo hi A cs) : ∀ j u, cs[j]? = some u → ∃ ad, A = some ad ∧ w.cell? (ad.add j) = some u := fun j u hu => by
 obtain ⟨b, off, e, _, _, z⟩ := h j u hu
 refine ⟨_, e, ?_⟩
 rw [Addr.add_lit]
 exact z
end Go.Proofs.YtmiokacihcpepaaGreat.App
namespace Go.Proofs.YtmiokacihcpepaaGreat.Stt
set_option maxHeartbeats 8000000
set_option maxRecDepth 100000
set_option maxRecDepth 100000
open Go.ChangeShapes Go.WideShapes Go.ChangeAt Go.RowKit Go.Deep
open Go.Proofs.YtmiokacihcpepaaGreat.Base Go.Proofs.YtmiokacihcpepaaGreat.Mem Go.Proofs.YtmiokacihcpepaaGreat.Data
set_option linter.unusedVariables false
section
variable {P : Program} {w0 w w' : World} {L : List Res}
theorem Var.setCells {b : Nat} : ∀ (us vs : List Value) (o : Nat) (w : World), Var w b vs → Var (w.setCells b o us) b (us.foldl (fun (p : List Value × Nat) u => (p.1.set p.2 u, p.2 + 1)) (vs, o)).1
 | [], vs, o, w, h => h
 | u :: us, vs, o, w, h => by
  rw [World.setCells, List.foldl_cons]
  exact Var.setCells us (vs.set o u) (o + 1) _ (h.set o u)
theorem Only.setCells {f : Nat → Prop} {b : Nat} (hf : f b) : ∀ (us : List Value) (o : Nat) (w : World), Only f w (w.setCells b o us)
 | [], o, w => Only.refl _ _
 | u :: us, o, w => by
  rw [World.setCells]
  exact (Only.set w hf o u).trans (Only.setCells hf us (o + 1) _)
theorem setCells_size {b : Nat} : ∀ (us : List Value) (o : Nat) (w : World), (w.setCells b o us).heap.size = w.heap.size
 | [], o, w => rfl
 | u :: us, o, w => by rw [World.setCells, setCells_size us]; simp
structure Flat {α : Type} (r : Rp α) : Prop where
 own : ∀ {w : World} {lo hi : Nat} {x : α} {cs : List Value} (w' : World) (lo' hi' : Nat), r.rd w lo hi x cs → r.own w' lo' hi' x cs []
 one : ∀ {w : World} {lo hi : Nat} {x : α} {cs : List Value}, r.rd w lo hi x cs → ∀ u ∈ cs, u.oneCell' = true
theorem flat_int : Flat rInt := ⟨fun w' lo' hi' h => ⟨h, rfl⟩, fun h u hu => by rw [show _ = _ from h] at hu; simp at hu; subst hu; rfl⟩
theorem flat_pair {α β : Type} {r : Rp α} {q : Rp β} (hr : Flat r) (hq : Flat q) : Flat (rPair r q) :=
 ⟨fun w' lo' hi' h => by
  obtain ⟨c1, c2, e, h1, h2⟩ := h
  exact ⟨c1, c2, [], [], e, rfl, hr.own w' lo' hi' h1, hq.own w' lo' hi' h2⟩, fun h u hu => by
  obtain ⟨c1, c2, e, h1, h2⟩ := h
  rw [e] at hu
  exact (List.mem_append.1 hu).elim (hr.one h1 u) (hq.one h2 u)⟩
theorem flat_P2 : Flat (rPair rInt rInt) := flat_pair flat_int flat_int
theorem flat_all {α : Type} {r : Rp α} (hf : Flat r) {w : World} {lo hi : Nat} (w' : World) (lo' hi' : Nat) : ∀ {xs : List α} {ds : List Value}, rdAll r w lo hi xs ds → ownAll r w' lo' hi' xs ds []
 | [], ds, h => ⟨h, rfl⟩
 | x :: xs, ds, h => by
  obtain ⟨c1, c2, e, h1, h2⟩ := h
  exact ⟨c1, c2, [], [], e, rfl, hf.own w' lo' hi' h1, flat_all hf w' lo' hi' h2⟩
theorem flat_ones {α : Type} {r : Rp α} (hf : Flat r) {w : World} {lo hi : Nat} : ∀ {xs : List α} {ds : List Value}, rdAll r w lo hi xs ds → ∀ u ∈ ds, u.oneCell' = true
 | [], ds, h, u, hu => by rw [show ds = [] from h] at hu; cases hu
 | x :: xs, ds, h, u, hu => by
  obtain ⟨c1, c2, e, h1, h2⟩ := h
  rw [e] at hu
  exact (List.mem_append.1 hu).elim (hf.one h1 u) (flat_ones hf h2 u)
theorem St.fresh {α : Type} (S : St w0 w L) (e : TypeId) (r : Rp α) : St w0 (w.alloc (.cells #[] e)) (ow (rLst e r) w.heap.size (w.alloc (.cells #[] e)).heap.size [] [.slice (some ⟨w.heap.size, 0, none⟩) 0 0] [w.heap.size] :: L) :=
 S.add ((Below.refl _ _).alloc (Nat.le_refl _) _) _ ⟨⟨_, [], [], rfl, rfl, ⟨rfl, rfl⟩, World.ownsRow_made w #[] 0 (Nat.le_refl _) (Nat.zero_le _) (by simp), fun k hk => by cases hk; simp⟩, by simp⟩ (Nat.le_refl _) (Nat.le_refl _)
theorem run_app (w : World) (base : Nat) (t ty e : TypeId) (i : TypeInfo) (z : Value) (size bytes : Nat) (ht : P.underlying t = some (.slice e)) (hi : P.info? e = some i) (hz : i.zero = some z)
  (hsize : i.size = size) (hby : i.bytes = bytes) (hzs : z.cells.size = size) (hsz : 0 < size) (v : Value) (n : Nat) (xs : List Value) (hown : w.ownsRow base e size v n xs)
  (A : Option Addr) (m c : Nat) (news : List Value) (hl : news.length = m * size) (hsrc : ∀ j u, news[j]? = some u → ∃ ad, A = some ad ∧ w.cell? (ad.add j) = some u) (h1 : ∀ u ∈ news, u.oneCell' = true)
  (h63 : n + m ≤ maxLen) (hbytes : (n + m) * bytes ≤ 140737488355328) (hbase : base ≤ w.heap.size) :
  ∃ v' w', (Builtin.append_ #[t, t] ty #[v, .slice A m c]).run P w = .ok v' w' ∧ w'.ownsRow base e size v' (n + m) (xs ++ news) ∧ w.grownBy w' v.ownBlock ∧ (v'.ownBlock = v.ownBlock ∨ v'.ownBlock = some w.heap.size) := by
 rcases A with _ | ad
 ·
  have hn : news = [] := by
   rcases news with _ | ⟨u, r⟩
   ·
    rfl
   ·
    obtain ⟨ad, h, _⟩ := hsrc 0 u rfl
    cases h
  subst hn
  have hm : m = 0 := by
   rcases Nat.eq_zero_or_pos m with h | h
   ·
    exact h
   ·
    have := Nat.mul_pos h hsz
    simp at hl
    omega
  subst hm
  obtain ⟨A', c', rfl, hc⟩ := row_form hown
  refine ⟨_, w, ?_, by simpa using hown, World.grownBy.refl w _, .inl rfl⟩
  simp [Builtin.append_, run_underlying ht, sizeOf, typeInfo, hi, Builtin.lenOf, Builtin.firstCells, storeCells, hc]
  cases A' <;> rfl
 ·
  obtain ⟨v', w', hr, h2, h3, _, h5⟩ := run_append_own_at (P := P) w base t ty e i z size bytes ht hi hz hsize hby hzs hsz v n xs hown ad m c news hl
   (fun j u hu => by
    obtain ⟨ad', h, hc⟩ := hsrc j u hu
    cases h
    exact hc) h1 h63 hbytes hbase
  exact ⟨v', w', hr, h2, h3, h5⟩
theorem app_claim {α : Type} {r : Rp α} {e : TypeId} {w w' : World} {b0 lo hi : Nat} {xs ys : List α} {v v' : Value} {F G : List Nat} {news : List Value} (hnd : F.Nodup) (hb : b0 ≤ lo) (hb2 : hi ≤ w.heap.size)
  {ds : List Value} {F1 : List Nat} (hF : F = v.ownBlock.toList ++ F1) (hall : ownAll r w lo hi xs ds F1) (hrow : w.ownsRow lo e r.sz v xs.length ds)
  {lo2 hi2 : Nat} (hnew : ownAll r w lo2 hi2 ys news G) (hG : G.Nodup) (hFG : ∀ q ∈ F, q ∉ G) (hb3 : b0 ≤ lo2) (hb4 : hi2 ≤ w.heap.size)
  (hown : w'.ownsRow b0 e r.sz v' (xs.length + ys.length) (ds ++ news)) (hgr : w.grownBy w' v.ownBlock) (hat : v'.ownBlock = v.ownBlock ∨ v'.ownBlock = some w.heap.size) :
  (rLst e r).own w' b0 w'.heap.size (xs ++ ys) [v'] (v'.ownBlock.toList ++ (F1 ++ G)) ∧ (v'.ownBlock.toList ++ (F1 ++ G)).Nodup := by
 subst hF
 obtain ⟨_, n1, n2⟩ := List.nodup_append.1 hnd
 have hF1 : ∀ q ∈ F1, lo ≤ q ∧ q < hi := fun q hq => ownAll_inF hall q hq
 have hG1 : ∀ q ∈ G, lo2 ≤ q ∧ q < hi2 := fun q hq => ownAll_inF hnew q hq
 have k1 : ∀ q ∈ F1, w'.heap[q]? = w.heap[q]? := fun q hq => hgr.block q (by have := hF1 q hq; omega) (fun e => n2 q (by simp [← e]) q hq rfl)
 have k2 : ∀ q ∈ G, w'.heap[q]? = w.heap[q]? := fun q hq => hgr.block q (by have := hG1 q hq; omega) (fun e => hFG q (by simp [← e]) hq)
 refine ⟨⟨v', ds ++ news, F1 ++ G, rfl, rfl, ownAll_append (ownAll_wide hb (Nat.le_trans hb2 hgr.size) (ownAll_kept hall k1)) (ownAll_wide hb3 (Nat.le_trans hb4 hgr.size) (ownAll_kept hnew k2)), by simpa using hown, fun q hq => (hown.lt q hq).2⟩, nodup_app ?_ (nodup_app n1 hG fun q hq => hFG q (by simp [hq])) fun q hq => ?_⟩
 ·
  cases v'.ownBlock <;> simp
 ·
  have hq' : v'.ownBlock = some q := by simpa using hq
  rcases hat with h | h
  ·
   rw [h] at hq'
   exact not_app (fun h' => n2 q (by simp [hq']) q h' rfl) (hFG q (by simp [hq']))
  ·
   rw [h] at hq'
   cases hq'
   exact not_app (fun h' => by have := hF1 _ h'; omega) (fun h' => by have := hG1 _ h'; omega)
theorem wpList_apps {α : Type} {r : Rp α} {e : TypeId} {ops : Array Oper} {rest : List Oper} {o : Oper} {a : Act} {Q : Exit → Act → World → Prop} (S : St w0 w L) (k : Nat) {lo hi : Nat} {xs : List α} {v : Value} {F : List Nat} (hk : L[k]? = some (ow (rLst e r) lo hi xs [v] F))
  {ys zs : List α} {vx : Value} (hxs : rdLst r w 0 w.heap.size ys [vx]) (hzz : xs ++ ys = zs) (m : Nat) (hm : zs.length = m) (hf : Flat r)
  (hgd : o.guard = none) (s x : Operand) (t : TypeId) (ho : o.op = .call { callee := .builtin .append, args := #[s, x], argTypes := #[t, t] })
  (i : TypeInfo) (z : Value) (size bytes : Nat) (ht : P.underlying t = some (.slice e)) (hi' : P.info? e = some i) (hz : i.zero = some z) (hsize : i.size = size) (hby : i.bytes = bytes) (hzs : z.cells.size = size) (hsz : 0 < size) (hr : r.sz = size)
  (hs : a.eval s = v) (hx : a.eval x = vx) (h63 : xs.length + ys.length ≤ maxLen) (hbytes : (xs.length + ys.length) * bytes ≤ 140737488355328)
  (h : ∀ A c F' w', m ≤ c → St w0 w' (L.set k (ow (rLst e r) w0.heap.size w'.heap.size zs [.slice A m c] F')) → wpList P ops Q rest (a.put o.dst (.slice A m c)) w') : wpList P ops Q (o :: rest) a w := by
 subst hm
 obtain ⟨⟨v', ds0, F1, e1, hF, hall, hrow, hhi⟩, hnd⟩ := S.at_ k hk
 cases e1
 have hlo' : w0.heap.size ≤ lo := S.lo k _ hk
 have hhi' : hi ≤ w.heap.size := S.hi k _ hk
 obtain ⟨A, c, ds, e2, hc, hrd, hl⟩ := hxs
 cases e2
 have hlen := rdAll_len hrd
 subst hr hzz
 refine wpList_plain hgd fun K hK => ?_
 obtain ⟨v', w', hrun, hown, hgr, hat⟩ := run_app (P := P) w w0.heap.size t o.type e i z r.sz bytes ht hi' hz hsize hby hzs hsz v xs.length ds0 (ownsRow_low hrow hlo') A ys.length c ds hlen (fun j u hu => by
  obtain ⟨b, off, e, _, _, hcell⟩ := hl j u hu
  exact ⟨_, e, by rw [Addr.add_lit]; exact hcell⟩) (flat_ones hf hrd) h63 hbytes S.below.size
 unfold Oper.wp execOp
 simp only [ho, resolve, invoke, builtin, Sem.run_bind, Sem.run_pure, Result.andThen_ok, List.map_toArray, List.map_cons, List.map_nil, hs, hx, hrun]
 have hcl := app_claim (b0 := w0.heap.size) hnd hlo' hhi' hF hall hrow (flat_all hf w w0.heap.size w.heap.size hrd) (by simp) (fun q _ => by simp) (Nat.le_refl _) (Nat.le_refl _) hown hgr hat
 obtain ⟨A', c', rfl, hc'⟩ := row_form hown
 rw [← List.length_append] at hcl hc' ⊢
 have hfoot : ∀ q, v.ownBlock = some q → (ow (rLst e r) lo hi xs [v] F).foot q := fun q hq => ⟨by rw [hF]; simp [hq], (hrow.lt q hq).1, hhi q hq⟩
 refine hK _ _ (h A' c' _ w' hc' (S.turn k hk _ (Only.of_grown hgr hfoot) hcl (fun q hq => ?_) (Nat.le_refl _) (Nat.le_refl _)))
 obtain ⟨hq, _, hq2⟩ := hq
 rw [List.append_nil] at hq
 rcases List.mem_append.1 hq with hq | hq
 ·
  have hq' : (Value.slice A' (xs.length + ys.length) c').ownBlock = some q := by rw [← List.length_append]; simpa using hq
  rcases hat with h5 | h5
  ·
   exact .inl (hfoot q (h5.symm.trans hq'))
  ·
   rw [h5] at hq'; cases hq'; right; exact Nat.le_refl _
 ·
  have := ownAll_inF hall q hq
  exact .inl ⟨by rw [hF]; simp [hq], this⟩
theorem St.box {α : Type} {r : Rp α} (S : St w0 w L) (i : Nat) {b : Nat} {vs : List Value} (h : L[i]? = some (vr b vs)) {x : α} (hx : r.rd w 0 w.heap.size x vs) (c : Nat) (hc : 1 ≤ c) : rdLst r w 0 w.heap.size [x] [.slice (some ⟨b, 0, none⟩) 1 c] :=
 ⟨_, c, vs, rfl, hc, rdAll_one hx, fun j u hu => ⟨b, 0, rfl, Nat.zero_le _, (S.at_ i h).2, by rw [Nat.zero_add]; exact S.cell i h j hu⟩⟩
theorem St.nil {α : Type} (S : St w0 w L) (e : TypeId) (r : Rp α) : St w0 w (ow (rLst e r) w.heap.size w.heap.size [] [.slice none 0 0] [] :: L) :=
 S.add (Below.refl _ _) _ ⟨⟨.slice none 0 0, [], [], rfl, rfl, ⟨rfl, rfl⟩, World.ownsRow_nil _ _ _ _, fun k hk => by cases hk⟩, by simp⟩ (Nat.le_refl _) (Nat.le_refl _)
theorem St.gotp {A : Option Addr} {l : List (Int × Int)} {c : Nat} (S : St w0 w L) (hb : Below w.heap.size w w') (hc : l.length ≤ c) (h : Owned w' w.heap.size w'.heap.size A (pcells l)) : St w0 w' (ow (rLsw (rPair rInt rInt)) w.heap.size w'.heap.size l [.slice A l.length c] (blks A (pcells l)) :: L) :=
 S.got hb (p2_own hc h).1 (p2_own hc h).2
theorem St.range (S : St w0 w L) (i : Nat) {b : Nat} {vs : List Value} (h : L[i]? = some (vr b vs)) : w.rangeAt b 0 vs := fun j v hv => by rw [Nat.zero_add]; exact S.cell i h j hv
end
end Go.Proofs.YtmiokacihcpepaaGreat.Stt
namespace Go.Proofs.YtmiokacihcpepaaGreat.Ord
set_option maxHeartbeats 8000000
set_option maxRecDepth 100000
set_option maxRecDepth 100000
open Go.RowKit
inductive Ot where
 | nil : Ot
 | take : Nat → Ot → Ot
 | alone : Nat → Ot → Ot
 | two : Nat → Ot → Nat → Ot → Ot
section
variable {P : Program} {ops : Array Oper} {Q : Exit → Act → World → Prop} {S : World → Prop}
def ordT (ops : Array Oper) : Nat → Ot → Array Bool → Bool
 | 0, .nil, listed => (Region.ready .any ops listed).isEmpty
 | f + 1, .take i r, listed => (Region.ready .any ops listed).contains i && Region.free .any ops listed i && ordT ops f r (listed.setIfInBounds i true)
 | f + 1, .alone i r, listed => decide (Region.ready .any ops listed = [i]) && ordT ops f r (listed.setIfInBounds i true)
 | f + 1, .two i r j s, listed => decide (Region.ready .any ops listed = [i, j]) && ordT ops f r (listed.setIfInBounds i true) && ordT ops f s (listed.setIfInBounds j true)
 | _, _, _ => false
def wpOt (P : Program) (ops : Array Oper) (Q : Exit → Act → World → Prop) (S : World → Prop) : Ot → Act → World → Prop
 | .nil, a, w => Q .normal a w
 | .take i r, a, w => ∃ o, ops[i]? = some o ∧ ∃ v, YieldsIf P ops S o v a ∧ wpOt P ops Q S r (a.put o.dst v) w
 | .alone i r, a, w => ∃ o, ops[i]? = some o ∧ ∀ K' : Act → World → Prop, Shut (∀ a w, S w → wpOt P ops Q S r a w → K' a w) → if Region.wanted o (yielded ops a.tmps) = true then Oper.wp P o a w K' Q else K' (a.put o.dst undef) w
 | .two i r j s, a, w => (∃ o, ops[i]? = some o ∧ ∀ K' : Act → World → Prop, Shut (∀ a w, S w → wpOt P ops Q S r a w → K' a w) → if Region.wanted o (yielded ops a.tmps) = true then Oper.wp P o a w K' Q else K' (a.put o.dst undef) w) ∧
  (∃ o, ops[j]? = some o ∧ ∀ K' : Act → World → Prop, Shut (∀ a w, S w → wpOt P ops Q S s a w → K' a w) → if Region.wanted o (yielded ops a.tmps) = true then Oper.wp P o a w K' Q else K' (a.put o.dst undef) w)
theorem wpOt_any (hs : Region.noSelect ops = true) (hQ : ∀ (d : Option Tmp) v c a w, Q (.panic c) (Act.put a d v) w → Q (.panic c) a w) :
  ∀ (f : Nat) (t : Ot) (listed : Array Bool) (a : Act) (w : World), ordT ops f t listed = true → S w → wpOt P ops Q S t a w → wpAnyH P .any ops Q S f listed a w
 | 0, .nil, listed, a, w, hB, _, h => ⟨by simpa [ordT] using hB, h⟩
 | f + 1, .take i r, listed, a, w, hB, hS, ⟨o, ho, v, hy, hK⟩ => by
  simp only [ordT, Bool.and_eq_true] at hB
  exact wpAnyH_take ho hs hB.1.2 hB.1.1 (fun c a w => hQ o.dst v c a w) hy hS (wpOt_any hs hQ f r _ _ _ hB.2 hS hK)
 | f + 1, .alone i r, listed, a, w, hB, hS, ⟨o, ho, h⟩ => by
  simp only [ordT, Bool.and_eq_true, decide_eq_true_eq] at hB
  refine wpAnyH_all hB.1 (by simp) fun j hj => ?_
  have hj' : j = i := by simpa using hj
  subst hj'
  exact wpOp_step ho (fun K' hK => h K' (fun a' w' hS' hW => hK a' w' ⟨hS', wpOt_any hs hQ f r _ _ _ hB.2 hS' hW⟩))
 | f + 1, .two i r j s, listed, a, w, hB, hS, ⟨⟨o, ho, h⟩, ⟨o', ho', h'⟩⟩ => by
  simp only [ordT, Bool.and_eq_true, decide_eq_true_eq] at hB
  refine wpAnyH_all hB.1.1 (by simp) fun k hk => ?_
  simp only [List.mem_cons, List.not_mem_nil, or_false] at hk
  rcases hk with rfl | rfl
  ·
   exact wpOp_step ho (fun K' hK => h K' (fun a' w' hS' hW => hK a' w' ⟨hS', wpOt_any hs hQ f r _ _ _ hB.1.2 hS' hW⟩))
  ·
   exact wpOp_step ho' (fun K' hK => h' K' (fun a' w' hS' hW => hK a' w' ⟨hS', wpOt_any hs hQ f s _ _ _ hB.2 hS' hW⟩))
 | 0, .take _ _, _, _, _, hB, _, _ => by simp [ordT] at hB
 | 0, .alone _ _, _, _, _, hB, _, _ => by simp [ordT] at hB
 | 0, .two _ _ _ _, _, _, _, hB, _, _ => by simp [ordT] at hB
 | _ + 1, .nil, _, _, _, hB, _, _ => by simp [ordT] at hB
theorem wp_region_tree {id : Nat} {a : Act} {w : World} (S : World → Prop) (t : Ot) (hm : P.follows .mixedOrders = true) (hs : Region.noSelect ops = true)
  (hB : ordT ops ops.size t (Array.replicate ops.size false) = true) (hS : S w.drew) (h : wpOt P ops (NoPanic Q) S t a w.drew) : (Code.region id ops true).wp P Q a w :=
 wp_region_noPanic (wp_region_held (S := S) hm (wpOt_any hs (fun _ _ _ _ _ h => h.elim) _ t _ a w.drew hB hS h))
theorem ot_take {i : Nat} {r : Ot} {a : Act} {w : World} {o : Oper} {v : Value} (ho : ops[i]? = some o) (hw : Region.wanted o (yielded ops a.tmps) = true) (hv : ∀ w, S w → (execOp a.eval o).run P w = .ok (.value v) w)
  (h : wpOt P ops Q S r (a.put o.dst v) w) : wpOt P ops Q S (.take i r) a w := ⟨o, ho, v, .inl ⟨hw, hv⟩, h⟩
theorem ot_skip {i : Nat} {r : Ot} {a : Act} {w : World} {o : Oper} (ho : ops[i]? = some o) (hw : Region.wanted o (yielded ops a.tmps) = false)
  (h : wpOt P ops Q S r (a.put o.dst undef) w) : wpOt P ops Q S (.take i r) a w := ⟨o, ho, _, .inr ⟨hw, rfl⟩, h⟩
theorem ot_alone {i : Nat} {r : Ot} {a : Act} {w : World} {o : Oper} (ho : ops[i]? = some o)
  (h : ∀ K' : Act → World → Prop, Shut (∀ a w, S w → wpOt P ops Q S r a w → K' a w) → if Region.wanted o (yielded ops a.tmps) = true then Oper.wp P o a w K' Q else K' (a.put o.dst undef) w) : wpOt P ops Q S (.alone i r) a w := ⟨o, ho, h⟩
theorem ot_two {i j : Nat} {r s : Ot} {a : Act} {w : World} {o o' : Oper} (ho : ops[i]? = some o) (ho' : ops[j]? = some o')
  (h : ∀ K' : Act → World → Prop, Shut (∀ a w, S w → wpOt P ops Q S r a w → K' a w) → if Region.wanted o (yielded ops a.tmps) = true then Oper.wp P o a w K' Q else K' (a.put o.dst undef) w)
  (h' : ∀ K' : Act → World → Prop, Shut (∀ a w, S w → wpOt P ops Q S s a w → K' a w) → if Region.wanted o' (yielded ops a.tmps) = true then Oper.wp P o' a w K' Q else K' (a.put o'.dst undef) w) : wpOt P ops Q S (.two i r j s) a w := ⟨⟨o, ho, h⟩, ⟨o', ho', h'⟩⟩
theorem ot_nil {a : Act} {w : World} (h : Q .normal a w) : wpOt P ops (NoPanic Q) S .nil a w := NoPanic.normal h
end
end Go.Proofs.YtmiokacihcpepaaGreat.Ord
namespace Go.Proofs.YtmiokacihcpepaaGreat.Sx
set_option maxHeartbeats 8000000
set_option maxRecDepth 100000
set_option maxRecDepth 100000
open Go.ChangeShapes Go.WideShapes Go.ChangeAt Go.RowKit Go.Deep
open Go.Proofs.YtmiokacihcpepaaGreat.Base Go.Proofs.YtmiokacihcpepaaGreat.Mem Go.Proofs.YtmiokacihcpepaaGreat.Data Go.Proofs.YtmiokacihcpepaaGreat.Stt
set_option linter.unusedVariables false
set_option linter.unusedSimpArgs false
abbrev Tl := List (Nat × Value)
def look : Tl → Nat → Option Value
 | [], _ => none
 | (k, v) :: r, s => bif Nat.beq k s then some v else look r s
def ev (T : Tl) : Operand → Value
 | .tmp t => (look T t).getD undef
 | .const v => v
 | .global g => .pointer (some ⟨g, 0, none⟩)
 | .func f => .func (.func f) #[] #[]
def known (T : Tl) : Operand → Bool
 | .tmp t => (look T t).isSome
 | _ => true
def up (d : Option Tmp) (v : Value) (T : Tl) : Tl := match d with | some d => (d, v) :: T | none => T
def okDst (n : Nat) : Option Tmp → Bool
 | some d => Nat.blt d n
 | none => true
structure Ag (n : Nat) (T : Tl) (a : Act) : Prop where
 size : a.tmps.size = n
 defers : a.defers = []
 at_ : ∀ s v, look T s = some v → a.tmps[s]? = some v
section
variable {n : Nat} {T : Tl} {a : Act}
theorem Ag.put (h : Ag n T a) {d : Option Tmp} (hd : okDst n d = true) (v : Value) : Ag n (up d v T) (a.put d v) := by
 cases d with
 | none => exact h
 | some d =>
  have hd' : d < n := Nat.le_of_ble_eq_true hd
  refine ⟨by simp [Act.put, h.size], by simp [Act.put, h.defers], fun s u hs => ?_⟩
  simp only [up, look] at hs
  simp only [Act.put]
  by_cases e : d = s
  ·
   subst e
   rw [Nat.beq_refl, cond_true] at hs
   cases hs
   rw [Array.getElem?_setIfInBounds_self_of_lt (by rw [h.size]; exact hd')]
  ·
   have hb : Nat.beq d s = false := by rw [← Bool.not_eq_true, Nat.beq_eq]; exact e
   rw [hb, cond_false] at hs
   rw [Array.getElem?_setIfInBounds_ne e]
   exact h.at_ s u hs
theorem Ag.value (h : Ag n T a) {x : Operand} (hx : known T x = true) : a.eval x = ev T x := by
 cases x with
 | tmp t =>
  cases hl : look T t with
  | none => rw [known, hl] at hx; cases hx
  | some v =>
   show a.tmps.getD t undef = (look T t).getD undef
   rw [hl, Array.getD_eq_getD_getElem?, h.at_ t v hl]
 | _ => rfl
end
def plainOp (o : Oper) : Bool := match o.op with | .select _ _ => false | _ => true
def opsKnown (T : Tl) (o : Oper) : Bool := o.op.operands.toList.all (known T)
theorem Ag.exec {n : Nat} {T : Tl} {a : Act} (h : Ag n T a) {o : Oper} (hp : plainOp o = true) (hk : opsKnown T o = true) : execOp a.eval o = execOp (ev T) o :=
 execOp_congr o (fun cs b e => by simp [plainOp, e] at hp) fun x hx => h.value (List.all_eq_true.1 hk x (by simpa using hx))
def gval (T : Tl) (ops : Array Oper) (j : Nat) : Option Bool :=
 match (ops[j]?).bind (·.dst) with
 | some d => (match look T d with | some (.bool b) => some b | _ => none)
 | none => none
def gk (T : Tl) (ops : Array Oper) (o : Oper) : Bool := match o.guard with | none => true | some (j, _) => (match (ops[j]?).bind (·.dst) with | some d => (look T d).isSome | none => false)
def wt (T : Tl) (ops : Array Oper) (o : Oper) : Bool := match o.guard with | none => true | some (j, b) => gval T ops j == some b
theorem Ag.want {n : Nat} {T : Tl} {a : Act} (h : Ag n T a) {ops : Array Oper} {o : Oper} (hk : gk T ops o = true) : Region.wanted o (yielded ops a.tmps) = wt T ops o := by
 unfold Region.wanted wt
 unfold gk at hk
 cases hg : o.guard with
 | none => rfl
 | some p =>
  obtain ⟨j, b⟩ := p
  rw [hg] at hk
  simp only at hk ⊢
  have key : yielded ops a.tmps j = gval T ops j := by
   unfold gval
   unfold yielded
   cases hd : (ops[j]?).bind (·.dst) with
   | none => rw [hd] at hk; cases hk
   | some d =>
    rw [hd] at hk
    simp only at hk ⊢
    cases hl : look T d with
    | none => rw [hl] at hk; cases hk
    | some v =>
     rw [hl] at hk
     simp only [Option.bind_some, h.at_ d v hl]
     cases v <;> simp_all
  rw [key]
def chk (n : Nat) (T : Tl) (ops : Array Oper) (o : Oper) : Bool := gk T ops o && wt T ops o && plainOp o && opsKnown T o && okDst n o.dst
def chkNo (n : Nat) (T : Tl) (ops : Array Oper) (o : Oper) : Bool := gk T ops o && !wt T ops o && okDst n o.dst
structure Chk (n : Nat) (T : Tl) (ops : Array Oper) (o : Oper) (a : Act) : Prop where
 want : Region.wanted o (yielded ops a.tmps) = true
 exec : execOp a.eval o = execOp (ev T) o
 ok : okDst n o.dst = true
theorem Ag.takes {n : Nat} {T : Tl} {a : Act} (h : Ag n T a) {ops : Array Oper} {o : Oper} (hc : chk n T ops o = true) : Chk n T ops o a := by
 unfold chk at hc
 simp only [Bool.and_eq_true] at hc
 exact ⟨(h.want hc.1.1.1.1).trans hc.1.1.1.2, h.exec hc.1.1.2 hc.1.2, hc.2⟩
def isRow (P : Program) (t : TypeId) : Bool := match P.underlying t with | some d => d.isRow | none => false
def isCell (P : Program) (t : TypeId) : Bool := match P.underlying t with | some d => !d.isRow | none => false
theorem isRow_spec {P : Program} {t : TypeId} (h : isRow P t = true) : ∃ d, P.underlying t = some d ∧ d.isRow = true := by
 unfold isRow at h
 cases hu : P.underlying t with
 | none => rw [hu] at h; cases h
 | some d => rw [hu] at h; exact ⟨d, rfl, h⟩
theorem isCell_spec {P : Program} {t : TypeId} (h : isCell P t = true) : ∃ d, P.underlying t = some d ∧ d.isRow = false := by
 unfold isCell at h
 cases hu : P.underlying t with
 | none => rw [hu] at h; cases h
 | some d => rw [hu] at h; exact ⟨d, rfl, by simpa using h⟩
def G (P : Program) (n : Nat) (ops : Array Oper) (Q : Exit → Act → World → Prop) (w0 : World) (T : Tl) (L : List Res) (rest : List Oper) : Prop := ∀ a w, Ag n T a → St w0 w L → wpList P ops Q rest a w
def C (P : Program) (n : Nat) (Q : Exit → Act → World → Prop) (w0 : World) (T : Tl) (L : List Res) (c : Code) : Prop := ∀ a w, Ag n T a → St w0 w L → c.wp P Q a w
def E (n : Nat) (Q : Exit → Act → World → Prop) (w0 : World) (T : Tl) (L : List Res) (e : Exit) : Prop := ∀ a w, Ag n T a → St w0 w L → Q e a w
section
variable {P : Program} {n : Nat} {ops : Array Oper} {Q : Exit → Act → World → Prop} {w0 : World} {T : Tl} {L : List Res} {rest : List Oper} {o : Oper}
theorem G.nil (k : E n Q w0 T L .normal) : G P n ops Q w0 T L [] := fun a w hA S => wpList_nil (k a w hA S)
theorem wpList_takes {a : Act} {w : World} (hw : Region.wanted o (yielded ops a.tmps) = true) (h : o.wp P a w (wpList P ops Q rest) Q) : wpList P ops Q (o :: rest) a w := by
 unfold wpList
 rw [if_pos hw]
 exact .inl h
theorem G.pure (v : Value) (hc : chk n T ops o = true) (hv : ∀ w, (execOp (ev T) o).run P w = .ok (.value v) w) (k : G P n ops Q w0 (up o.dst v T) L rest) : G P n ops Q w0 T L (o :: rest) := fun a w hA S => by
 have c := hA.takes hc
 refine wpList_takes c.want ?_
 unfold Oper.wp
 rw [c.exec, hv w]
 exact k _ _ (hA.put c.ok v) S
theorem G.pureq (v0 v : Value) (hc : chk n T ops o = true) (hv : ∀ w, (execOp (ev T) o).run P w = .ok (.value v0) w) (he : v0 = v) (k : G P n ops Q w0 (up o.dst v T) L rest) : G P n ops Q w0 T L (o :: rest) := G.pure v hc (fun w => he ▸ hv w) k
theorem G.reads (v : Value) (hc : chk n T ops o = true) (hv : ∀ w, St w0 w L → (execOp (ev T) o).run P w = .ok (.value v) w) (k : G P n ops Q w0 (up o.dst v T) L rest) : G P n ops Q w0 T L (o :: rest) := fun a w hA S => by
 have c := hA.takes hc
 refine wpList_takes c.want ?_
 unfold Oper.wp
 rw [c.exec, hv w S]
 exact k _ _ (hA.put c.ok v) S
theorem G.turns (hc : chk n T ops o = true) (hv : ∀ w, St w0 w L → ∃ v w' L', (execOp (ev T) o).run P w = .ok (.value v) w' ∧ St w0 w' L' ∧ G P n ops Q w0 (up o.dst v T) L' rest) : G P n ops Q w0 T L (o :: rest) := fun a w hA S => by
 have c := hA.takes hc
 obtain ⟨v, w', L', h1, h2, h3⟩ := hv w S
 refine wpList_takes c.want ?_
 unfold Oper.wp
 rw [c.exec, h1]
 exact h3 _ _ (hA.put c.ok v) h2
theorem G.acts (hc : chk n T ops o = true) (hv : ∀ w, St w0 w L → ∃ w' L', (execOp (ev T) o).run P w = .ok .skip w' ∧ St w0 w' L' ∧ G P n ops Q w0 (up o.dst undef T) L' rest) : G P n ops Q w0 T L (o :: rest) := fun a w hA S => by
 have c := hA.takes hc
 obtain ⟨w', L', h1, h2, h3⟩ := hv w S
 refine wpList_takes c.want ?_
 unfold Oper.wp
 rw [c.exec, h1]
 exact h3 _ _ (hA.put c.ok undef) h2
theorem G.skip (hc : chkNo n T ops o = true) (k : G P n ops Q w0 (up o.dst undef T) L rest) : G P n ops Q w0 T L (o :: rest) := fun a w hA S => by
 unfold chkNo at hc
 simp only [Bool.and_eq_true, Bool.not_eq_true'] at hc
 unfold wpList
 rw [if_neg (by rw [hA.want hc.1.1, hc.1.2]; decide)]
 exact k _ _ (hA.put hc.2 undef) S
theorem G.call (f : FuncId) (args : Array Value) (hc : chk n T ops o = true) (hf : ∀ w, (execOp (ev T) o).run P w = .ok (.enter f args) w)
  (h : ∀ w, St w0 w L → Calls P f args w fun e w' => ∃ v L', e = .returned v ∧ St w0 w' L' ∧ G P n ops Q w0 (up o.dst v T) L' rest) : G P n ops Q w0 T L (o :: rest) := fun a w hA S => by
 have c := hA.takes hc
 refine wpList_takes c.want ?_
 unfold Oper.wp
 rw [c.exec, hf w]
 refine (h w S).mono ?_
 rintro e w' ⟨v, L', rfl, h1, h2⟩
 exact h2 _ _ (hA.put c.ok v) h1
theorem G.plain (f : FuncId) (args : Array Value) (v : Value) (hc : chk n T ops o = true) (hf : ∀ w, (execOp (ev T) o).run P w = .ok (.enter f args) w)
  (h : ∀ w, St w0 w L → Calls P f args w fun e w' => e = .returned v ∧ Below w.heap.size w w') (k : G P n ops Q w0 (up o.dst v T) L rest) : G P n ops Q w0 T L (o :: rest) :=
 G.call f args hc hf fun w S => (h w S).mono fun e w' ⟨he, hb⟩ => ⟨v, L, he, S.call hb, k⟩
theorem G.box (t : TypeId) (x : Operand) (vs : List Value) (hop : o.op = .box t x) (hc : chk n T ops o = true) (hx : (ev T x).cells = vs.toArray)
  (k : ∀ b, G P n ops Q w0 (up o.dst (.pointer (some ⟨b, 0, none⟩)) T) (vr b vs :: L) rest) : G P n ops Q w0 T L (o :: rest) :=
 G.turns hc fun w S => ⟨_, _, _, by
  unfold execOp
  simp only [hop, Sem.run_bind, Instr.box, newVar, newRow, run_newObj_alloc, Sem.run_pure, Result.andThen_ok, hx], S.alloc vs t, k _⟩
theorem G.ld (t : TypeId) (x : Operand) (b off i : Nat) (vs cs : List Value) (hop : o.op = .load t x) (hc : chk n T ops o = true) (hx : ev T x = .pointer (some ⟨b, off, none⟩)) (hL : L[i]? = some (vr b vs)) (hcs : (vs.drop off).take cs.length = cs)
  (hr : isRow P t = true) (hi : (P.info? t).map (·.size) = some cs.length) (k : G P n ops Q w0 (up o.dst (.agg cs.toArray) T) L rest) : G P n ops Q w0 T L (o :: rest) :=
 G.reads _ hc (fun w S => by
  obtain ⟨d, hu, hd⟩ := isRow_spec hr
  unfold execOp
  have h := run_loadAt_mid (P := P) w b off t cs d (fun j v hv => S.cell i hL (off + j) (by
   rw [← hcs] at hv
   have hj : j < cs.length := by have := (List.getElem?_eq_some_iff.1 hv).1; rw [List.length_take] at this; omega
   rwa [List.getElem?_take, if_pos hj, List.getElem?_drop] at hv)) hu hd hi
  simp only [hop, hx, Sem.run_bind, h, Sem.run_pure, Result.andThen_ok]) k
theorem G.ld1 (t : TypeId) (x : Operand) (b off i : Nat) (vs : List Value) (v : Value) (hop : o.op = .load t x) (hc : chk n T ops o = true) (hx : ev T x = .pointer (some ⟨b, off, none⟩)) (hL : L[i]? = some (vr b vs)) (hv : vs[off]? = some v)
  (hr : isCell P t = true) (k : G P n ops Q w0 (up o.dst v T) L rest) : G P n ops Q w0 T L (o :: rest) :=
 G.reads v hc (fun w S => by
  obtain ⟨d, hu, hd⟩ := isCell_spec hr
  unfold execOp
  have h : (Instr.loadAt t (.pointer (some ⟨b, off, none⟩))).run P w = .ok v w := by
   have hcell := S.cell i hL off hv
   have hagg : (isAgg t).run P w = .ok false w := by
    unfold isAgg
    rw [Sem.run_bind, run_underlying hu w]
    cases d <;> simp_all
   simp only [Instr.loadAt, Instr.sureAddr, loadVar, Sem.run_bind, Sem.run_pure, Result.andThen_ok, hagg, Bool.false_eq_true, if_false, run_load, hcell]
  simp only [hop, hx, Sem.run_bind, h, Sem.run_pure, Result.andThen_ok]) k
theorem G.alloc (t : TypeId) (z : Value) (vs : List Value) (hop : o.op = .alloc t) (hc : chk n T ops o = true) (hz : ∀ w, (zeroValue t).run P w = .ok z w) (hx : z.cells = vs.toArray)
  (k : ∀ b, G P n ops Q w0 (up o.dst (.pointer (some ⟨b, 0, none⟩)) T) (vr b vs :: L) rest) : G P n ops Q w0 T L (o :: rest) :=
 G.turns hc fun w S => ⟨_, _, _, by
  unfold execOp
  simp only [hop, Sem.run_bind, Instr.alloc, newVar, newRow, hz, run_newObj_alloc, Sem.run_pure, Result.andThen_ok, hx], S.alloc vs t, k _⟩
theorem G.sto (t : TypeId) (x y : Operand) (b off i : Nat) (vs us vs' : List Value) (L' : List Res) (hop : o.op = .store t x y) (hc : chk n T ops o = true) (hx : ev T x = .pointer (some ⟨b, off, none⟩)) (hy : (ev T y).cells = us.toArray) (hL : L[i]? = some (vr b vs))
  (hvs : (us.foldl (fun (p : List Value × Nat) u => (p.1.set p.2 u, p.2 + 1)) (vs, off)).1 = vs') (hL' : L.set i (vr b vs') = L') (hl : Nat.ble (off + us.length) vs.length = true) (hi : (P.info? t).map (·.size) = some us.length) (h1 : us.all (·.oneCell') = true)
  (k : G P n ops Q w0 (up o.dst undef T) L' rest) : G P n ops Q w0 T L (o :: rest) :=
 G.acts hc fun w S => by
  have hl' : off + us.length ≤ vs.length := Nat.le_of_ble_eq_true hl
  have ht : w.there b off us.toArray.size := fun j hj => by
   have hj' : off + j < vs.length := by simp at hj; omega
   exact ⟨by rw [S.cell i hL (off + j) (List.getElem?_eq_getElem hj')]; rfl, S.loose i hL (off + j) (List.getElem?_eq_getElem hj')⟩
  refine ⟨w.setCells b off us, L', ?_, ?_, k⟩
  ·
   unfold execOp
   have hcells : (storeVar t ⟨b, off, none⟩ (ev T y)).run P w = (storeVar t ⟨b, off, none⟩ (.agg us.toArray)).run P w := by
    unfold storeVar
    rw [hy]
    rfl
   have hs := run_storeVar_mid (P := P) w b off t us.toArray ht (by simpa using hi) (by simpa using h1)
   simp only [hop, Sem.run_bind, Instr.storeAt, Instr.sureAddr, hx, Sem.run_pure, Result.andThen_ok, hcells, hs]
  ·
   subst hvs hL'
   exact S.turn i hL (vr b _) (Only.setCells (show (vr b vs).foot b from rfl) us off w) (Var.setCells us vs off w (S.at_ i hL)) (fun k hk => .inl hk) (show w0.heap.size ≤ b from S.lo i (vr b vs) hL) (by rw [setCells_size]; have := S.hi i (vr b vs) hL; simpa [vr] using this)
def elemB (P : Program) (t e : TypeId) (size bytes : Nat) : Bool :=
 match P.underlying t, P.info? e with
 | some (.slice e'), some i => Nat.beq e' e && Nat.beq i.size size && Nat.beq i.bytes bytes && Nat.blt 0 size && (match i.zero with | some z => Nat.beq z.cells.size size | none => false)
 | _, _ => false
theorem elemB_spec {t e : TypeId} {size bytes : Nat} (h : elemB P t e size bytes = true) : P.underlying t = some (.slice e) ∧ 0 < size ∧ ∃ i z, P.info? e = some i ∧ i.zero = some z ∧ i.size = size ∧ i.bytes = bytes ∧ z.cells.size = size := by
 unfold elemB at h
 cases hu : P.underlying t with
 | none => rw [hu] at h; cases h
 | some d =>
  rw [hu] at h
  cases d with
  | slice e' =>
   cases hi : P.info? e with
   | none => rw [hi] at h; cases h
   | some i =>
    rw [hi] at h
    simp only [Bool.and_eq_true, Nat.beq_eq] at h
    obtain ⟨⟨⟨⟨h1, h2⟩, h3⟩, h4⟩, h5⟩ := h
    subst h1
    cases hz : i.zero with
    | none => rw [hz] at h5; cases h5
    | some z => rw [hz] at h5; exact ⟨rfl, Nat.le_of_ble_eq_true h4, i, z, rfl, hz, h2, h3, by simpa using h5⟩
  | _ => cases h
theorem G.fresh {α : Type} (e : TypeId) (r : Rp α) (hc : chk n T ops o = true) (hr : ∀ w : World, (execOp (ev T) o).run P w = .ok (.value (.slice (some ⟨w.heap.size, 0, none⟩) 0 0)) (w.alloc (.cells #[] e)))
  (k : ∀ b hi, G P n ops Q w0 (up o.dst (.slice (some ⟨b, 0, none⟩) 0 0) T) (ow (rLst e r) b hi [] [.slice (some ⟨b, 0, none⟩) 0 0] [b] :: L) rest) : G P n ops Q w0 T L (o :: rest) :=
 G.turns hc fun w S => ⟨_, _, _, hr w, S.fresh e r, k _ _⟩
theorem G.made (e : TypeId) (vs : List Value) (m : Nat) (hc : chk n T ops o = true) (hr : ∀ w : World, (execOp (ev T) o).run P w = .ok (.value (.slice (some ⟨w.heap.size, 0, none⟩) m m)) (w.alloc (.cells vs.toArray e)))
  (k : ∀ b, G P n ops Q w0 (up o.dst (.slice (some ⟨b, 0, none⟩) m m) T) (vr b vs :: L) rest) : G P n ops Q w0 T L (o :: rest) :=
 G.turns hc fun w S => ⟨_, _, _, hr w, S.alloc vs e, k _⟩
theorem apps_run {α : Type} {r : Rp α} {e : TypeId} {o : Oper} {ρ : Operand → Value} {w : World} (S : St w0 w L) (k : Nat) {lo hi : Nat} {xs : List α} {v : Value} {F : List Nat} (hk : L[k]? = some (ow (rLst e r) lo hi xs [v] F))
  {ys zs : List α} {vx : Value} (hxs : rdLst r w 0 w.heap.size ys [vx]) (hzz : xs ++ ys = zs) (m : Nat) (hm : zs.length = m) (hf : Flat r)
  (s x : Operand) (t : TypeId) (ho : o.op = .call { callee := .builtin .append, args := #[s, x], argTypes := #[t, t] })
  (i : TypeInfo) (z : Value) (size bytes : Nat) (ht : P.underlying t = some (.slice e)) (hi' : P.info? e = some i) (hz : i.zero = some z) (hsize : i.size = size) (hby : i.bytes = bytes) (hzs : z.cells.size = size) (hsz : 0 < size) (hr : r.sz = size)
  (hs : ρ s = v) (hx : ρ x = vx) (h63 : xs.length + ys.length ≤ maxLen) (hbytes : (xs.length + ys.length) * bytes ≤ 140737488355328) :
  ∃ A c F' w', m ≤ c ∧ (execOp ρ o).run P w = .ok (.value (.slice A m c)) w' ∧ St w0 w' (L.set k (ow (rLst e r) w0.heap.size w'.heap.size zs [.slice A m c] F')) := by
 subst hm
 obtain ⟨⟨v', ds0, F1, e1, hF, hall, hrow, hhi⟩, hnd⟩ := S.at_ k hk
 cases e1
 have hlo' : w0.heap.size ≤ lo := S.lo k _ hk
 have hhi' : hi ≤ w.heap.size := S.hi k _ hk
 obtain ⟨A, c, ds, e2, hc, hrd, hl⟩ := hxs
 cases e2
 have hlen := rdAll_len hrd
 subst hr hzz
 obtain ⟨v', w', hrun, hown, hgr, hat⟩ := run_app (P := P) w w0.heap.size t o.type e i z r.sz bytes ht hi' hz hsize hby hzs hsz v xs.length ds0 (ownsRow_low hrow hlo') A ys.length c ds hlen (fun j u hu => by
  obtain ⟨b, off, e, _, _, hcell⟩ := hl j u hu
  exact ⟨_, e, by rw [Addr.add_lit]; exact hcell⟩) (flat_ones hf hrd) h63 hbytes S.below.size
 have hx1 : (execOp ρ o).run P w = .ok (.value v') w' := by
  unfold execOp
  simp only [ho, resolve, invoke, builtin, Sem.run_bind, Sem.run_pure, Result.andThen_ok, List.map_toArray, List.map_cons, List.map_nil, hs, hx, hrun]
 have hcl := app_claim (b0 := w0.heap.size) hnd hlo' hhi' hF hall hrow (flat_all hf w w0.heap.size w.heap.size hrd) (by simp) (fun q _ => by simp) (Nat.le_refl _) (Nat.le_refl _) hown hgr hat
 obtain ⟨A', c', rfl, hc'⟩ := row_form hown
 rw [← List.length_append] at hcl hc'
 have hfoot : ∀ q, v.ownBlock = some q → (ow (rLst e r) lo hi xs [v] F).foot q := fun q hq => ⟨by rw [hF]; simp [hq], (hrow.lt q hq).1, hhi q hq⟩
 refine ⟨A', c', _, w', hc', by rw [← List.length_append] at hx1; exact hx1, S.turn k hk _ (Only.of_grown hgr hfoot) hcl (fun q hq => ?_) (Nat.le_refl _) (Nat.le_refl _)⟩
 obtain ⟨hq, _, hq2⟩ := hq
 rw [List.append_nil] at hq
 rcases List.mem_append.1 hq with hq | hq
 ·
  have hq' : (Value.slice A' (xs.length + ys.length) c').ownBlock = some q := by rw [← List.length_append]; simpa using hq
  rcases hat with h5 | h5
  ·
   exact .inl (hfoot q (h5.symm.trans hq'))
  ·
   rw [h5] at hq'; cases hq'; right; exact Nat.le_refl _
 ·
  have := ownAll_inF hall q hq
  exact .inl ⟨by rw [hF]; simp [hq], this⟩
theorem G.apps {α : Type} {r : Rp α} {e : TypeId} (j : Nat) {lo hi : Nat} {xs : List α} {v : Value} {F : List Nat} (hk : L[j]? = some (ow (rLst e r) lo hi xs [v] F)) {ys : List α} (zs : List α) {vx : Value} (hxs : ∀ w, St w0 w L → rdLst r w 0 w.heap.size ys [vx]) (hzz : xs ++ ys = zs) (m : Nat) (hm : zs.length = m) (hf : Flat r)
  (s x : Operand) (t : TypeId) (size bytes : Nat) (hg : o.guard = none) (hop : o.op = .call { callee := .builtin .append, args := #[s, x], argTypes := #[t, t] }) (hc : chk n T ops o = true) (he : elemB P t e size bytes = true) (hr : r.sz = size)
  (hs : ev T s = v) (hx : ev T x = vx) (h63 : xs.length + ys.length ≤ maxLen) (hbytes : (xs.length + ys.length) * bytes ≤ 140737488355328)
  (k : ∀ A c F' hi', m ≤ c → G P n ops Q w0 (up o.dst (.slice A m c) T) (L.set j (ow (rLst e r) w0.heap.size hi' zs [.slice A m c] F')) rest) : G P n ops Q w0 T L (o :: rest) := fun a w hA S => by
 obtain ⟨ht, hsz, i, z, hi', hz, hsize, hby, hzs⟩ := elemB_spec he
 have hkn : opsKnown T o = true := by unfold chk at hc; simp only [Bool.and_eq_true] at hc; exact hc.1.2
 have hkk : ∀ y ∈ o.op.operands, a.eval y = ev T y := fun y hy => hA.value (List.all_eq_true.1 hkn y (by simpa using hy))
 have hops : o.op.operands = #[s, x] := by rw [hop]; simp [Op.operands, Call.operands]
 refine wpList_apps S j hk (hxs w S) hzz m hm hf hg s x t hop i z size bytes ht hi' hz hsize hby hzs hsz hr ?_ ?_ h63 hbytes fun A c F' w' hmc S' => k A c F' _ hmc _ _ (hA.put (hA.takes hc).ok _) S'
 ·
  rw [hkk s (by rw [hops]; simp), hs]
 ·
  rw [hkk x (by rw [hops]; simp), hx]
theorem run_elem {t e : TypeId} {size bytes : Nat} (he : elemB P t e size bytes = true) (b off m c k : Nat) (hk : k < m) (w : World) :
  (Instr.indexAt t (.slice (some ⟨b, off, none⟩) m c) (.int .i64 (k : Int))).run P w = .ok (.pointer (some ⟨b, off + k * size, none⟩)) w := by
 obtain ⟨ht, hsz, i, z, hi, hz, hsize, hby, hzs⟩ := elemB_spec he
 have hel : P.elem t = e := by simp [Program.elem, ht]
 rw [run_indexAt_slice w t _ m c .i64 k (by rw [hel]; exact ht), if_pos ⟨by omega, by omega⟩, hel]
 have hso : (sizeOf e).run P w = .ok size w := by simp [sizeOf, typeInfo, hi, hsize]
 rw [hso]
 simp [Addr.add_mid]
theorem G.elem (t e : TypeId) (x y : Operand) (size bytes b off m c k : Nat) (hop : o.op = .indexAddr t x y) (hc : chk n T ops o = true) (he : elemB P t e size bytes = true) (hx : ev T x = .slice (some ⟨b, off, none⟩) m c) (hy : ev T y = .int .i64 (k : Int)) (hk : k < m)
  (h : G P n ops Q w0 (up o.dst (.pointer (some ⟨b, off + k * size, none⟩)) T) L rest) : G P n ops Q w0 T L (o :: rest) :=
 G.pure _ hc (fun w => by
  unfold execOp
  simp only [hop, hx, hy, Sem.run_bind, run_elem he b off m c k hk w, Sem.run_pure, Result.andThen_ok]) h
theorem G.ldr (t : TypeId) (x : Operand) (b off : Nat) (cs : List Value) (hop : o.op = .load t x) (hc : chk n T ops o = true) (hx : ev T x = .pointer (some ⟨b, off, none⟩)) (hrd : ∀ w, St w0 w L → w.rangeAt b off cs) (hr : isRow P t = true) (hi : (P.info? t).map (·.size) = some cs.length)
  (k : G P n ops Q w0 (up o.dst (.agg cs.toArray) T) L rest) : G P n ops Q w0 T L (o :: rest) :=
 G.reads _ hc (fun w S => by
  obtain ⟨d, hu, hd⟩ := isRow_spec hr
  unfold execOp
  have h := run_loadAt_mid (P := P) w b off t cs d (hrd w S) hu hd hi
  simp only [hop, hx, Sem.run_bind, h, Sem.run_pure, Result.andThen_ok]) k
theorem run_cell {t : TypeId} {b off : Nat} {v : Value} {w : World} (hr : isCell P t = true) (hcell : w.cell? ⟨b, off, none⟩ = some v) : (Instr.loadAt t (.pointer (some ⟨b, off, none⟩))).run P w = .ok v w := by
 obtain ⟨d, hu, hd⟩ := isCell_spec hr
 have hagg : (isAgg t).run P w = .ok false w := by
  unfold isAgg
  rw [Sem.run_bind, run_underlying hu w]
  cases d <;> simp_all
 simp only [Instr.loadAt, Instr.sureAddr, loadVar, Sem.run_bind, Sem.run_pure, Result.andThen_ok, hagg, Bool.false_eq_true, if_false, run_load, hcell]
theorem G.ldr1 (t : TypeId) (x : Operand) (b off : Nat) (v : Value) (hop : o.op = .load t x) (hc : chk n T ops o = true) (hx : ev T x = .pointer (some ⟨b, off, none⟩)) (hrd : ∀ w, St w0 w L → w.cell? ⟨b, off, none⟩ = some v) (hr : isCell P t = true)
  (k : G P n ops Q w0 (up o.dst v T) L rest) : G P n ops Q w0 T L (o :: rest) :=
 G.reads v hc (fun w S => by
  unfold execOp
  simp only [hop, hx, Sem.run_bind, run_cell hr (hrd w S), Sem.run_pure, Result.andThen_ok]) k
theorem old_elem {α : Type} {r : Rp α} {w0 : World} {xs : List α} {A : Option Addr} {m c : Nat} (hs : 0 < r.sz) (h : rdLst r w0 0 w0.heap.size xs [.slice A m c]) (k : Nat) (hk : k < xs.length) :
  ∃ b off es, A = some ⟨b, off, none⟩ ∧ r.rd w0 0 w0.heap.size xs[k] es ∧ es.length = r.sz ∧ ∀ w L, St w0 w L → w.rangeAt b (off + k * r.sz) es := by
 obtain ⟨A', c', ds, e, hc, h1, h2⟩ := h
 cases e
 obtain ⟨b, off, es, rfl, hlo, hhi, h3, h4, h5⟩ := list_at hs h1 h2 k hk
 exact ⟨b, off, es, rfl, h3, h4, fun w L S j v hv => by rw [Nat.add_assoc]; exact (S.below.cell (p := ⟨b, off + (k * r.sz + j), none⟩) hhi).trans (h5 j v hv)⟩
theorem wrap_up (k : Nat) (h : k ≤ 9223372036854775806) : IntKind.i64.wrap ((k : Int) + 1) = ((k + 1 : Nat) : Int) := by rw [IntKind.wrap_i64]; omega
theorem C.seq {x y : Code} (h : C P n (Exit.then (fun a w => y.wp P Q a w) Q) w0 T L x) : C P n Q w0 T L (.seq x y) := fun a w hA S => wp_seq (h a w hA S)
theorem C.region {id : Nat} {l : List Oper} (h : G P n l.toArray Q w0 T L l) : C P n Q w0 T L (.region id l.toArray false) := fun a w hA S => wp_region_lit (h a w hA S)
theorem C.block {id : Nat} {c : Code} (h : C P n (Exit.inBlock id Q) w0 T L c) : C P n Q w0 T L (.block id c) := fun a w hA S => wp_block (h a w hA S)
theorem C.exit {id : Nat} (h : E n Q w0 T L (.exit id)) : C P n Q w0 T L (.exit id) := fun a w hA S => wp_exit (h a w hA S)
theorem C.ret (h : E n Q w0 T L .ret) : C P n Q w0 T L .ret := fun a w hA S => wp_ret (h a w hA S)
theorem C.skip (h : E n Q w0 T L .normal) : C P n Q w0 T L .skip := fun a w hA S => wp_skip (h a w hA S)
theorem C.yes {c : Operand} {x y : Code} (hk : known T c = true) (hc : ev T c = .bool true) (h : C P n Q w0 T L x) : C P n Q w0 T L (.cond c x y) := fun a w hA S => wp_cond_true ((hA.value hk).trans hc) (h a w hA S)
theorem C.no {c : Operand} {x y : Code} (hk : known T c = true) (hc : ev T c = .bool false) (h : C P n Q w0 T L y) : C P n Q w0 T L (.cond c x y) := fun a w hA S => wp_cond_false ((hA.value hk).trans hc) (h a w hA S)
theorem E.out {e : Exit} {a : Act} {w : World} (h : E n Q w0 T L e) (hA : Ag n T a) (S : St w0 w L) : Q e a w := h a w hA S
theorem E.next {c : Code} {P' : Program} {Q' : Exit → Act → World → Prop} (h : C P' n Q' w0 T L c) : E n (Exit.then (fun a w => c.wp P' Q' a w) Q) w0 T L .normal := h
theorem E.then_ret {N : Act → World → Prop} (h : E n Q w0 T L .ret) : E n (Exit.then N Q) w0 T L .ret := h
theorem E.then_exit {N : Act → World → Prop} {id : Nat} (h : E n Q w0 T L (.exit id)) : E n (Exit.then N Q) w0 T L (.exit id) := h
theorem E.block_ret {id : Nat} (h : E n Q w0 T L .ret) : E n (Exit.inBlock id Q) w0 T L .ret := h
theorem E.block_normal {id : Nat} (h : E n Q w0 T L .normal) : E n (Exit.inBlock id Q) w0 T L .normal := h
theorem E.block_hit {id : Nat} (h : E n Q w0 T L .normal) : E n (Exit.inBlock id Q) w0 T L (.exit id) := fun a w hA S => by
 show if id = id then Q .normal a w else Q (.exit id) a w
 rw [if_pos rfl]
 exact h a w hA S
noncomputable def leastOf (S : Nat → Prop) : Nat := Classical.epsilon fun m => S m ∧ ∀ k, S k → m ≤ k
theorem leastOf_spec {S : Nat → Prop} (h : ∃ m, S m) : S (leastOf S) ∧ ∀ k, S k → leastOf S ≤ k := by
 refine Classical.epsilon_spec (p := fun m => S m ∧ ∀ k, S k → m ≤ k) ?_
 obtain ⟨m, hm⟩ := h
 induction m using Nat.strongRecOn with
 | _ m ih =>
  by_cases h : ∃ k, k < m ∧ S k
  ·
   obtain ⟨k, hk, hs⟩ := h
   exact ih k hk hs
  ·
   exact ⟨m, hm, fun k hs => Nat.le_of_not_lt fun hk => h ⟨k, hk, hs⟩⟩
def Again {α : Type} (n : Nat) (w0 : World) (p : α → Prop) (T : α → Tl) (L : α → List Res) (μ : α → Nat) (m : Nat) (a : Act) (w : World) : Prop := ∃ y, p y ∧ μ y < m ∧ Ag n (T y) a ∧ St w0 w (L y)
theorem C.loop {α : Type} {body : Code} (p : α → Prop) (T' : α → Tl) (L' : α → List Res) (μ : α → Nat) (x0 : α) (hp : p x0) (hT : ∀ a, Ag n T a → Ag n (T' x0) a) (hL : ∀ w, St w0 w L → St w0 w (L' x0))
  (round : ∀ x, p x → C P n (Exit.then (Again n w0 p T' L' μ (μ x)) Q) w0 (T' x) (L' x) body) : C P n Q w0 T L (.loop body) := fun a w hA S => by
 let I : Act → World → α → Prop := fun a w x => p x ∧ Ag n (T' x) a ∧ St w0 w (L' x)
 let M : Act → World → Nat := fun a w => leastOf fun m => ∃ x, I a w x ∧ μ x = m
 refine wp_loop (fun a w => ∃ x, I a w x) M ⟨x0, hp, hT a hA, hL w S⟩ fun a w ⟨x1, h1⟩ => ?_
 obtain ⟨⟨x, ⟨h2, h3, h4⟩, h5⟩, _⟩ := leastOf_spec (S := fun m => ∃ x, I a w x ∧ μ x = m) ⟨μ x1, x1, h1, rfl⟩
 refine wp_mono (round x h2 a w h3 h4) fun e a' w' hq => ?_
 cases e with
 | normal =>
  obtain ⟨y, hy1, hy2, hy3, hy4⟩ := hq
  refine ⟨⟨y, hy1, hy3, hy4⟩, ?_⟩
  have := (leastOf_spec (S := fun m => ∃ x, I a' w' x ∧ μ x = m) ⟨μ y, y, ⟨hy1, hy3, hy4⟩, rfl⟩).2 (μ y) ⟨y, ⟨hy1, hy3, hy4⟩, rfl⟩
  have hM : M a w = μ x := h5.symm
  show M a' w' < M a w
  rw [hM]
  exact Nat.lt_of_le_of_lt this hy2
 | _ => exact hq
theorem E.again {α : Type} {p : α → Prop} {T' : α → Tl} {L' : α → List Res} {μ : α → Nat} {m : Nat} (y : α) (hp : p y) (hμ : μ y < m) (hT : ∀ a, Ag n T a → Ag n (T' y) a) (hL : ∀ w, St w0 w L → St w0 w (L' y)) : E n (Exit.then (Again n w0 p T' L' μ m) Q) w0 T L .normal :=
 fun a w hA S => ⟨y, hp, hμ, hT a hA, hL w S⟩
theorem E.ret1 {fn : Func} {R : Ending → World → Prop} {t : Tmp} (v : Value) (hr : fn.results = #[.tmp t]) (ht : look T t = some v) (h : ∀ w, St w0 w L → R (.returned v) w) : E n (bodyPost P fn R) w0 T L .ret := fun a w hA S =>
 bodyPost_ret (v := v) (by rw [results_tmp hr, Array.getD_eq_getD_getElem?, hA.at_ t v ht]; rfl) hA.defers (h w S)
end
theorem St.tail {w0 w : World} {r : Res} {L : List Res} (S : St w0 w (r :: L)) : St w0 w L :=
 ⟨S.below, fun i s h => S.says (i + 1) s h, fun i s h => S.lo (i + 1) s h, fun i s h => S.hi (i + 1) s h, fun i j s t h1 h2 hne => S.apart (i + 1) (j + 1) s t h1 h2 (by omega)⟩
def GT (P : Program) (n : Nat) (ops : Array Oper) (Q : Exit → Act → World → Prop) (Z : World → Prop) (w0 : World) (T : Tl) (L : List Res) (t : Ord.Ot) : Prop := ∀ a w, Ag n T a → St w0 w L → Ord.wpOt P ops Q Z t a w
section
variable {P : Program} {n : Nat} {l : List Oper} {ops : Array Oper} {Q : Exit → Act → World → Prop} {w0 : World} {T : Tl} {L : List Res} {o : Oper} {Z : World → Prop} {t r : Ord.Ot}
theorem C.draw {id : Nat} {l : List Oper} (t : Ord.Ot) (Lz : List Res) (hZ : ∀ w, St w0 w L → St w0 w Lz) (hm : P.follows .mixedOrders = true) (hs : Region.noSelect l.toArray = true) (hB : Ord.ordT l.toArray l.toArray.size t (Array.replicate l.toArray.size false) = true)
  (h : GT P n l.toArray (NoPanic Q) (fun w => St w0 w Lz) w0 T L t) : C P n Q w0 T L (.region id l.toArray true) := fun a w hA S =>
 Ord.wp_region_tree (fun w => St w0 w Lz) t hm hs hB (hZ _ S.drew) (h a _ hA S.drew)
theorem GT.nil (k : E n Q w0 T L .normal) : GT P n ops (NoPanic Q) Z w0 T L .nil := fun a w hA S => Ord.ot_nil (k a w hA S)
theorem at_list {i : Nat} (h : l[i]? = some o) : l.toArray[i]? = some o := by simpa using h
theorem GT.pure (v : Value) (i : Nat) (ho : l[i]? = some o) (hc : chk n T l.toArray o = true) (hv : ∀ w, (execOp (ev T) o).run P w = .ok (.value v) w) (k : GT P n l.toArray Q Z w0 (up o.dst v T) L r) : GT P n l.toArray Q Z w0 T L (.take i r) := fun a w hA S => by
 have c := hA.takes hc
 exact Ord.ot_take (at_list ho) c.want (fun w' _ => by rw [c.exec]; exact hv w') (k _ _ (hA.put c.ok v) S)
theorem GT.pureq (v0 v : Value) (i : Nat) (ho : l[i]? = some o) (hc : chk n T l.toArray o = true) (hv : ∀ w, (execOp (ev T) o).run P w = .ok (.value v0) w) (he : v0 = v) (k : GT P n l.toArray Q Z w0 (up o.dst v T) L r) : GT P n l.toArray Q Z w0 T L (.take i r) := GT.pure v i ho hc (fun w => he ▸ hv w) k
theorem GT.reads (v : Value) (i : Nat) (ho : l[i]? = some o) (hc : chk n T l.toArray o = true) (hv : ∀ w, Z w → (execOp (ev T) o).run P w = .ok (.value v) w) (k : GT P n l.toArray Q Z w0 (up o.dst v T) L r) : GT P n l.toArray Q Z w0 T L (.take i r) := fun a w hA S => by
 have c := hA.takes hc
 exact Ord.ot_take (at_list ho) c.want (fun w' hZ => by rw [c.exec]; exact hv w' hZ) (k _ _ (hA.put c.ok v) S)
theorem GT.skip (i : Nat) (ho : l[i]? = some o) (hc : chkNo n T l.toArray o = true) (k : GT P n l.toArray Q Z w0 (up o.dst undef T) L r) : GT P n l.toArray Q Z w0 T L (.take i r) := fun a w hA S => by
 unfold chkNo at hc
 simp only [Bool.and_eq_true, Bool.not_eq_true'] at hc
 exact Ord.ot_skip (at_list ho) ((hA.want hc.1.1).trans hc.1.2) (k _ _ (hA.put hc.2 undef) S)
theorem GT.ld {L0 : List Res} (t : TypeId) (x : Operand) (b off j : Nat) (vs cs : List Value) (i : Nat) (ho : l[i]? = some o) (hop : o.op = .load t x) (hc : chk n T l.toArray o = true) (hx : ev T x = .pointer (some ⟨b, off, none⟩)) (hL : L0[j]? = some (vr b vs)) (hcs : (vs.drop off).take cs.length = cs)
  (hr : isRow P t = true) (hi : (P.info? t).map (·.size) = some cs.length) (k : GT P n l.toArray Q (fun w => St w0 w L0) w0 (up o.dst (.agg cs.toArray) T) L r) : GT P n l.toArray Q (fun w => St w0 w L0) w0 T L (.take i r) :=
 GT.reads _ i ho hc (fun w S => by
  obtain ⟨d, hu, hd⟩ := isRow_spec hr
  unfold execOp
  have h := run_loadAt_mid (P := P) w b off t cs d (fun j' v hv => S.cell j hL (off + j') (by
   rw [← hcs] at hv
   have hj : j' < cs.length := by have := (List.getElem?_eq_some_iff.1 hv).1; rw [List.length_take] at this; omega
   rwa [List.getElem?_take, if_pos hj, List.getElem?_drop] at hv)) hu hd hi
  simp only [hop, hx, Sem.run_bind, h, Sem.run_pure, Result.andThen_ok]) k
theorem GT.ld1 {L0 : List Res} (t : TypeId) (x : Operand) (b off j : Nat) (vs : List Value) (v : Value) (i : Nat) (ho : l[i]? = some o) (hop : o.op = .load t x) (hc : chk n T l.toArray o = true) (hx : ev T x = .pointer (some ⟨b, off, none⟩)) (hL : L0[j]? = some (vr b vs)) (hv : vs[off]? = some v)
  (hr : isCell P t = true) (k : GT P n l.toArray Q (fun w => St w0 w L0) w0 (up o.dst v T) L r) : GT P n l.toArray Q (fun w => St w0 w L0) w0 T L (.take i r) :=
 GT.reads v i ho hc (fun w S => by
  obtain ⟨d, hu, hd⟩ := isCell_spec hr
  unfold execOp
  have h : (Instr.loadAt t (.pointer (some ⟨b, off, none⟩))).run P w = .ok v w := by
   have hcell := S.cell j hL off hv
   have hagg : (isAgg t).run P w = .ok false w := by
    unfold isAgg
    rw [Sem.run_bind, run_underlying hu w]
    cases d <;> simp_all
   simp only [Instr.loadAt, Instr.sureAddr, loadVar, Sem.run_bind, Sem.run_pure, Result.andThen_ok, hagg, Bool.false_eq_true, if_false, run_load, hcell]
  simp only [hop, hx, Sem.run_bind, h, Sem.run_pure, Result.andThen_ok]) k
theorem ot_one {i : Nat} {a : Act} {w : World} {n : Nat} (ho : ops[i]? = some o) (hA : Ag n T a) (hc : chk n T ops o = true) (h : ∀ K' : Act → World → Prop, Shut (∀ a w, Z w → Ord.wpOt P ops Q Z r a w → K' a w) → o.upon P a K' Q ((execOp (ev T) o).run P w)) :
  ∀ K' : Act → World → Prop, Shut (∀ a w, Z w → Ord.wpOt P ops Q Z r a w → K' a w) → if Region.wanted o (yielded ops a.tmps) = true then Oper.wp P o a w K' Q else K' (a.put o.dst undef) w := fun K' hK => by
 have c := hA.takes hc
 rw [if_pos c.want]
 unfold Oper.wp
 rw [c.exec]
 exact h K' hK
def Alone (P : Program) (n : Nat) (ops : Array Oper) (Q : Exit → Act → World → Prop) (Z : World → Prop) (w0 : World) (T : Tl) (L : List Res) (i : Nat) (r : Ord.Ot) : Prop := ∀ a w, Ag n T a → St w0 w L → ∃ o, ops[i]? = some o ∧ ∀ K' : Act → World → Prop, Shut (∀ a w, Z w → Ord.wpOt P ops Q Z r a w → K' a w) → if Region.wanted o (yielded ops a.tmps) = true then Oper.wp P o a w K' Q else K' (a.put o.dst undef) w
theorem GT.alone {i : Nat} (h : Alone P n ops Q Z w0 T L i r) : GT P n ops Q Z w0 T L (.alone i r) := fun a w hA S => by
 obtain ⟨o, ho, h⟩ := h a w hA S
 exact Ord.ot_alone ho h
theorem GT.two {i j : Nat} {s : Ord.Ot} (h : Alone P n ops Q Z w0 T L i r) (h' : Alone P n ops Q Z w0 T L j s) : GT P n ops Q Z w0 T L (.two i r j s) := fun a w hA S => by
 obtain ⟨o, ho, h⟩ := h a w hA S
 obtain ⟨o', ho', h'⟩ := h' a w hA S
 exact Ord.ot_two ho ho' h h'
theorem Alone.call {i : Nat} (f : FuncId) (args : Array Value) (ho : l[i]? = some o) (hc : chk n T l.toArray o = true) (hf : ∀ w, (execOp (ev T) o).run P w = .ok (.enter f args) w)
  (h : ∀ w, St w0 w L → Calls P f args w fun e w' => ∃ v L', e = .returned v ∧ St w0 w' L' ∧ (∀ w, St w0 w L' → Z w) ∧ GT P n l.toArray Q Z w0 (up o.dst v T) L' r) : Alone P n l.toArray Q Z w0 T L i r := fun a w hA S =>
 ⟨o, at_list ho, ot_one (at_list ho) hA hc fun K' hK => by
  rw [hf w]
  refine (h w S).mono ?_
  rintro e w' ⟨v, L', rfl, h1, h2, h3⟩
  exact hK.out _ _ (h2 _ h1) (h3 _ _ (hA.put (hA.takes hc).ok v) h1)⟩
theorem Alone.plain {i : Nat} (f : FuncId) (args : Array Value) (v : Value) (ho : l[i]? = some o) (hc : chk n T l.toArray o = true) (hf : ∀ w, (execOp (ev T) o).run P w = .ok (.enter f args) w)
  (h : ∀ w, St w0 w L → Calls P f args w fun e w' => e = .returned v ∧ Below w.heap.size w w') (hz : ∀ w, St w0 w L → Z w) (k : GT P n l.toArray Q Z w0 (up o.dst v T) L r) : Alone P n l.toArray Q Z w0 T L i r :=
 Alone.call f args ho hc hf fun w S => (h w S).mono fun e w' ⟨he, hb⟩ => ⟨v, L, he, S.call hb, hz, k⟩
theorem Alone.skip {i : Nat} (ho : l[i]? = some o) (hc : chkNo n T l.toArray o = true) (hz : ∀ w, St w0 w L → Z w) (k : GT P n l.toArray Q Z w0 (up o.dst undef T) L r) : Alone P n l.toArray Q Z w0 T L i r := fun a w hA S => by
 unfold chkNo at hc
 simp only [Bool.and_eq_true, Bool.not_eq_true'] at hc
 exact ⟨o, at_list ho, fun K' hK => by
  rw [if_neg (by rw [hA.want hc.1.1, hc.1.2]; decide)]
  exact hK.out _ _ (hz w S) (k _ _ (hA.put hc.2 undef) S)⟩
theorem Alone.turns {i : Nat} (ho : l[i]? = some o) (hc : chk n T l.toArray o = true) (hv : ∀ w, St w0 w L → ∃ v w' L', (execOp (ev T) o).run P w = .ok (.value v) w' ∧ St w0 w' L' ∧ (∀ w, St w0 w L' → Z w) ∧ GT P n l.toArray Q Z w0 (up o.dst v T) L' r) : Alone P n l.toArray Q Z w0 T L i r := fun a w hA S =>
 ⟨o, at_list ho, ot_one (at_list ho) hA hc fun K' hK => by
  obtain ⟨v, w', L', h1, h2, h3, h4⟩ := hv w S
  rw [h1]
  exact hK.out _ _ (h3 _ h2) (h4 _ _ (hA.put (hA.takes hc).ok v) h2)⟩
theorem Alone.acts {i : Nat} (ho : l[i]? = some o) (hc : chk n T l.toArray o = true) (hv : ∀ w, St w0 w L → ∃ w' L', (execOp (ev T) o).run P w = .ok .skip w' ∧ St w0 w' L' ∧ (∀ w, St w0 w L' → Z w) ∧ GT P n l.toArray Q Z w0 (up o.dst undef T) L' r) : Alone P n l.toArray Q Z w0 T L i r := fun a w hA S =>
 ⟨o, at_list ho, ot_one (at_list ho) hA hc fun K' hK => by
  obtain ⟨w', L', h1, h2, h3, h4⟩ := hv w S
  rw [h1]
  exact hK.out _ _ (h3 _ h2) (h4 _ _ (hA.put (hA.takes hc).ok undef) h2)⟩
theorem Alone.reads {i : Nat} (v : Value) (ho : l[i]? = some o) (hc : chk n T l.toArray o = true) (hv : ∀ w, St w0 w L → (execOp (ev T) o).run P w = .ok (.value v) w) (hz : ∀ w, St w0 w L → Z w) (k : GT P n l.toArray Q Z w0 (up o.dst v T) L r) : Alone P n l.toArray Q Z w0 T L i r :=
 Alone.turns ho hc fun w S => ⟨v, w, L, hv w S, S, hz, k⟩
theorem Alone.ld {i : Nat} (t : TypeId) (x : Operand) (b off j : Nat) (vs cs : List Value) (ho : l[i]? = some o) (hop : o.op = .load t x) (hc : chk n T l.toArray o = true) (hx : ev T x = .pointer (some ⟨b, off, none⟩)) (hL : L[j]? = some (vr b vs)) (hcs : (vs.drop off).take cs.length = cs)
  (hr : isRow P t = true) (hi : (P.info? t).map (·.size) = some cs.length) (hz : ∀ w, St w0 w L → Z w) (k : GT P n l.toArray Q Z w0 (up o.dst (.agg cs.toArray) T) L r) : Alone P n l.toArray Q Z w0 T L i r :=
 Alone.reads _ ho hc (fun w S => by
  obtain ⟨d, hu, hd⟩ := isRow_spec hr
  unfold execOp
  have h := run_loadAt_mid (P := P) w b off t cs d (fun j' v hv => S.cell j hL (off + j') (by
   rw [← hcs] at hv
   have hj : j' < cs.length := by have := (List.getElem?_eq_some_iff.1 hv).1; rw [List.length_take] at this; omega
   rwa [List.getElem?_take, if_pos hj, List.getElem?_drop] at hv)) hu hd hi
  simp only [hop, hx, Sem.run_bind, h, Sem.run_pure, Result.andThen_ok]) hz k
theorem Alone.ld1 {i : Nat} (t : TypeId) (x : Operand) (b off j : Nat) (vs : List Value) (v : Value) (ho : l[i]? = some o) (hop : o.op = .load t x) (hc : chk n T l.toArray o = true) (hx : ev T x = .pointer (some ⟨b, off, none⟩)) (hL : L[j]? = some (vr b vs)) (hv : vs[off]? = some v)
  (hr : isCell P t = true) (hz : ∀ w, St w0 w L → Z w) (k : GT P n l.toArray Q Z w0 (up o.dst v T) L r) : Alone P n l.toArray Q Z w0 T L i r :=
 Alone.reads v ho hc (fun w S => by
  unfold execOp
  simp only [hop, hx, Sem.run_bind, run_cell hr (S.cell j hL off hv), Sem.run_pure, Result.andThen_ok]) hz k
theorem Alone.alloc {i : Nat} (t : TypeId) (z : Value) (vs : List Value) (ho : l[i]? = some o) (hop : o.op = .alloc t) (hc : chk n T l.toArray o = true) (hz : ∀ w, (zeroValue t).run P w = .ok z w) (hx : z.cells = vs.toArray) (hZ : ∀ w, St w0 w L → Z w)
  (k : ∀ b, GT P n l.toArray Q Z w0 (up o.dst (.pointer (some ⟨b, 0, none⟩)) T) (vr b vs :: L) r) : Alone P n l.toArray Q Z w0 T L i r :=
 Alone.turns ho hc fun w S => ⟨_, _, _, by
  unfold execOp
  simp only [hop, Sem.run_bind, Instr.alloc, newVar, newRow, hz, run_newObj_alloc, Sem.run_pure, Result.andThen_ok, hx], S.alloc vs t, fun w S => hZ w (St.tail S), k _⟩
theorem Alone.sto {i : Nat} (t : TypeId) (x y : Operand) (b off j : Nat) (vs us vs' : List Value) (L' : List Res) (ho : l[i]? = some o) (hop : o.op = .store t x y) (hc : chk n T l.toArray o = true) (hx : ev T x = .pointer (some ⟨b, off, none⟩)) (hy : (ev T y).cells = us.toArray) (hL : L[j]? = some (vr b vs))
  (hvs : (us.foldl (fun (p : List Value × Nat) u => (p.1.set p.2 u, p.2 + 1)) (vs, off)).1 = vs') (hL' : L.set j (vr b vs') = L') (hl : Nat.ble (off + us.length) vs.length = true) (hi : (P.info? t).map (·.size) = some us.length) (h1 : us.all (·.oneCell') = true)
  (hZ : ∀ w, St w0 w L' → Z w) (k : GT P n l.toArray Q Z w0 (up o.dst undef T) L' r) : Alone P n l.toArray Q Z w0 T L i r :=
 Alone.acts ho hc fun w S => by
  have hl' : off + us.length ≤ vs.length := Nat.le_of_ble_eq_true hl
  have ht : w.there b off us.toArray.size := fun j' hj => by
   have hj' : off + j' < vs.length := by simp at hj; omega
   exact ⟨by rw [S.cell j hL (off + j') (List.getElem?_eq_getElem hj')]; rfl, S.loose j hL (off + j') (List.getElem?_eq_getElem hj')⟩
  refine ⟨w.setCells b off us, L', ?_, ?_, hZ, k⟩
  ·
   unfold execOp
   have hcells : (storeVar t ⟨b, off, none⟩ (ev T y)).run P w = (storeVar t ⟨b, off, none⟩ (.agg us.toArray)).run P w := by
    unfold storeVar
    rw [hy]
    rfl
   have hs := run_storeVar_mid (P := P) w b off t us.toArray ht (by simpa using hi) (by simpa using h1)
   simp only [hop, Sem.run_bind, Instr.storeAt, Instr.sureAddr, hx, Sem.run_pure, Result.andThen_ok, hcells, hs]
  ·
   subst hvs hL'
   exact S.turn j hL (vr b _) (Only.setCells (show (vr b vs).foot b from rfl) us off w) (Var.setCells us vs off w (S.at_ j hL)) (fun k hk => .inl hk) (show w0.heap.size ≤ b from S.lo j (vr b vs) hL) (by rw [setCells_size]; have := S.hi j (vr b vs) hL; simpa [vr] using this)
theorem Alone.made {i : Nat} (e : TypeId) (vs : List Value) (m : Nat) (ho : l[i]? = some o) (hc : chk n T l.toArray o = true) (hr : ∀ w : World, (execOp (ev T) o).run P w = .ok (.value (.slice (some ⟨w.heap.size, 0, none⟩) m m)) (w.alloc (.cells vs.toArray e))) (hZ : ∀ w, St w0 w L → Z w)
  (k : ∀ b, GT P n l.toArray Q Z w0 (up o.dst (.slice (some ⟨b, 0, none⟩) m m) T) (vr b vs :: L) r) : Alone P n l.toArray Q Z w0 T L i r :=
 Alone.turns ho hc fun w S => ⟨_, _, _, hr w, S.alloc vs e, fun w S => hZ w (St.tail S), k _⟩
theorem Alone.apps {i : Nat} {α : Type} {q : Rp α} {e : TypeId} (j : Nat) {lo hi : Nat} {xs : List α} {v : Value} {F : List Nat} (hk : L[j]? = some (ow (rLst e q) lo hi xs [v] F)) {ys : List α} (zs : List α) {vx : Value} (hxs : ∀ w, St w0 w L → rdLst q w 0 w.heap.size ys [vx]) (hzz : xs ++ ys = zs) (m : Nat) (hm : zs.length = m) (hf : Flat q)
  (s x : Operand) (t : TypeId) (size bytes : Nat) (ho : l[i]? = some o) (hop : o.op = .call { callee := .builtin .append, args := #[s, x], argTypes := #[t, t] }) (hc : chk n T l.toArray o = true) (he : elemB P t e size bytes = true) (hr : q.sz = size)
  (hs : ev T s = v) (hx : ev T x = vx) (h63 : xs.length + ys.length ≤ maxLen) (hbytes : (xs.length + ys.length) * bytes ≤ 140737488355328)
  (hZ : ∀ A c F' hi', ∀ w, St w0 w (L.set j (ow (rLst e q) w0.heap.size hi' zs [.slice A m c] F')) → Z w)
  (k : ∀ A c F' hi', m ≤ c → GT P n l.toArray Q Z w0 (up o.dst (.slice A m c) T) (L.set j (ow (rLst e q) w0.heap.size hi' zs [.slice A m c] F')) r) : Alone P n l.toArray Q Z w0 T L i r :=
 Alone.turns ho hc fun w S => by
  obtain ⟨ht, hsz, y, z, hi', hz, hsize, hby, hzs⟩ := elemB_spec he
  obtain ⟨A, c, F', w', hmc, h1, h2⟩ := apps_run S j hk (hxs w S) hzz m hm hf s x t hop y z size bytes ht hi' hz hsize hby hzs hsz hr hs hx h63 hbytes
  exact ⟨_, w', _, h1, h2, hZ A c F' _, k A c F' _ hmc⟩
theorem C.cut {c : Code} (R : Exit → Act → World → Prop) (h : C P n R w0 T L c) (k : ∀ e a w, R e a w → Q e a w) : C P n Q w0 T L c := fun a w hA S => wp_mono (h a w hA S) k
theorem Ag.none {n : Nat} {T : Tl} {a : Act} (h : Ag n T a) : Ag n [] a := ⟨h.size, h.defers, fun s v hs => by cases hs⟩
theorem Ag.and {n : Nat} {T T' : Tl} {a : Act} (h : Ag n T a) (h' : Ag n T' a) (s : Nat) (v : Value) (hv : look T s = some v) : Ag n ((s, v) :: T') a :=
 ⟨h.size, h.defers, fun q u hq => by
  simp only [look] at hq
  by_cases e : s = q
  ·
   subst e
   rw [Nat.beq_refl, cond_true] at hq
   cases hq
   exact h.at_ s v hv
  ·
   have hb : Nat.beq s q = false := by rw [← Bool.not_eq_true, Nat.beq_eq]; exact e
   rw [hb, cond_false] at hq
   exact h'.at_ q u hq⟩
theorem E.retc {fn : Func} {R : Ending → World → Prop} {t : Tmp} {ty : TypeId} (b i : Nat) (vs : List Value) (hr : fn.results = #[.cell t ty]) (ht : look T t = some (.pointer (some ⟨b, 0, none⟩))) (hL : L[i]? = some (vr b vs)) (hrow : isRow P ty = true) (hi : (P.info? ty).map (·.size) = some vs.length)
  (h : ∀ w, St w0 w L → R (.returned (.agg vs.toArray)) w) : E n (bodyPost P fn R) w0 T L .ret := fun a w hA S => by
 obtain ⟨d, hu, hd⟩ := isRow_spec hrow
 have hl := run_loadVar_mid (P := P) w b 0 ty vs d (S.range i hL) hu hd hi
 have hg : a.tmps[t]?.getD undef = .pointer (some ⟨b, 0, none⟩) := by rw [hA.at_ t _ ht]; rfl
 exact bodyPost_ret (v := .agg vs.toArray) (by simp [results, hr, hg, asAddr, hl]) hA.defers (h w S)
theorem E.ret2 {fn : Func} {R : Ending → World → Prop} {t u : Tmp} (v x : Value) (hr : fn.results = #[.tmp t, .tmp u]) (ht : look T t = some v) (hu : look T u = some x) (h : ∀ w, St w0 w L → R (.returned (.tuple #[v, x])) w) : E n (bodyPost P fn R) w0 T L .ret := fun a w hA S =>
 bodyPost_ret (v := .tuple #[v, x]) (by rw [results_tmp2 hr, Array.getD_eq_getD_getElem?, Array.getD_eq_getD_getElem?, hA.at_ t v ht, hA.at_ u x hu]; rfl) hA.defers (h w S)
theorem E.end_ {fn : Func} {R : Ending → World → Prop} (h : E n (bodyPost P fn R) w0 T L .ret) : E n (bodyPost P fn R) w0 T L .normal := h
end
def slots : Nat → List Value → Tl
 | _, [] => []
 | k, v :: r => (k, v) :: slots (k + 1) r
theorem look_slots : ∀ (l : List Value) (k s : Nat) (v : Value), look (slots k l) s = some v → k ≤ s ∧ l[s - k]? = some v
 | [], k, s, v, h => by cases h
 | u :: l, k, s, v, h => by
  simp only [slots, look] at h
  by_cases e : k = s
  ·
   subst e
   rw [Nat.beq_refl, cond_true] at h
   cases h
   exact ⟨Nat.le_refl _, by simp⟩
  ·
   have hb : Nat.beq k s = false := by rw [← Bool.not_eq_true, Nat.beq_eq]; exact e
   rw [hb, cond_false] at h
   obtain ⟨h1, h2⟩ := look_slots l (k + 1) s v h
   refine ⟨by omega, ?_⟩
   rw [show s - k = (s - (k + 1)) + 1 by omega, List.getElem?_cons_succ]
   exact h2
theorem enter {P : Program} {f : FuncId} {fn : Func} {c : Code} {args : List Value} {w : World} {R : Ending → World → Prop} {n : Nat} (hf : P.funcs[f]? = some fn) (hb : fn.body = some c) (hn : fn.ntmps = n) (hl : Nat.ble args.length n = true)
  (h : C P n (bodyPost P fn R) w (slots 0 args) [] c) : Calls P f args.toArray w R :=
 calls_of_wp hf hb (h _ w ⟨by
  have := Nat.le_of_ble_eq_true hl
  simp [hn]; omega, rfl, fun s v hs => by
  obtain ⟨_, h2⟩ := look_slots args 0 s v hs
  have hlt : s < args.length := by have := (List.getElem?_eq_some_iff.1 h2).1; simpa using this
  rw [Array.getElem?_append_left (by simpa using hlt)]
  simpa using h2⟩ (St.start w))
theorem St.join {w0 w w' : World} {L M : List Res} (S : St w0 w L) (U : St w w' M) : St w0 w' (M ++ L) := by
 have T := S.call U.below
 have key : ∀ (i : Nat) (s : Res), (M ++ L)[i]? = some s → (i < M.length ∧ M[i]? = some s) ∨ (M.length ≤ i ∧ L[i - M.length]? = some s) := fun i s h => by
  by_cases hi : i < M.length
  ·
   rw [List.getElem?_append_left hi] at h; exact .inl ⟨hi, h⟩
  ·
   rw [List.getElem?_append_right (by omega)] at h; exact .inr ⟨by omega, h⟩
 refine ⟨T.below, fun i s h => ?_, fun i s h => ?_, fun i s h => ?_, fun i j s t h1 h2 hne k hk hk' => ?_⟩
 ·
  rcases key i s h with ⟨_, h⟩ | ⟨_, h⟩
  ·
   exact U.says i s h
  ·
   exact T.says _ s h
 ·
  rcases key i s h with ⟨_, h⟩ | ⟨_, h⟩
  ·
   exact Nat.le_trans S.below.size (U.lo i s h)
  ·
   exact T.lo _ s h
 ·
  rcases key i s h with ⟨_, h⟩ | ⟨_, h⟩
  ·
   exact U.hi i s h
  ·
   exact T.hi _ s h
 ·
  rcases key i s h1 with ⟨a1, h1⟩ | ⟨a1, h1⟩
  ·
   rcases key j t h2 with ⟨a2, h2⟩ | ⟨a2, h2⟩
   ·
    exact U.apart i j s t h1 h2 hne k hk hk'
   ·
    have e1 := (U.footlt h1 hk).1; have e2 := (S.footlt h2 hk').2; omega
  ·
   rcases key j t h2 with ⟨a2, h2⟩ | ⟨a2, h2⟩
   ·
    have e1 := (U.footlt h2 hk').1; have e2 := (S.footlt h1 hk).2; omega
   ·
    exact T.apart _ _ s t h1 h2 (by omega) k hk hk'
end Go.Proofs.YtmiokacihcpepaaGreat.Sx
namespace Go.Proofs.YtmiokacihcpepaaGreat.Sx
set_option maxHeartbeats 8000000
set_option maxRecDepth 100000
set_option maxRecDepth 100000
open Go.ChangeShapes Go.WideShapes Go.ChangeAt Go.RowKit Go.Deep
open Go.Proofs.YtmiokacihcpepaaGreat.Base Go.Proofs.YtmiokacihcpepaaGreat.Mem Go.Proofs.YtmiokacihcpepaaGreat.Data Go.Proofs.YtmiokacihcpepaaGreat.Stt
set_option linter.unusedVariables false
set_option linter.unusedSimpArgs false
def resRun (tmps : Array Value) : ResultVar → Sem Value
 | .tmp t => pure (tmps.getD t undef)
 | .cell a t => do loadVar t (← asAddr (tmps.getD a undef))
def IsRes (P : Program) (n : Nat) (w0 : World) (T : Tl) (L : List Res) (r : ResultVar) (v : Value) : Prop := ∀ a w, Ag n T a → St w0 w L → (resRun a.tmps r).run P w = .ok v w
section
variable {P : Program} {n : Nat} {Q : Exit → Act → World → Prop} {w0 : World} {T : Tl} {L : List Res} {fn : Func} {R : Ending → World → Prop}
theorem IsRes.slot {t : Tmp} {v : Value} (ht : look T t = some v) : IsRes P n w0 T L (.tmp t) v := fun a w hA S => by
 simp only [resRun, Sem.run_pure]
 rw [Array.getD_eq_getD_getElem?, hA.at_ t v ht]; rfl
theorem IsRes.row {t : Tmp} {ty : TypeId} (b i : Nat) (vs : List Value) (ht : look T t = some (.pointer (some ⟨b, 0, none⟩))) (hL : L[i]? = some (vr b vs)) (hrow : isRow P ty = true) (hi : (P.info? ty).map (·.size) = some vs.length) : IsRes P n w0 T L (.cell t ty) (.agg vs.toArray) := fun a w hA S => by
 obtain ⟨d, hu, hd⟩ := isRow_spec hrow
 have hl := run_loadVar_mid (P := P) w b 0 ty vs d (S.range i hL) hu hd hi
 have hg : a.tmps.getD t undef = .pointer (some ⟨b, 0, none⟩) := by rw [Array.getD_eq_getD_getElem?, hA.at_ t _ ht]; rfl
 simp only [resRun, hg, asAddr, Sem.run_bind, Sem.run_pure, Result.andThen_ok, hl]
theorem IsRes.one {t : Tmp} {ty : TypeId} (b i : Nat) (v : Value) (ht : look T t = some (.pointer (some ⟨b, 0, none⟩))) (hL : L[i]? = some (vr b [v])) (hr : isCell P ty = true) : IsRes P n w0 T L (.cell t ty) v := fun a w hA S => by
 obtain ⟨d, hu, hd⟩ := isCell_spec hr
 have hcell := S.cell i hL 0 (v := v) rfl
 have hagg : (isAgg ty).run P w = .ok false w := by
  unfold isAgg
  rw [Sem.run_bind, run_underlying hu w]
  cases d <;> simp_all
 have hg : a.tmps.getD t undef = .pointer (some ⟨b, 0, none⟩) := by rw [Array.getD_eq_getD_getElem?, hA.at_ t _ ht]; rfl
 simp only [resRun, hg, asAddr, loadVar, Sem.run_bind, Sem.run_pure, Result.andThen_ok, hagg, Bool.false_eq_true, if_false, run_load, hcell]
theorem results_map (fn : Func) (tmps : Array Value) : results fn tmps = (do let vs ← fn.results.mapM (resRun tmps); pure (if h : vs.size = 1 then vs[0] else .tuple vs)) := by
 have e : (resRun tmps) = (fun | .tmp t => pure (tmps.getD t undef) | .cell a t => do loadVar t (← asAddr (tmps.getD a undef))) := by funext r; cases r <;> rfl
 rw [e]; rfl
theorem results_two {r s : ResultVar} {u v : Value} {tmps : Array Value} {w : World} (hr : fn.results = #[r, s]) (h1 : (resRun tmps r).run P w = .ok u w) (h2 : (resRun tmps s).run P w = .ok v w) : (results fn tmps).run P w = .ok (.tuple #[u, v]) w := by
 rw [results_map, hr]; simp [h1, h2]
theorem E.retg2 {r s : ResultVar} (u v : Value) (hr : fn.results = #[r, s]) (h1 : IsRes P n w0 T L r u) (h2 : IsRes P n w0 T L s v) (h : ∀ w, St w0 w L → R (.returned (.tuple #[u, v])) w) : E n (bodyPost P fn R) w0 T L .ret := fun a w hA S =>
 bodyPost_ret (results_two hr (h1 a w hA S) (h2 a w hA S)) hA.defers (h w S)
end
end Go.Proofs.YtmiokacihcpepaaGreat.Sx
namespace Go.Proofs.YtmiokacihcpepaaGreat.Draw
set_option maxHeartbeats 8000000
set_option maxRecDepth 100000
set_option maxRecDepth 100000
open Go.ChangeShapes Go.WideShapes Go.ChangeAt Go.RowKit
open Go.Proofs.YtmiokacihcpepaaGreat.Base
def CodeAt (w : World) (A : Option Addr) (n : Nat) : Prop :=
 ∀ k, k < n → ∃ (b off : Nat) (x : Int), A = some ⟨b, off, none⟩ ∧ b < w.heap.size ∧ 0 ≤ x ∧ x ≤ 255 ∧ w.cell? ⟨b, off + k, none⟩ = some (.int .u8 x)
theorem CodeAt.below {w w' : World} {A : Option Addr} {n : Nat} (h : CodeAt w A n) (hb : Below w.heap.size w w') : CodeAt w' A n := fun k hk => by
 obtain ⟨b, off, x, e, h1, h2, h3, h4⟩ := h k hk
 exact ⟨b, off, x, e, Nat.lt_of_lt_of_le h1 hb.size, h2, h3, (hb.cell h1).trans h4⟩
def Cur (w0 : World) (A : Option Addr) (n c : Nat) (w : World) (g : Nat) : Prop :=
 Below w0.heap.size w0 w ∧ w0.heap.size ≤ g ∧ ∃ (i : Nat) (h : Int), i ≤ n ∧ w.heap[g]? = some (.cells #[.slice A n c, .int .i64 i, .int .i64 h] 128 (0, 0))
def BytePost (w0 : World) (A : Option Addr) (n c : Nat) (w : World) (g : Nat) (m : Int) (e : Ending) (w' : World) : Prop :=
 ∃ x : Int, e = .returned (.int .i64 x) ∧ 0 ≤ x ∧ x < m ∧ Cur w0 A n c w' g ∧ w.grownBy w' (some g)
theorem and255 (n : Int) : bits .and .i64 n 255 = n % 256 := by
 have h1 : (BitVec.ofInt 64 255).toNat = 2 ^ 8 - 1 := by decide
 have h2 : (BitVec.ofInt 64 n &&& BitVec.ofInt 64 255).toNat = (n % ((2 ^ 64 : Nat) : Int)).toNat % 2 ^ 8 := by
  rw [BitVec.toNat_and, BitVec.toNat_ofInt, h1, Nat.and_two_pow_sub_one_eq_mod]
 change IntKind.i64.wrap ((BitVec.ofInt 64 n &&& BitVec.ofInt 64 255).toNat : Nat) = n % 256
 rw [h2, IntKind.wrap_i64]
 omega
theorem and255_bd (n : Int) : 0 ≤ bits .and .i64 n 255 ∧ bits .and .i64 n 255 < 256 := by rw [and255]; omega
theorem blk_set1 {w : World} {g : Nat} {T : TypeId} {x y z u : Value} (h : w.heap[g]? = some (.cells #[x, y, z] T (0, 0))) : (w.setCell ⟨g, 1, none⟩ u).heap[g]? = some (.cells #[x, u, z] T (0, 0)) := by
 simp [World.setCell, Array.getElem?_modify, h]
theorem blk_set2 {w : World} {g : Nat} {T : TypeId} {x y z u : Value} (h : w.heap[g]? = some (.cells #[x, y, z] T (0, 0))) : (w.setCell ⟨g, 2, none⟩ u).heap[g]? = some (.cells #[x, y, u] T (0, 0)) := by
 simp [World.setCell, Array.getElem?_modify, h]
theorem grown_set (w : World) (g j : Nat) (u : Value) : w.grownBy (w.setCell ⟨g, j, none⟩ u) (some g) :=
 ⟨rfl, rfl, rfl, by simp, fun i _ hne => Below.heap_setCell w ⟨g, j, none⟩ u i (fun h => hne (by rw [h]))⟩
theorem grown_drewN {a w : World} {row : Option Nat} (h : a.grownBy w row) (n : Nat) : a.grownBy (w.drewN n) row := ⟨h.os, h.tape, h.output, h.size, h.block⟩
theorem grown_trans {a b c : World} {row : Option Nat} (h : a.grownBy b row) (k : b.grownBy c row) : a.grownBy c row :=
 ⟨k.os.trans h.os, k.tape.trans h.tape, k.output.trans h.output, Nat.le_trans h.size k.size, fun i hi hne => (k.block i (Nat.lt_of_lt_of_le hi h.size) hne).trans (h.block i hi hne)⟩
theorem byte_any (w0 : World) (A : Option Addr) (n c g : Nat) (w : World) (hn : n ≤ 1048576) (hcode : CodeAt w0 A n) (hcur : Cur w0 A n c w g) :
  Calls Tryz.prog 130 #[.pointer (some ⟨g, 0, none⟩)] w (BytePost w0 A n c w g 256) := by
 obtain ⟨hb, hg, i, h, hi, hblk⟩ := hcur
 have c0 : w.cell? ⟨g, 0, none⟩ = some (.slice A n c) := cell_of_row w g 0 _ _ _ hblk
 have c1 : w.cell? ⟨g, 1, none⟩ = some (.int .i64 i) := cell_of_row w g 1 _ _ _ hblk
 have c2 : w.cell? ⟨g, 2, none⟩ = some (.int .i64 h) := cell_of_row w g 2 _ _ _ hblk
 have f1 : w.frozen? ⟨g, 1, none⟩ = false := by simp [World.frozen?, hblk]
 have f2 : w.frozen? ⟨g, 2, none⟩ = false := by simp [World.frozen?, hblk]
 have HB := Lib.hid hblk
 clear hblk
 have bd := Lib.hid and255_bd
 by_cases hlt : i < n
 ·
  obtain ⟨b, off, x, rfl, hbw, hx0, hx1, hx⟩ := hcode i hlt
  have hne : g ≠ b := by omega
  have hne' : b ≠ g := by omega
  have hcx : w.cell? ⟨b, off + i, none⟩ = some (.int .u8 x) := (hb.cell hbw).trans hx
  have hcx2 : ∀ v, (w.setCell ⟨g, 2, none⟩ v).cell? ⟨b, off + i, none⟩ = some (.int .u8 x) := fun v => by
   rw [World.cell?_setCell_far w _ _ v hne]; exact hcx
  have hi0 : (0 : Int) ≤ (i : Int) := Int.natCast_nonneg _
  have hi1 : (i : Int) < (n : Int) := by omega
  clear hx hcx
  go_enter Tryz.func130, Tryz.ntmps130
  go_wp2
  go_quiet (fail)
  go_wp2
  go_quiet (fail)
  go_wp2
  go_quiet (fail)
  go_wp2
  go_ret
  have hB2 : (((w.setCell ⟨g, 2, none⟩ (.int .i64 (wrap64 (wrap64 (h * 6364136223846793005) + 1442695040888963407)))).drewN (nq + 0)).heap[g]? = some (.cells #[.slice (some ⟨b, off, none⟩) n c, .int .i64 i, .int .i64 (wrap64 (wrap64 (h * 6364136223846793005) + 1442695040888963407))] 128 (0, 0))) := blk_set2 HB.out
  exact ⟨_, rfl, (bd.out _).1, (bd.out _).2, ⟨(below_drewN (hb.setCell (p := ⟨g, 2, none⟩) hg _) _).setCell (p := ⟨g, 1, none⟩) hg _, hg, i + 1, _, by omega, blk_set1 hB2⟩, grown_trans (grown_drewN (grown_set w g 2 _) _) (grown_set _ g 1 _)⟩
 ·
  go_enter Tryz.func130, Tryz.ntmps130
  go_wp2
  go_quiet (fail)
  go_wp2
  go_quiet (fail)
  go_wp2
  go_ret
  exact ⟨_, rfl, (bd.out _).1, (bd.out _).2, ⟨below_drewN (below_drewN (hb.setCell (p := ⟨g, 2, none⟩) hg _) _) _, hg, i, _, hi, blk_set2 HB.out⟩, grown_drewN (grown_drewN (grown_set w g 2 _) _) _⟩
theorem below_any (w0 : World) (A : Option Addr) (n c g : Nat) (w : World) (m : Int) (hm0 : 0 < m) (hm1 : m ≤ 4294967296) (hn : n ≤ 1048576) (hcode : CodeAt w0 A n) (hcur : Cur w0 A n c w g) :
  Calls Tryz.prog 68 #[.pointer (some ⟨g, 0, none⟩), .int .i64 m] w (BytePost w0 A n c w g m) := by
 have HC := Lib.hid hcode
 have HU := Lib.hid hcur
 clear hcode hcur
 have hm2 : ¬ m ≤ 0 := by omega
 by_cases h256 : m ≤ 256
 ·
  go_enter Tryz.func68, Tryz.ntmps68
  go_wp2_with (go_at_call 130; refine (byte_any w0 A n c g _ hn HC.out HU.out).mono ?_; rintro e w1 ⟨x, rfl, hx0, hx1, hc1, hg1⟩)
  go_ret
  exact ⟨_, rfl, Int.emod_nonneg _ (by omega), Int.emod_lt_of_pos _ hm0, hc1, hg1⟩
 ·
  go_enter Tryz.func68, Tryz.ntmps68
  go_wp2_with fail
  refine (byte_any w0 A n c g _ hn HC.out HU.out).mono ?_
  rintro e w1 ⟨x, rfl, hx0, hx1, hc1, hg1⟩
  go_wp2_with fail
  refine (byte_any w0 A n c g _ hn HC.out hc1).mono ?_
  rintro e w2 ⟨y, rfl, hy0, hy1, hc2, hg2⟩
  go_wp2_with fail
  refine (byte_any w0 A n c g _ hn HC.out hc2).mono ?_
  rintro e w3 ⟨z, rfl, hz0, hz1, hc3, hg3⟩
  go_wp2_with fail
  refine (byte_any w0 A n c g _ hn HC.out hc3).mono ?_
  rintro e w4 ⟨u, rfl, hu0, hu1, hc4, hg4⟩
  go_wp2_with fail
  go_ret
  exact ⟨_, rfl, Int.emod_nonneg _ (by omega), Int.emod_lt_of_pos _ hm0, hc4, grown_trans (grown_trans (grown_trans hg1 hg2) hg3) hg4⟩
def NewPost (A : Option Addr) (n c : Nat) (w : World) (e : Ending) (w' : World) : Prop :=
 e = .returned (.pointer (some ⟨w.heap.size, 0, none⟩)) ∧ Cur w A n c w' w.heap.size ∧ w'.heap.size = w.heap.size + 1
theorem new_end (A : Option Addr) (n c : Nat) (w : World) (x : Int) : NewPost A n c w (.returned (.pointer (some ⟨w.heap.size, 0, none⟩))) (w.alloc (.cells #[.slice A n c, .int .i64 0, .int .i64 x] 128)) :=
 ⟨rfl, ⟨(Below.refl _ _).alloc (Nat.le_refl _) _, Nat.le_refl _, 0, x, Nat.zero_le _, heap_alloc_new w _⟩, by simp⟩
theorem new_any (A : Option Addr) (n c : Nat) (w : World) (hn : n ≤ 1048576) (hcode : CodeAt w A n) :
  Calls Tryz.prog 66 #[.slice A n c] w (NewPost A n c w) := by
 have HC := Lib.hid hcode
 clear hcode
 go_enter Tryz.func66, Tryz.ntmps66
 go_wp2
 go_loop [3, 4] (fun h i => ∃ (k : Nat) (x : Int), k ≤ n ∧ k ≤ 4000 ∧ i = .int .i64 k ∧ h = .int .i64 x) (fun _ i => n - (intOf i).toNat)
 case atStart => exact ⟨0, _, Nat.zero_le _, Nat.zero_le _, rfl, rfl⟩
 case round =>
  obtain ⟨k, x, hk, hk2, rfl, rfl⟩ := hrel
  by_cases hlt : k < n
  ·
   by_cases hlt2 : k < 4000
   ·
    obtain ⟨b, off, y, rfl, hbw, hy0, hy1, hy⟩ := HC.out k hlt
    have hi0 : (0 : Int) ≤ (k : Int) := Int.natCast_nonneg _
    have hi1 : (k : Int) < (n : Int) := by omega
    go_wp2
    go_round
    case rel => exact ⟨k + 1, _, by omega, by omega, by go_num, rfl⟩
    case measure => simp [intOf]; omega
   ·
    go_wp2
    go_ret
    exact new_end A n c w x
  ·
   go_wp2
   go_ret
   exact new_end A n c w x
theorem row_ne_blk {w : World} {b n g : Nat} {e T : TypeId} {v : Value} {xs : List Value} {cs : Array Value} (h : w.ownsRow b e 1 v n xs) (hg : w.heap[g]? = some (.cells cs T (0, 0))) (hne : e ≠ T) : v.ownBlock ≠ some g := by
 rcases h.2 with ⟨rfl, _⟩ | ⟨g', c, cur, rfl, _, hg', _⟩
 ·
  intro he; cases he
 ·
  intro he
  have : g' = g := by simpa [Value.ownBlock] using he
  subst this
  rw [hg] at hg'
  injection hg' with hg'
  injection hg' with _ ht
  exact hne ht.symm
theorem Cur.ne {w0 w : World} {A : Option Addr} {n c g b k : Nat} {e : TypeId} {v : Value} {xs : List Value} (h : Cur w0 A n c w g) (hr : w.ownsRow b e 1 v k xs) (hne : e ≠ 128) : v.ownBlock ≠ some g := by
 obtain ⟨_, _, _, _, _, hb⟩ := h
 exact row_ne_blk hr hb hne
theorem Cur.lt {w0 w : World} {A : Option Addr} {n c g : Nat} (h : Cur w0 A n c w g) : g < w.heap.size := by
 obtain ⟨_, _, _, _, _, hb⟩ := h
 rcases Nat.lt_or_ge g w.heap.size with h' | h'
 ·
  exact h'
 ·
  rw [Array.getElem?_eq_none h'] at hb; cases hb
theorem Cur.grown {w0 w w' : World} {A : Option Addr} {n c g : Nat} {row : Option Nat} (h : Cur w0 A n c w g) (hg : w.grownBy w' row) (hne : row ≠ some g) (hr : ∀ k, row = some k → w0.heap.size ≤ k) : Cur w0 A n c w' g := by
 have hlt := h.lt
 obtain ⟨hb, hg0, i, x, hi, hk⟩ := h
 exact ⟨hb.grown hg hb.size hr, hg0, i, x, hi, (hg.block g hlt (Ne.symm hne)).trans hk⟩
theorem Cur.alloc {w0 w : World} {A : Option Addr} {n c g : Nat} (h : Cur w0 A n c w g) (o : Obj) : Cur w0 A n c (w.alloc o) g :=
 h.grown (World.grownBy_alloc w o none) (by simp) (fun _ h => by cases h)
end Go.Proofs.YtmiokacihcpepaaGreat.Draw
namespace Go.Proofs.YtmiokacihcpepaaGreat.Sx
set_option maxHeartbeats 8000000
set_option maxRecDepth 100000
set_option maxRecDepth 100000
open Go.ChangeShapes Go.WideShapes Go.ChangeAt Go.RowKit Go.Deep
open Go.Proofs.YtmiokacihcpepaaGreat.Base Go.Proofs.YtmiokacihcpepaaGreat.Mem Go.Proofs.YtmiokacihcpepaaGreat.Data Go.Proofs.YtmiokacihcpepaaGreat.Stt Go.Proofs.YtmiokacihcpepaaGreat.Draw
set_option linter.unusedVariables false
theorem enterS {P : Program} {f : FuncId} {fn : Func} {c : Code} {args : List Value} {w0 w : World} {L : List Res} {R : Ending → World → Prop} {n : Nat} (S : St w0 w L) (hf : P.funcs[f]? = some fn) (hb : fn.body = some c) (hn : fn.ntmps = n) (hl : Nat.ble args.length n = true)
  (h : C P n (bodyPost P fn R) w0 (slots 0 args) L c) : Calls P f args.toArray w R :=
 calls_of_wp hf hb (h _ w ⟨by
  have := Nat.le_of_ble_eq_true hl
  simp [hn]; omega, rfl, fun s v hs => by
  obtain ⟨_, h2⟩ := look_slots args 0 s v hs
  have hlt : s < args.length := by have := (List.getElem?_eq_some_iff.1 h2).1; simpa using this
  rw [Array.getElem?_append_left (by simpa using hlt)]
  simpa using h2⟩ S)
def cu (A : Option Addr) (n c g : Nat) : Res where
 says w := ∃ (i : Nat) (h : Int), i ≤ n ∧ w.heap[g]? = some (.cells #[.slice A n c, .int .i64 i, .int .i64 h] 128 (0, 0))
 foot k := k = g
 lo := g
 hi := g + 1
 inn k h := by omega
 kept h hk := by
  obtain ⟨i, x, hi, hb⟩ := h
  exact ⟨i, x, hi, (hk g rfl).trans hb⟩
def frm (w0 w : World) (g : Nat) : Res where
 says w' := ∀ k, w0.heap.size ≤ k → k < w.heap.size → k ≠ g → w'.heap[k]? = w.heap[k]?
 foot k := w0.heap.size ≤ k ∧ k < w.heap.size ∧ k ≠ g
 lo := w0.heap.size
 hi := w.heap.size
 inn k h := ⟨h.1, h.2.1⟩
 kept h hk := fun k h1 h2 h3 => (hk k ⟨h1, h2, h3⟩).trans (h k h1 h2 h3)
section
variable {w0 w w' : World} {L : List Res} {A : Option Addr} {n c g : Nat} {r : Res}
theorem St.cur (S : St w0 w L) (i : Nat) (h : L[i]? = some (cu A n c g)) : Cur w0 A n c w g := ⟨S.below, S.lo i _ h, S.at_ i h⟩
theorem St.grown (S : St w0 w' L) (i : Nat) (h : L[i]? = some (frm w0 w g)) (hb : Below w0.heap.size w0 w) : w.grownBy w' (some g) :=
 ⟨S.below.os.trans hb.os.symm, S.below.tape.trans hb.tape.symm, S.below.output.trans hb.output.symm, S.hi i _ h, fun k hk hne => by
  by_cases h0 : k < w0.heap.size
  ·
   exact (S.below.block k h0).trans (hb.block k h0).symm
  ·
   exact S.at_ i h k (by omega) hk (fun e => hne (by rw [e]))⟩
structure Fresh (w0 w w' : World) (M : List Res) : Prop where
 says : ∀ (i : Nat) (r : Res), M[i]? = some r → r.says w'
 lo : ∀ (i : Nat) (r : Res), M[i]? = some r → w0.heap.size ≤ r.lo
 hi : ∀ (i : Nat) (r : Res), M[i]? = some r → r.hi ≤ w'.heap.size
 new : ∀ (i : Nat) (r : Res), M[i]? = some r → ∀ k, r.foot k → w.heap.size ≤ k
 apart : ∀ (i j : Nat) (r s : Res), M[i]? = some r → M[j]? = some s → i ≠ j → ∀ k, r.foot k → ¬ s.foot k
theorem St.made {M : List Res} (S : St w0 w' (cu A n c g :: frm w0 w g :: M)) : Fresh w0 w w' M := by
 have at2 : ∀ {i : Nat} {r : Res}, M[i]? = some r → (cu A n c g :: frm w0 w g :: M)[i + 2]? = some r := fun h => h
 refine ⟨fun i r h => S.says _ r (at2 h), fun i r h => S.lo _ r (at2 h), fun i r h => S.hi _ r (at2 h), fun i r h k hk => ?_, fun i j r s h1 h2 hne => S.apart _ _ r s (at2 h1) (at2 h2) (by omega)⟩
 rcases Nat.lt_or_ge k w.heap.size with hlt | hge
 ·
  have h0 := (S.footlt (at2 h) hk).1
  by_cases e : k = g
  ·
   exact absurd e (S.apart (i + 2) 0 r (cu A n c g) (at2 h) rfl (by omega) k hk)
  ·
   exact absurd ⟨h0, hlt, e⟩ (S.apart (i + 2) 1 r (frm w0 w g) (at2 h) rfl (by omega) k hk)
 ·
  exact hge
theorem wf_small {x : Int} (h0 : 0 ≤ x) (h1 : x < 4294967296) : (Lit.int .i64 x).wf = true := by
 simp [Lit.wf]
 have e1 : IntKind.i64.min = -9223372036854775808 := by decide
 have e2 : IntKind.i64.max = 9223372036854775807 := by decide
 omega
def bk (b : Nat) (cs : List Value) (t : TypeId) : Res where
 says w := w.heap[b]? = some (.cells cs.toArray t (0, 0))
 foot k := k = b
 lo := b
 hi := b + 1
 inn k h := by omega
 kept h hk := (hk b rfl).trans h
theorem G.block {P : Program} {n : Nat} {ops : Array Oper} {Q : Exit → Act → World → Prop} {T : Tl} {rest : List Oper} {o : Oper} (e : TypeId) (vs : List Value) (m : Nat) (hc : chk n T ops o = true) (hr : ∀ w : World, (execOp (ev T) o).run P w = .ok (.value (.slice (some ⟨w.heap.size, 0, none⟩) m m)) (w.alloc (.cells vs.toArray e)))
  (k : ∀ b, G P n ops Q w0 (up o.dst (.slice (some ⟨b, 0, none⟩) m m) T) (bk b vs e :: L) rest) : G P n ops Q w0 T L (o :: rest) :=
 G.turns hc fun w S => ⟨_, _, _, hr w, S.add ((Below.refl _ _).alloc (Nat.le_refl _) _) (bk w.heap.size vs e) (heap_alloc_new w _) (Nat.le_refl _) (by simp [bk]), k _⟩
end
end Go.Proofs.YtmiokacihcpepaaGreat.Sx
namespace Go.Proofs.YtmiokacihcpepaaGreat.Sx
set_option maxHeartbeats 8000000
set_option maxRecDepth 100000
set_option maxRecDepth 100000
open Go.ChangeShapes Go.WideShapes Go.ChangeAt Go.RowKit Go.Deep
open Go.Proofs.YtmiokacihcpepaaGreat.Base Go.Proofs.YtmiokacihcpepaaGreat.Mem Go.Proofs.YtmiokacihcpepaaGreat.Data Go.Proofs.YtmiokacihcpepaaGreat.Stt
set_option linter.unusedVariables false
section
variable {P : Program} {n : Nat} {w0 : World} {T : Tl} {L : List Res} {fn : Func} {R : Ending → World → Prop}
theorem results_none {tmps : Array Value} {w : World} (hr : fn.results = #[]) : (results fn tmps).run P w = .ok (.tuple #[]) w := by
 rw [results_map, hr]; simp
theorem E.ret0 (hr : fn.results = #[]) (h : ∀ w, St w0 w L → R (.returned (.tuple #[])) w) : E n (bodyPost P fn R) w0 T L .ret := fun a w hA S =>
 bodyPost_ret (results_none hr) hA.defers (h w S)
end
section
variable {P : Program} {n : Nat} {Q : Exit → Act → World → Prop} {Z : World → Prop} {w0 : World} {T : Tl} {L : List Res} {l : List Oper} {o : Oper} {r : Ord.Ot}
theorem Alone.box {i : Nat} (t : TypeId) (x : Operand) (vs : List Value) (ho : l[i]? = some o) (hop : o.op = .box t x) (hc : chk n T l.toArray o = true) (hx : (ev T x).cells = vs.toArray) (hZ : ∀ w, St w0 w L → Z w)
  (k : ∀ b, GT P n l.toArray Q Z w0 (up o.dst (.pointer (some ⟨b, 0, none⟩)) T) (vr b vs :: L) r) : Alone P n l.toArray Q Z w0 T L i r :=
 Alone.turns ho hc fun w S => ⟨_, _, _, by
  unfold execOp
  simp only [hop, Sem.run_bind, Instr.box, newVar, newRow, run_newObj_alloc, Sem.run_pure, Result.andThen_ok, hx], S.alloc vs t, fun w S => hZ w (St.tail S), k _⟩
end
theorem lies_nothing {w : World} {lo hi : Nat} {cs : List Value} (h : Lies w lo hi none cs) : cs = [] := by
 rcases cs with _ | ⟨u, r⟩
 ·
  rfl
 ·
  obtain ⟨b, off, e, _⟩ := h 0 u rfl
  cases e
theorem p2_nothing {w : World} {lo hi n c : Nat} {l : List (Int × Int)} (h : rdLst (rPair rInt rInt) w lo hi l [.slice none n c]) : l = [] := by
 have := lies_nothing (p2_lies h)
 cases l with
 | nil => rfl
 | cons s l => simp [pcells] at this
theorem i1_nothing {w : World} {lo hi n c : Nat} {l : List Int} (h : rdLst rInt w lo hi l [.slice none n c]) : l = [] := by
 have := lies_nothing (i1_lies h)
 cases l with
 | nil => rfl
 | cons s l => simp [icells] at this
end Go.Proofs.YtmiokacihcpepaaGreat.Sx
namespace Go.Proofs.YtmiokacihcpepaaGreat.Draw
set_option maxHeartbeats 8000000
set_option maxRecDepth 100000
set_option maxRecDepth 100000
open Go.ChangeShapes Go.WideShapes Go.ChangeAt Go.RowKit
open Go.Proofs.YtmiokacihcpepaaGreat.Base
theorem cellsByte : Tryz.prog.cellsOf 5 = 1 := by kernel_rfl
section
variable {H : Type} {enc : TypeId × Value → H}
theorem open_code {W : World} {base : Nat} {v : Value} {d : DataW H} {p : List MemPlace} (hval : Value.okWide Tryz.prog W .any base 22 v) (h : DataW.Trod enc Tryz.prog W 0 (fun _ => true) true 22 v d p) :
  ∃ A n c, v = .slice A n c ∧ n ≤ maxLen ∧ CodeAt W A n ∧ ∀ W' : World, Below W.heap.size W W' → ∀ sp : Nat → Bool, (∀ q ∈ p, sp q.block = true) → DataW.Trod enc Tryz.prog W' 0 sp true 22 v d p := by
 obtain ⟨a1, len, cap, rfl⟩ := okWide_slice Tryz.underlying22 hval
 obtain ⟨fuel, hf⟩ := h
 rcases open_ints Tryz.underlying22 Tryz.underlying5 cellsByte hf with ⟨hcs, hx⟩ | ⟨a, len', cap', zs, hcs, hb0, hl, hm, hz, hx, hcell, hwz⟩
 ·
  simp [Value.cells] at hcs
  obtain ⟨rfl, rfl, rfl⟩ := hcs
  simp only [Prod.mk.injEq] at hx
  obtain ⟨rfl, rfl⟩ := hx
  refine ⟨none, 0, 0, rfl, Nat.zero_le _, fun k hk => by omega, fun W' _ sp _ => ⟨2, ?_⟩⟩
  simp [DataW.trod, Value.cells, Tryz.underlying22]
 ·
  simp [Value.cells] at hcs
  obtain ⟨rfl, rfl, rfl⟩ := hcs
  simp only [Prod.mk.injEq] at hx
  obtain ⟨rfl, rfl⟩ := hx
  simp only [if_true] at hz
  have hin : ∀ i, i < zs.length → (a.add i).block < W.heap.size := fun i hi => World.block_lt_of_cell? W _ (hcell i hi)
  refine ⟨some a, len, cap, rfl, Nat.le_trans hl hm, fun k hk => ?_, fun W' hb sp hsp => ⟨2, ?_⟩⟩
  ·
   obtain ⟨ab, ao, spot⟩ := a
   have hspot : spot = none := by simpa [Addr.add] using World.cell?_spot (hcell 0 (by omega))
   subst hspot
   have hk' : k < zs.length := by omega
   have hc := hcell k hk'
   have hw := hwz (zs.getD k 0) (by simp [List.getD_eq_getElem?_getD, List.getElem?_eq_getElem hk'])
   rw [Addr.add_lit] at hc
   have hr : 0 ≤ zs.getD k 0 ∧ zs.getD k 0 ≤ 255 := by
    have h0 : IntKind.u8.min = 0 := by decide
    have h1 : IntKind.u8.max = 255 := by decide
    generalize zs.getD k 0 = z at hw ⊢
    simp [Lit.wf] at hw
    omega
   exact ⟨ab, ao, _, rfl, World.block_lt_of_cell? W _ hc, hr.1, hr.2, hc⟩
  ·
   refine shut_ints 0 Tryz.underlying22 Tryz.underlying5 cellsByte (Nat.zero_le _) hl hm ?_ (fun i hi => (hb.cell (hin i hi)).trans (hcell i hi)) hwz
   by_cases h0 : zs.length = 0
   ·
    rw [h0]; split <;> omega
   ·
    have : sp a.block = true := hsp (.cell a.block a.off) (by
     simp only [MemPlace.row, List.mem_map, List.mem_range]
     exact ⟨0, by omega, by simp⟩)
    rw [this, if_pos rfl]; exact hz
end
end Go.Proofs.YtmiokacihcpepaaGreat.Draw
namespace Go.Proofs.YtmiokacihcpepaaGreat.Sx
set_option maxHeartbeats 8000000
set_option maxRecDepth 100000
set_option maxRecDepth 100000
open Go.ChangeShapes Go.WideShapes Go.ChangeAt Go.RowKit Go.Deep
open Go.Proofs.YtmiokacihcpepaaGreat.Base Go.Proofs.YtmiokacihcpepaaGreat.Mem Go.Proofs.YtmiokacihcpepaaGreat.Data Go.Proofs.YtmiokacihcpepaaGreat.Stt Go.Proofs.YtmiokacihcpepaaGreat.Draw
set_option linter.unusedVariables false
section
variable {α : Type} {r : Rp α} {w0 w w' : World} {L : List Res} {x : α} {cs : List Value} {lo hi : Nat}
theorem C.know {P : Program} {n : Nat} {Q : Exit → Act → World → Prop} {T : Tl} {c : Code} {p : Prop} (h : ∀ w, St w0 w L → p) (k : p → C P n Q w0 T L c) : C P n Q w0 T L c := fun a w hA S => k (h w S) a w hA S
theorem run_elemO {P : Program} {ρ : Operand → Value} {o : Oper} {t : TypeId} {z y : Operand} (e : TypeId) (size bytes b off m c k : Nat) (hop : o.op = .indexAddr t z y) (he : elemB P t e size bytes = true) (hx : ρ z = .slice (some ⟨b, off, none⟩) m c) (hy : ρ y = .int .i64 (k : Int)) (hk : k < m) (w : World) :
  (execOp ρ o).run P w = .ok (.value (.pointer (some ⟨b, off + k * size, none⟩))) w := by
 unfold execOp
 simp only [hop, hx, hy, Sem.run_bind, run_elem he b off m c k hk w, Sem.run_pure, Result.andThen_ok]
theorem run_ldr1 {P : Program} {ρ : Operand → Value} {o : Oper} {t : TypeId} {z : Operand} {b off : Nat} {v : Value} (hop : o.op = .load t z) (hx : ρ z = .pointer (some ⟨b, off, none⟩)) (hr : isCell P t = true) (hcell : w.cell? ⟨b, off, none⟩ = some v) : (execOp ρ o).run P w = .ok (.value v) w := by
 unfold execOp
 simp only [hop, hx, Sem.run_bind, run_cell hr hcell, Sem.run_pure, Result.andThen_ok]
theorem row_vr {base g m cap : Nat} {e : TypeId} {l : List Int} (h : w.ownsRow base e 1 (.slice (some ⟨g, 0, none⟩) m cap) m (icells l)) : (vr g (icells l)).says w ∧ base ≤ g ∧ g + 1 ≤ w.heap.size := by
 obtain ⟨h1, h2⟩ := h.lt g rfl
 exact ⟨⟨fun i v hv => by
  have hi := (List.getElem?_eq_some_iff.1 hv).1
  exact ⟨(h.cellAt i (by have := h.1; omega)).trans hv, h.frozenAt i⟩, h2⟩, h1, h2⟩
end
end Go.Proofs.YtmiokacihcpepaaGreat.Sx
namespace Go.Proofs.YtmiokacihcpepaaGreat.Sx
set_option maxHeartbeats 8000000
set_option maxRecDepth 100000
set_option maxRecDepth 100000
open Go.ChangeShapes Go.WideShapes Go.ChangeAt Go.RowKit Go.Deep
open Go.Proofs.YtmiokacihcpepaaGreat.Base Go.Proofs.YtmiokacihcpepaaGreat.Mem Go.Proofs.YtmiokacihcpepaaGreat.Data Go.Proofs.YtmiokacihcpepaaGreat.Stt
set_option linter.unusedVariables false
set_option linter.unusedSimpArgs false
set_option linter.unnecessarySimpa false
section
variable {α : Type} {r : Rp α} {w0 w w' : World} {L T : List Res} {lo hi : Nat}
theorem ownAll_split : ∀ {xs : List α} {ds : List Value} {F : List Nat} (i : Nat) (h : i < xs.length), ownAll r w lo hi xs ds F → ∃ d1 es d2 F1 Fi F2, ds = d1 ++ (es ++ d2) ∧ F = F1 ++ (Fi ++ F2) ∧ ownAll r w lo hi (xs.take i) d1 F1 ∧ r.own w lo hi xs[i] es Fi ∧ ownAll r w lo hi (xs.drop (i + 1)) d2 F2
 | x :: xs, ds, F, 0, _, h => by
  obtain ⟨c1, c2, G1, G2, rfl, rfl, h1, h2⟩ := h
  exact ⟨[], c1, c2, [], G1, G2, rfl, rfl, ⟨rfl, rfl⟩, h1, h2⟩
 | x :: xs, ds, F, i + 1, hi', h => by
  obtain ⟨c1, c2, G1, G2, rfl, rfl, h1, h2⟩ := h
  obtain ⟨d1, es, d2, F1, Fi, F2, rfl, rfl, k1, k2, k3⟩ := ownAll_split i (by simpa using hi') h2
  exact ⟨c1 ++ d1, es, d2, G1 ++ F1, Fi, F2, by simp, by simp, ⟨c1, d1, G1, F1, rfl, rfl, h1, k1⟩, k2, k3⟩
def hole (r : Rp α) (b off lo hi : Nat) (pre post : List α) (es : List Value) (F1 F2 : List Nat) : Res where
 says w := (b :: (F1 ++ F2)).Nodup ∧ (lo ≤ b ∧ b < hi) ∧ ∃ d1 d2, ownAll r w lo hi pre d1 F1 ∧ ownAll r w lo hi post d2 F2 ∧ es.length = r.sz ∧ Owned w lo hi (some ⟨b, off, none⟩) (d1 ++ (es ++ d2))
 foot k := k ∈ b :: (F1 ++ F2) ∧ lo ≤ k ∧ k < hi
 lo := lo
 hi := hi
 inn k h := h.2
 kept h hk := by
  obtain ⟨hn, hb, d1, d2, h1, h2, h3, h4⟩ := h
  refine ⟨hn, hb, d1, d2, ownAll_kept h1 fun k hk' => hk k ⟨by simp [hk'], ownAll_inF h1 k hk'⟩, ownAll_kept h2 fun k hk' => hk k ⟨by simp [hk'], ownAll_inF h2 k hk'⟩, h3, owned_agree h4 fun k hk' => ?_⟩
  have e : k = b := by
   unfold blks at hk'
   split at hk'
   ·
    cases hk'
   ·
    simpa using hk'
  subst e
  exact hk k ⟨by simp, hb⟩
theorem own_nodup4 {b : Nat} {F1 Fi F2 : List Nat} (h : (b :: (F1 ++ (Fi ++ F2))).Nodup) : (b :: (F1 ++ F2)).Nodup ∧ Fi.Nodup ∧ ∀ k ∈ Fi, k ∉ b :: (F1 ++ F2) := by
 simp only [List.nodup_cons, List.nodup_append, List.mem_append, List.mem_cons, not_or] at h ⊢
 obtain ⟨⟨a1, a2, a3⟩, n1, ⟨ni, n2, d2⟩, d1⟩ := h
 refine ⟨⟨⟨a1, a3⟩, n1, n2, fun x hx y hy => d1 x hx y (.inr hy)⟩, ni, fun k hk => ⟨fun e => a2 (e ▸ hk), fun hk1 => d1 k hk1 k (.inl hk) rfl, fun hk2 => d2 k hk k hk2 rfl⟩⟩
theorem own_nodup4' {b : Nat} {F1 Fi F2 : List Nat} (h : (b :: (F1 ++ F2)).Nodup) (hi : Fi.Nodup) (hd : ∀ k ∈ Fi, k ∉ b :: (F1 ++ F2)) : (b :: (F1 ++ (Fi ++ F2))).Nodup := by
 simp only [List.nodup_cons, List.nodup_append, List.mem_append, List.mem_cons, not_or] at h hd ⊢
 obtain ⟨⟨a1, a3⟩, n1, n2, d⟩ := h
 exact ⟨⟨a1, fun hk => (hd b hk).1 rfl, a3⟩, n1, ⟨hi, n2, fun x hx y hy e => (hd x hx).2.2 (e ▸ hy)⟩, fun x hx y hy e => hy.elim (fun q => (hd y q).2.1 (e ▸ hx)) (fun q => d x hx y q e)⟩
theorem St.open_ {xs : List α} {A : Option Addr} {n c : Nat} {F : List Nat} (S : St w0 w (ow (rLsw r) lo hi xs [.slice A n c] F :: T)) (hs : 0 < r.sz) (i : Nat) (hi' : i < xs.length) :
  ∃ b off es F1 Fi F2, A = some ⟨b, off, none⟩ ∧ n = xs.length ∧ xs.length ≤ c ∧ F = b :: (F1 ++ (Fi ++ F2)) ∧ es.length = r.sz ∧ St w0 w (hole r b off lo hi (xs.take i) (xs.drop (i + 1)) es F1 F2 :: ow r lo hi xs[i] es Fi :: T) := by
 obtain ⟨⟨A', c', ds, G, e, hc, rfl, hall, hown⟩, hnd⟩ := S.at_ 0 rfl
 cases e
 obtain ⟨d1, es, d2, F1, Fi, F2, rfl, rfl, k1, k2, k3⟩ := ownAll_split i hi' hall
 have hes : es.length = r.sz := r.len (r.reads k2)
 have hne : d1 ++ (es ++ d2) ≠ [] := fun e => by simp at e; rw [e.2.1] at hes; simp at hes; omega
 obtain ⟨b, off, rfl, x, y, _⟩ := hown.1.at_ (List.length_pos_iff.2 hne)
 have hb : blks (some ⟨b, off, none⟩) (d1 ++ (es ++ d2)) = [b] := by unfold blks; rw [if_neg hne]; rfl
 rw [hb] at hnd
 have hnd' : (b :: (F1 ++ (Fi ++ F2))).Nodup := hnd
 obtain ⟨n1, n2, n3⟩ := own_nodup4 hnd'
 refine ⟨b, off, es, F1, Fi, F2, rfl, rfl, hc, by rw [hb]; rfl, hes, ?_⟩
 have hlo := S.lo 0 _ rfl
 have hhi := S.hi 0 _ rfl
 refine S.parts [hole r b off lo hi (xs.take i) (xs.drop (i + 1)) es F1 F2, ow r lo hi xs[i] es Fi] ?_ ?_
 ·
  intro s hs'
  simp only [List.mem_cons, List.not_mem_nil, or_false] at hs'
  rcases hs' with rfl | rfl
  ·
   refine ⟨⟨n1, ⟨x, y⟩, d1, d2, k1, k3, hes, hown⟩, fun k hk => ⟨?_, hk.2⟩, hlo, hhi⟩
   rw [hb]
   have := hk.1
   simp only [List.mem_cons, List.mem_append] at this ⊢
   rcases this with h | h | h
   ·
    exact .inl (.inl h)
   ·
    exact .inr (.inl h)
   ·
    exact .inr (.inr (.inr h))
  ·
   exact ⟨⟨k2, n2⟩, fun k hk => ⟨by simp [hk.1], hk.2⟩, hlo, hhi⟩
 ·
  simp only [List.pairwise_cons, List.mem_cons, List.not_mem_nil, or_false, forall_eq, List.Pairwise.nil, and_true, false_implies, implies_true]
  exact fun k hk hk' => n3 k hk'.1 hk.1
theorem St.merge {rs : List Res} (S : St w0 w (rs ++ T)) (r' : Res) (hs : r'.says w) (hf : ∀ k, r'.foot k → ∃ s ∈ rs, s.foot k) (hlo : w0.heap.size ≤ r'.lo) (hhi : r'.hi ≤ w.heap.size) : St w0 w (r' :: T) := by
 have key : ∀ (j : Nat) (s : Res), T[j]? = some s → (rs ++ T)[rs.length + j]? = some s := fun j s h => by rw [List.getElem?_append_right (by omega)]; simpa using h
 have mem : ∀ s ∈ rs, ∃ i, i < rs.length ∧ (rs ++ T)[i]? = some s := fun s h => by
  obtain ⟨i, hi, e⟩ := List.getElem_of_mem h
  exact ⟨i, hi, by rw [List.getElem?_append_left hi, List.getElem?_eq_getElem hi, e]⟩
 refine ⟨S.below, fun j s hj => ?_, fun j s hj => ?_, fun j s hj => ?_, fun j j' s t hj hj' hne k hk hk' => ?_⟩
 ·
  cases j with
  | zero => cases hj; exact hs
  | succ j => exact S.says _ s (key j s hj)
 ·
  cases j with
  | zero => cases hj; exact hlo
  | succ j => exact S.lo _ s (key j s hj)
 ·
  cases j with
  | zero => cases hj; exact hhi
  | succ j => exact S.hi _ s (key j s hj)
 ·
  cases j with
  | zero =>
   cases hj
   cases j' with
   | zero => exact hne rfl
   | succ j' =>
    obtain ⟨u, hu, hfu⟩ := hf k hk
    obtain ⟨i, hi, e⟩ := mem u hu
    exact S.apart i _ u t e (key j' t hj') (by omega) k hfu hk'
  | succ j =>
   cases j' with
   | zero =>
    cases hj'
    obtain ⟨u, hu, hfu⟩ := hf k hk'
    obtain ⟨i, hi, e⟩ := mem u hu
    exact S.apart _ i s u (key j s hj) e (by omega) k hk hfu
   | succ j' => exact S.apart _ _ s t (key j s hj) (key j' t hj') (by omega) k hk hk'
theorem St.front (S : St w0 w L) (i : Nat) {q : Res} (h : L[i]? = some q) : St w0 w (q :: L.eraseIdx i) := by
 have hi : i < L.length := (List.getElem?_eq_some_iff.1 h).1
 have key : ∀ (j : Nat) (s : Res), (L.eraseIdx i)[j]? = some s → ∃ j', j' ≠ i ∧ (j' = if j < i then j else j + 1) ∧ L[j']? = some s := fun j s hj => by
  rw [List.getElem?_eraseIdx] at hj
  split at hj
  ·
   exact ⟨j, by omega, by rw [if_pos (by omega)], hj⟩
  ·
   exact ⟨j + 1, by omega, by rw [if_neg (by omega)], hj⟩
 refine ⟨S.below, fun j s hj => ?_, fun j s hj => ?_, fun j s hj => ?_, fun j j' s t hj hj' hne k hk hk' => ?_⟩
 ·
  cases j with
  | zero => cases hj; exact S.says _ _ h
  | succ j => obtain ⟨j', _, _, e⟩ := key j s hj; exact S.says _ s e
 ·
  cases j with
  | zero => cases hj; exact S.lo _ _ h
  | succ j => obtain ⟨j', _, _, e⟩ := key j s hj; exact S.lo _ s e
 ·
  cases j with
  | zero => cases hj; exact S.hi _ _ h
  | succ j => obtain ⟨j', _, _, e⟩ := key j s hj; exact S.hi _ s e
 ·
  cases j with
  | zero =>
   cases hj
   cases j' with
   | zero => exact hne rfl
   | succ j' => obtain ⟨m, hm, _, e⟩ := key j' t hj'; exact S.apart i m _ t h e hm.symm k hk hk'
  | succ j =>
   obtain ⟨m, hm, em, e⟩ := key j s hj
   cases j' with
   | zero => cases hj'; exact S.apart m i s _ e h hm k hk hk'
   | succ j' =>
    obtain ⟨m', hm', em', e'⟩ := key j' t hj'
    refine S.apart m m' s t e e' (fun x => hne ?_) k hk hk'
    rw [em, em'] at x
    split at x <;> split at x <;> omega
theorem St.back {q : Res} {i : Nat} (S : St w0 w (q :: L.eraseIdx i)) (hi : i < L.length) : St w0 w (L.set i q) := by
 have key : ∀ (j : Nat) (s : Res), (L.set i q)[j]? = some s → ∃ j', (j' = if j = i then 0 else if j < i then j + 1 else j) ∧ (q :: L.eraseIdx i)[j']? = some s := fun j s hj => by
  by_cases e : j = i
  ·
   subst e
   rw [List.getElem?_set_self hi] at hj
   exact ⟨0, by rw [if_pos rfl], hj⟩
  ·
   rw [List.getElem?_set_ne (fun x => e x.symm)] at hj
   by_cases h : j < i
   ·
    exact ⟨j + 1, by rw [if_neg e, if_pos h], by rw [List.getElem?_cons_succ, List.getElem?_eraseIdx, if_pos h]; exact hj⟩
   ·
    refine ⟨j, by rw [if_neg e, if_neg h], ?_⟩
    obtain ⟨m, rfl⟩ : ∃ m, j = m + 1 := ⟨j - 1, by omega⟩
    rw [List.getElem?_cons_succ, List.getElem?_eraseIdx, if_neg (by omega)]; exact hj
 refine ⟨S.below, fun j s hj => ?_, fun j s hj => ?_, fun j s hj => ?_, fun j j' s t hj hj' hne k hk hk' => ?_⟩
 ·
  obtain ⟨m, _, e⟩ := key j s hj; exact S.says m s e
 ·
  obtain ⟨m, _, e⟩ := key j s hj; exact S.lo m s e
 ·
  obtain ⟨m, _, e⟩ := key j s hj; exact S.hi m s e
 ·
  obtain ⟨m, em, e⟩ := key j s hj
  obtain ⟨m', em', e'⟩ := key j' t hj'
  refine S.apart m m' s t e e' (fun x => hne ?_) k hk hk'
  rw [em, em'] at x
  split at x <;> split at x <;> (try split at x) <;> (try split at x) <;> omega
theorem St.openAt {pre post : List α} {x : α} {A : Option Addr} {n c : Nat} {F : List Nat} (S : St w0 w (ow (rLsw r) lo hi (pre ++ x :: post) [.slice A n c] F :: T)) (hs : 0 < r.sz) :
  ∃ b off es F1 Fi F2, A = some ⟨b, off, none⟩ ∧ F = b :: (F1 ++ (Fi ++ F2)) ∧ es.length = r.sz ∧ n = (pre ++ x :: post).length ∧ n ≤ c ∧ St w0 w (hole r b off lo hi pre post es F1 F2 :: ow r lo hi x es Fi :: T) := by
 obtain ⟨b, off, es, F1, Fi, F2, h1, h2, h3, h4, h5, h6⟩ := St.open_ S hs pre.length (by simp)
 refine ⟨b, off, es, F1, Fi, F2, h1, h4, h5, h2, by omega, ?_⟩
 have e1 : (pre ++ x :: post).take pre.length = pre := by simp
 have e2 : (pre ++ x :: post).drop (pre.length + 1) = post := by clear S h1 h2 h3 h4 h5 h6; induction pre with
  | nil => rfl
  | cons a l ih => simpa using ih
 have e3 : ∀ h, (pre ++ x :: post)[pre.length]'h = x := fun h => by rw [List.getElem_append_right (Nat.le_refl _)]; simp
 rwa [e1, e2, e3] at h6
theorem St.close {b off : Nat} {pre post : List α} {x : α} {es : List Value} {F1 F2 Fi : List Nat} (S : St w0 w (hole r b off lo hi pre post es F1 F2 :: ow r lo hi x es Fi :: T)) (hs : 0 < r.sz) (n c : Nat) (hn : (pre ++ x :: post).length = n) (hc : n ≤ c) :
  St w0 w (ow (rLsw r) lo hi (pre ++ x :: post) [.slice (some ⟨b, off, none⟩) n c] (b :: (F1 ++ (Fi ++ F2))) :: T) := by
 obtain ⟨n1, ⟨x1, y1⟩, d1, d2, h1, h2, h3, h4⟩ := S.at_ 0 rfl
 obtain ⟨k1, k2⟩ := S.at_ 1 rfl
 subst hn
 have hne : d1 ++ (es ++ d2) ≠ [] := fun e => by simp at e; rw [e.2.1] at h3; simp at h3; omega
 have hb : blks (some ⟨b, off, none⟩) (d1 ++ (es ++ d2)) = [b] := by unfold blks; rw [if_neg hne]; rfl
 have hd : ∀ k ∈ Fi, k ∉ b :: (F1 ++ F2) := fun k hk hk' => S.apart 0 1 _ _ rfl rfl (by decide) k ⟨hk', by
  rcases List.mem_cons.1 hk' with rfl | hk'
  ·
   exact ⟨x1, y1⟩
  ·
   exact (List.mem_append.1 hk').elim (ownAll_inF h1 k) (ownAll_inF h2 k)⟩ ⟨hk, r.inF k1 k hk⟩
 have hall : ownAll r w lo hi (pre ++ x :: post) (d1 ++ (es ++ d2)) (F1 ++ (Fi ++ F2)) := ownAll_append h1 ⟨es, d2, Fi, F2, rfl, rfl, k1, h2⟩
 refine St.merge (rs := [_, _]) S (ow (rLsw r) lo hi _ _ _) ⟨⟨_, c, _, _, rfl, hc, by rw [hb]; rfl, hall, h4⟩, own_nodup4' n1 k2 hd⟩ (fun k hk => ?_) (show w0.heap.size ≤ lo from S.lo 0 _ rfl) (show hi ≤ w.heap.size from S.hi 0 _ rfl)
 have := hk.1
 simp only [List.mem_cons, List.mem_append] at this
 rcases this with h | h | h | h
 ·
  exact ⟨_, List.mem_cons_self, by simp [h], hk.2⟩
 ·
  exact ⟨_, List.mem_cons_self, by simp [h], hk.2⟩
 ·
  exact ⟨_, List.mem_cons_of_mem _ List.mem_cons_self, h, hk.2⟩
 ·
  exact ⟨_, List.mem_cons_self, by simp [h], hk.2⟩
theorem St.widen {x : α} {cs : List Value} {F : List Nat} (S : St w0 w L) (i : Nat) (h : L[i]? = some (ow r lo hi x cs F)) {hi' : Nat} (hh : hi ≤ hi') (hw : hi' ≤ w.heap.size) : St w0 w (L.set i (ow r w0.heap.size hi' x cs F)) :=
 S.turn i h (ow r w0.heap.size hi' x cs F) (Only.refl _ _) ⟨r.owide (S.at_ i h).1 (S.lo i _ h) hh, (S.at_ i h).2⟩ (fun k hk => .inl ⟨hk.1, r.inF (S.at_ i h).1 k hk.1⟩) (Nat.le_refl _) hw
theorem St.holeWiden {b off : Nat} {pre post : List α} {es : List Value} {F1 F2 : List Nat} (S : St w0 w L) (i : Nat) (h : L[i]? = some (hole r b off lo hi pre post es F1 F2)) {hi' : Nat} (hh : hi ≤ hi') (hw : hi' ≤ w.heap.size) : St w0 w (L.set i (hole r b off w0.heap.size hi' pre post es F1 F2)) := by
 obtain ⟨n1, hb, d1, d2, h1, h2, h3, h4⟩ := S.at_ i h
 have hlo : w0.heap.size ≤ lo := S.lo i _ h
 refine S.turn i h (hole r b off w0.heap.size hi' pre post es F1 F2) (Only.refl _ _) ⟨n1, ⟨by omega, by omega⟩, d1, d2, ownAll_wide hlo hh h1, ownAll_wide hlo hh h2, h3, h4.wide hlo hh⟩ (fun k hk => .inl ⟨hk.1, ?_⟩) (Nat.le_refl _) hw
 rcases List.mem_cons.1 hk.1 with rfl | hk'
 ·
  exact hb
 ·
  exact (List.mem_append.1 hk').elim (ownAll_inF h1 k) (ownAll_inF h2 k)
theorem St.flat {x : α} {cs : List Value} (S : St w0 w L) (i : Nat) (h : L[i]? = some (ow r lo hi x cs [])) (y : α) (es : List Value) (hy : ∀ w, r.own w lo hi y es []) : St w0 w (L.set i (ow r lo hi y es [])) :=
 S.turn i h (ow r lo hi y es []) (Only.refl _ _) ⟨hy w, List.nodup_nil⟩ (fun k hk => absurd hk.1 (by simp)) (S.lo i (ow r lo hi x cs []) h) (S.hi i (ow r lo hi x cs []) h)
theorem St.closeW {b off lo2 hi2 : Nat} {pre post : List α} {x : α} {es : List Value} {F1 F2 Fi : List Nat} (S : St w0 w (hole r b off lo hi pre post es F1 F2 :: ow r lo2 hi2 x es Fi :: T)) (hs : 0 < r.sz) (n c : Nat) (hn : (pre ++ x :: post).length = n) (hc : n ≤ c) :
  St w0 w (ow (rLsw r) w0.heap.size (max hi hi2) (pre ++ x :: post) [.slice (some ⟨b, off, none⟩) n c] (b :: (F1 ++ (Fi ++ F2))) :: T) := by
 have h1 : max hi hi2 ≤ w.heap.size := Nat.max_le.2 ⟨S.hi 0 _ rfl, S.hi 1 _ rfl⟩
 exact St.close (St.widen (St.holeWiden S 0 rfl (Nat.le_max_left hi hi2) h1) 1 rfl (Nat.le_max_right hi hi2) h1) hs n c hn hc
section
variable {b off k size : Nat} {pre post : List α} {es : List Value} {F1 F2 : List Nat}
theorem hole_cell (h : (hole r b off lo hi pre post es F1 F2).says w) (hk : pre.length = k) (hz : r.sz = size) (j : Nat) {v : Value} (hv : es[j]? = some v) : w.cell? ⟨b, off + k * size + j, none⟩ = some v ∧ w.frozen? ⟨b, off + k * size + j, none⟩ = false := by
 obtain ⟨_, _, d1, d2, h1, h2, h3, h4⟩ := h
 have hl : d1.length = k * size := by rw [rdAll_len (ownAll_reads h1), hk, hz]
 have hj := (List.getElem?_eq_some_iff.1 hv).1
 have hg : (d1 ++ (es ++ d2))[k * size + j]? = some v := by
  rw [List.getElem?_append_right (by omega), hl, Nat.add_sub_cancel_left, List.getElem?_append_left hj]; exact hv
 obtain ⟨b', off', e, _, _, hc⟩ := h4.1 _ v hg
 cases e
 refine ⟨by rw [Nat.add_assoc]; exact hc, h4.2 b off rfl (by have := (List.getElem?_eq_some_iff.1 hg).1; omega) _⟩
theorem foldl_set_len (us : List Value) : ∀ (vs : List Value) (o : Nat), (us.foldl (fun (p : List Value × Nat) u => (p.1.set p.2 u, p.2 + 1)) (vs, o)).1.length = vs.length := by
 induction us with
 | nil => intro vs o; rfl
 | cons u us ih => intro vs o; rw [List.foldl_cons, ih, List.length_set]
theorem owned_sets {b off lo hi : Nat} : ∀ (us ds : List Value) (o : Nat) (w : World), Owned w lo hi (some ⟨b, off, none⟩) ds → Owned (w.setCells b (off + o) us) lo hi (some ⟨b, off, none⟩) (us.foldl (fun (p : List Value × Nat) u => (p.1.set p.2 u, p.2 + 1)) (ds, o)).1
 | [], ds, o, w, h => h
 | u :: us, ds, o, w, h => by
  rw [World.setCells, List.foldl_cons]
  exact owned_sets us (ds.set o u) (o + 1) _ (h.set o u)
theorem foldl_mid : ∀ (us d1 es d2 : List Value) (o : Nat), o + us.length ≤ es.length → (us.foldl (fun (p : List Value × Nat) u => (p.1.set p.2 u, p.2 + 1)) (d1 ++ (es ++ d2), d1.length + o)).1 = d1 ++ ((us.foldl (fun (p : List Value × Nat) u => (p.1.set p.2 u, p.2 + 1)) (es, o)).1 ++ d2)
 | [], d1, es, d2, o, h => rfl
 | u :: us, d1, es, d2, o, h => by
  have h' : o + us.length + 1 ≤ es.length := by simpa [Nat.add_assoc] using h
  rw [List.foldl_cons, List.foldl_cons]
  simp only
  have e : (d1 ++ (es ++ d2)).set (d1.length + o) u = d1 ++ (es.set o u ++ d2) := by
   rw [List.set_append, if_neg (by omega), Nat.add_sub_cancel_left, List.set_append, if_pos (by omega)]
  rw [e, show d1.length + o + 1 = d1.length + (o + 1) by omega]
  exact foldl_mid us d1 (es.set o u) d2 (o + 1) (by rw [List.length_set]; omega)
theorem St.holeSets (S : St w0 w L) (i : Nat) (h : L[i]? = some (hole r b off lo hi pre post es F1 F2)) (hk : pre.length = k) (hz : r.sz = size) (j : Nat) (us es' : List Value) (hes : (us.foldl (fun (p : List Value × Nat) u => (p.1.set p.2 u, p.2 + 1)) (es, j)).1 = es') (hl : j + us.length ≤ es.length) :
  St w0 (w.setCells b (off + k * size + j) us) (L.set i (hole r b off lo hi pre post es' F1 F2)) := by
 obtain ⟨n1, hb, d1, d2, h1, h2, h3, h4⟩ := S.at_ i h
 subst hes
 have hl1 : d1.length = k * size := by rw [rdAll_len (ownAll_reads h1), hk, hz]
 have hO : Only (hole r b off lo hi pre post es F1 F2).foot w (w.setCells b (off + k * size + j) us) := Only.setCells (show (hole r b off lo hi pre post es F1 F2).foot b from ⟨by simp, hb⟩) us _ w
 have hF : ∀ (G : List Nat), (∀ q ∈ G, q ≠ b) → (∀ q ∈ G, q < w.heap.size) → ∀ q ∈ G, (w.setCells b (off + k * size + j) us).heap[q]? = w.heap[q]? := fun G hG hG' q hq => (Only.setCells (f := fun x => x = b) rfl us _ w).block q (hG' q hq) (hG q hq)
 have hsz : ∀ q, lo ≤ q ∧ q < hi → q < w.heap.size := fun q hq => Nat.lt_of_lt_of_le hq.2 (S.hi i _ h)
 have nb : ∀ q ∈ F1 ++ F2, q ≠ b := fun q hq e => (List.nodup_cons.1 n1).1 (e ▸ hq)
 refine S.turn i h (hole r b off lo hi pre post _ F1 F2) hO ⟨n1, hb, d1, d2, ownAll_kept h1 (hF F1 (fun q hq => nb q (by simp [hq])) fun q hq => hsz q (ownAll_inF h1 q hq)), ownAll_kept h2 (hF F2 (fun q hq => nb q (by simp [hq])) fun q hq => hsz q (ownAll_inF h2 q hq)), by rw [foldl_set_len]; exact h3, ?_⟩ (fun q hq => .inl hq) (S.lo i (hole r b off lo hi pre post es F1 F2) h) (by rw [setCells_size]; exact S.hi i (hole r b off lo hi pre post es F1 F2) h)
 have := owned_sets us (d1 ++ (es ++ d2)) (k * size + j) w h4
 rw [show k * size + j = d1.length + j by omega, foldl_mid us d1 es d2 j hl] at this
 rwa [show off + k * size + j = off + (d1.length + j) by omega]
end
end
section
variable {α : Type} {r : Rp α} {P : Program} {n : Nat} {ops : Array Oper} {Q : Exit → Act → World → Prop} {w0 : World} {T : Tl} {L : List Res} {rest : List Oper} {o : Oper}
variable {off lo hi k size : Nat} {pre post : List α} {es : List Value} {F1 F2 : List Nat}
theorem G.hld1 (t : TypeId) (x : Operand) (b p j i : Nat) (v : Value) (hop : o.op = .load t x) (hc : chk n T ops o = true) (hx : ev T x = .pointer (some ⟨b, p, none⟩)) (hL : L[i]? = some (hole r b off lo hi pre post es F1 F2)) (hk : pre.length = k) (hz : r.sz = size) (hp : p = off + k * size + j) (hv : es[j]? = some v)
  (hr : isCell P t = true) (kk : G P n ops Q w0 (up o.dst v T) L rest) : G P n ops Q w0 T L (o :: rest) :=
 G.ldr1 t x b p v hop hc hx (fun w S => hp ▸ (hole_cell (S.at_ i hL) hk hz j hv).1) hr kk
theorem G.hsto (t : TypeId) (x y : Operand) (b p j i : Nat) (us es' : List Value) (L' : List Res) (hop : o.op = .store t x y) (hc : chk n T ops o = true) (hx : ev T x = .pointer (some ⟨b, p, none⟩)) (hy : (ev T y).cells = us.toArray) (hL : L[i]? = some (hole r b off lo hi pre post es F1 F2)) (hk : pre.length = k) (hz : r.sz = size) (hp : p = off + k * size + j)
  (hes : (us.foldl (fun (p : List Value × Nat) u => (p.1.set p.2 u, p.2 + 1)) (es, j)).1 = es') (hL' : L.set i (hole r b off lo hi pre post es' F1 F2) = L') (hl : Nat.ble (j + us.length) es.length = true) (hi' : (P.info? t).map (·.size) = some us.length) (h1 : us.all (·.oneCell') = true)
  (kk : G P n ops Q w0 (up o.dst undef T) L' rest) : G P n ops Q w0 T L (o :: rest) :=
 G.acts hc fun w S => by
  have hl' : j + us.length ≤ es.length := Nat.le_of_ble_eq_true hl
  have ht : w.there b p us.toArray.size := fun q hq => by
   have hq' : j + q < es.length := by simp at hq; omega
   have := hole_cell (S.at_ i hL) hk hz (j + q) (List.getElem?_eq_getElem hq')
   rw [← Nat.add_assoc, ← hp] at this
   exact ⟨by rw [this.1]; rfl, this.2⟩
  refine ⟨w.setCells b p us, L', ?_, ?_, kk⟩
  ·
   unfold execOp
   have hcells : (storeVar t ⟨b, p, none⟩ (ev T y)).run P w = (storeVar t ⟨b, p, none⟩ (.agg us.toArray)).run P w := by
    unfold storeVar
    rw [hy]
    rfl
   have hs := run_storeVar_mid (P := P) w b p t us.toArray ht (by simpa using hi') (by simpa using h1)
   simp only [hop, Sem.run_bind, Instr.storeAt, Instr.sureAddr, hx, Sem.run_pure, Result.andThen_ok, hcells, hs]
  ·
   subst hL' hp
   exact St.holeSets S i hL hk hz j us es' hes hl'
theorem C.turn {ι : Type} {Q : Exit → Act → World → Prop} {c : Code} {p : ι → Prop} (L' : ι → List Res) (h : ∀ w, St w0 w L → ∃ x, p x ∧ St w0 w (L' x)) (kk : ∀ x, p x → C P n Q w0 T (L' x) c) : C P n Q w0 T L c := fun a w hA S => by
 obtain ⟨x, hp, S'⟩ := h w S
 exact kk x hp a w hA S'
theorem C.open {Q : Exit → Act → World → Prop} {code : Code} {lo hi : Nat} {xs : List α} {x : α} {A : Option Addr} {m c : Nat} {F : List Nat} (hxs : xs = pre ++ x :: post) (hs : 0 < r.sz)
  (kk : ∀ b off es F1 Fi F2, A = some ⟨b, off, none⟩ → F = b :: (F1 ++ (Fi ++ F2)) → es.length = r.sz → m = xs.length → m ≤ c → C P n Q w0 T (hole r b off lo hi pre post es F1 F2 :: ow r lo hi x es Fi :: L) code) : C P n Q w0 T (ow (rLsw r) lo hi xs [.slice A m c] F :: L) code := fun a w hA S => by
 subst hxs
 obtain ⟨b, off, es, F1, Fi, F2, h1, h2, h3, h4, h5, S'⟩ := St.openAt S hs
 exact kk b off es F1 Fi F2 h1 h2 h3 h4 h5 a w hA S'
theorem own_replicate {z : α} {zs : List Value} {w : World} {lo hi : Nat} (hz : r.own w lo hi z zs []) : ∀ m : Nat, ownAll r w lo hi (List.replicate m z) (List.replicate m zs).flatten []
 | 0 => ⟨rfl, rfl⟩
 | m + 1 => ⟨zs, _, [], [], rfl, rfl, hz, own_replicate hz m⟩
theorem made_flat {zs : List Value} (hz : 0 < zs.length) (m : Nat) : (madeCells zs.toArray (m * zs.length)).toList = (List.replicate m zs).flatten := by
 induction m with
 | zero => simp [madeCells]
 | succ m ih =>
  rw [List.replicate_succ, List.flatten_cons, ← ih]
  apply List.ext_getElem?
  intro j
  simp only [madeCells, Array.toList_map, Array.toList_range, List.getElem?_map]
  by_cases hj : j < zs.length
  ·
   rw [List.getElem?_append_left hj, List.getElem?_range (by rw [Nat.add_mul]; omega)]
   simp [Nat.mod_eq_of_lt hj, hj]
  ·
   rw [List.getElem?_append_right (by omega), List.getElem?_map]
   by_cases hm : j < (m + 1) * zs.length
   ·
    rw [Nat.add_mul, Nat.one_mul] at hm
    rw [List.getElem?_range (by rw [Nat.add_mul, Nat.one_mul]; omega), List.getElem?_range (by omega)]
    have : j % zs.length = (j - zs.length) % zs.length := by rw [← Nat.mod_eq_sub_mod (by omega)]
    simp [this]
   ·
    rw [Nat.add_mul, Nat.one_mul] at hm
    rw [List.getElem?_eq_none (by simp [Nat.add_mul]; omega), List.getElem?_eq_none (by simp; omega)]
theorem G.mks (z : α) (zs : List Value) (t e : TypeId) (x y : Operand) (size bytes m : Nat) (hop : o.op = .makeSlice t x y) (hc : chk n T ops o = true) (he : elemB P t e size bytes = true) (hi : (P.info? e).map (·.zero.map (·.cells)) = some (some zs.toArray)) (hr : r.sz = size) (hzl : zs.length = size) (hz : ∀ w lo hi, r.own w lo hi z zs [])
  (hx : ev T x = .int .i64 (m : Int)) (hy : ev T y = .int .i64 (m : Int)) (hm : m ≤ maxLen) (hb : bytes * m ≤ 281474976710656)
  (kk : ∀ b hi F, G P n ops Q w0 (up o.dst (.slice (some ⟨b, 0, none⟩) m m) T) (ow (rLsw r) b hi (List.replicate m z) [.slice (some ⟨b, 0, none⟩) m m] F :: L) rest) : G P n ops Q w0 T L (o :: rest) :=
 G.turns hc fun w S => by
  obtain ⟨ht, hsz, i, zz, hi', hz', hsize, hby, hzs⟩ := elemB_spec he
  have hzz : zz.cells = zs.toArray := by rw [hi', Option.map_some, hz'] at hi; simpa using hi
  obtain ⟨wm, hrun, hown, hg⟩ := run_make_full (P := P) w w.heap.size t e i zz size ht hi' hz' hsize .i64 .i64 m (by rw [hby]; exact hb) hm (Nat.le_refl _)
  have hbl : Below w.heap.size w wm := (Below.refl _ _).grown hg (Nat.le_refl _) (fun j hj => by cases hj)
  rw [hzz, ← hzl, made_flat (by omega)] at hown
  have hO : Owned wm w.heap.size wm.heap.size (some ⟨w.heap.size, 0, none⟩) (List.replicate m zs).flatten := (Owned.of_row hown).wide (Nat.le_refl _) (Nat.le_refl _)
  have hnd : (blks (some ⟨w.heap.size, 0, none⟩) (List.replicate m zs).flatten).Nodup := by unfold blks; split <;> simp
  refine ⟨_, wm, _, ?_, S.add hbl (ow (rLsw r) w.heap.size wm.heap.size (List.replicate m z) [.slice (some ⟨w.heap.size, 0, none⟩) m m] (blks (some ⟨w.heap.size, 0, none⟩) (List.replicate m zs).flatten ++ [])) ⟨⟨_, m, _, [], by rw [List.length_replicate], by rw [List.length_replicate]; exact Nat.le_refl _, rfl, own_replicate (hz _ _ _) m, hO⟩, by rw [List.append_nil]; exact hnd⟩ (Nat.le_refl _) (Nat.le_refl _), kk _ _ _⟩
  unfold execOp
  simp only [hop, hx, hy, Sem.run_bind, hrun, Sem.run_pure, Result.andThen_ok]
end
section
variable {P : Program} {n : Nat} {Q : Exit → Act → World → Prop} {w0 : World} {T : Tl} {Z : World → Prop} {L Lz : List Res} {l : List Oper} {o : Oper} {r : Ord.Ot}
theorem GT.elem (t e : TypeId) (x y : Operand) (size bytes b off m c k : Nat) (i : Nat) (ho : l[i]? = some o) (hop : o.op = .indexAddr t x y) (hc : chk n T l.toArray o = true) (he : elemB P t e size bytes = true) (hx : ev T x = .slice (some ⟨b, off, none⟩) m c) (hy : ev T y = .int .i64 (k : Int)) (hk : k < m)
  (h : GT P n l.toArray Q Z w0 (up o.dst (.pointer (some ⟨b, off + k * size, none⟩)) T) L r) : GT P n l.toArray Q Z w0 T L (.take i r) :=
 GT.pure _ i ho hc (fun w => by
  unfold execOp
  simp only [hop, hx, hy, Sem.run_bind, run_elem he b off m c k hk w, Sem.run_pure, Result.andThen_ok]) h
theorem GT.ldr (t : TypeId) (x : Operand) (b off : Nat) (cs : List Value) (i : Nat) (ho : l[i]? = some o) (hop : o.op = .load t x) (hc : chk n T l.toArray o = true) (hx : ev T x = .pointer (some ⟨b, off, none⟩)) (hrd : ∀ w, St w0 w Lz → w.rangeAt b off cs) (hr : isRow P t = true) (hi : (P.info? t).map (·.size) = some cs.length)
  (k : GT P n l.toArray Q (fun w => St w0 w Lz) w0 (up o.dst (.agg cs.toArray) T) L r) : GT P n l.toArray Q (fun w => St w0 w Lz) w0 T L (.take i r) :=
 GT.reads _ i ho hc (fun w S => by
  obtain ⟨d, hu, hd⟩ := isRow_spec hr
  unfold execOp
  have h := run_loadAt_mid (P := P) w b off t cs d (hrd w S) hu hd hi
  simp only [hop, hx, Sem.run_bind, h, Sem.run_pure, Result.andThen_ok]) k
theorem GT.ldr1 (t : TypeId) (x : Operand) (b off : Nat) (v : Value) (i : Nat) (ho : l[i]? = some o) (hop : o.op = .load t x) (hc : chk n T l.toArray o = true) (hx : ev T x = .pointer (some ⟨b, off, none⟩)) (hrd : ∀ w, St w0 w Lz → w.cell? ⟨b, off, none⟩ = some v) (hr : isCell P t = true)
  (k : GT P n l.toArray Q (fun w => St w0 w Lz) w0 (up o.dst v T) L r) : GT P n l.toArray Q (fun w => St w0 w Lz) w0 T L (.take i r) :=
 GT.reads _ i ho hc (fun w S => by
  unfold execOp
  simp only [hop, hx, Sem.run_bind, run_cell hr (hrd w S), Sem.run_pure, Result.andThen_ok]) k
end
end Go.Proofs.YtmiokacihcpepaaGreat.Sx
namespace Go.Proofs.YtmiokacihcpepaaGreat.Sx
set_option maxHeartbeats 8000000
set_option maxRecDepth 100000
set_option maxRecDepth 100000
open Go.ChangeShapes Go.WideShapes Go.ChangeAt Go.RowKit Go.Deep
open Go.Proofs.YtmiokacihcpepaaGreat.Base Go.Proofs.YtmiokacihcpepaaGreat.Mem Go.Proofs.YtmiokacihcpepaaGreat.Data Go.Proofs.YtmiokacihcpepaaGreat.Stt
set_option linter.unusedVariables false
set_option linter.unusedSimpArgs false
section
variable {α : Type} {r : Rp α} {P : Program} {n : Nat} {ops : Array Oper} {Q : Exit → Act → World → Prop} {Z : World → Prop} {w0 : World} {T : Tl} {L L' : List Res} {rest : List Oper} {l : List Oper} {o : Oper} {t : Ord.Ot} {w : World}
theorem G.claims (h : ∀ w, St w0 w L → St w0 w L') (k : G P n ops Q w0 T L' rest) : G P n ops Q w0 T L rest := fun a w hA S => k a w hA (h w S)
theorem GT.claims (h : ∀ w, St w0 w L → St w0 w L') (k : GT P n ops Q Z w0 T L' t) : GT P n ops Q Z w0 T L t := fun a w hA S => k a w hA (h w S)
theorem Alone.claims {i : Nat} (h : ∀ w, St w0 w L → St w0 w L') (k : Alone P n ops Q Z w0 T L' i t) : Alone P n ops Q Z w0 T L i t := fun a w hA S => k a w hA (h w S)
theorem C.claims {c : Code} (h : ∀ w, St w0 w L → St w0 w L') (k : C P n Q w0 T L' c) : C P n Q w0 T L c := fun a w hA S => k a w hA (h w S)
theorem G.turn {ι : Type} {p : ι → Prop} (L' : ι → List Res) (h : ∀ w, St w0 w L → ∃ x, p x ∧ St w0 w (L' x)) (k : ∀ x, p x → G P n ops Q w0 T (L' x) rest) : G P n ops Q w0 T L rest := fun a w hA S => by
 obtain ⟨x, hp, S'⟩ := h w S
 exact k x hp a w hA S'
theorem GT.turn {ι : Type} {p : ι → Prop} (L' : ι → List Res) (h : ∀ w, St w0 w L → ∃ x, p x ∧ St w0 w (L' x)) (k : ∀ x, p x → GT P n ops Q Z w0 T (L' x) t) : GT P n ops Q Z w0 T L t := fun a w hA S => by
 obtain ⟨x, hp, S'⟩ := h w S
 exact k x hp a w hA S'
theorem G.know {p : Prop} (h : ∀ w, St w0 w L → p) (k : p → G P n ops Q w0 T L rest) : G P n ops Q w0 T L rest := fun a w hA S => k (h w S) a w hA S
theorem GT.know {p : Prop} (h : ∀ w, St w0 w L → p) (k : p → GT P n ops Q Z w0 T L t) : GT P n ops Q Z w0 T L t := fun a w hA S => k (h w S) a w hA S
theorem Alone.fresh {β : Type} {i : Nat} (e : TypeId) (q : Rp β) (ho : l[i]? = some o) (hc : chk n T l.toArray o = true) (hr : ∀ w : World, (execOp (ev T) o).run P w = .ok (.value (.slice (some ⟨w.heap.size, 0, none⟩) 0 0)) (w.alloc (.cells #[] e))) (hZ : ∀ w, St w0 w L → Z w)
  (k : ∀ b hi, GT P n l.toArray Q Z w0 (up o.dst (.slice (some ⟨b, 0, none⟩) 0 0) T) (ow (rLst e q) b hi [] [.slice (some ⟨b, 0, none⟩) 0 0] [b] :: L) t) : Alone P n l.toArray Q Z w0 T L i t :=
 Alone.turns ho hc fun w S => ⟨_, _, _, hr w, S.fresh e q, fun w S => hZ w (St.tail S), k _ _⟩
theorem appr_run {e : TypeId} {ρ : Operand → Value} {lo hi lo2 hi2 : Nat} {xs : List α} {v : Value} {F F2 : List Nat} {y : α} {cs : List Value} {bn : Nat} {M : List Res}
  (S : St w0 w (ow (rLst e r) lo hi xs [v] F :: ow r lo2 hi2 y cs F2 :: vr bn cs :: M)) (s x : Operand) (ty : TypeId) (ho : o.op = .call { callee := .builtin .append, args := #[s, x], argTypes := #[ty, ty] })
  (i : TypeInfo) (z : Value) (size bytes : Nat) (ht : P.underlying ty = some (.slice e)) (hi' : P.info? e = some i) (hz : i.zero = some z) (hsize : i.size = size) (hby : i.bytes = bytes) (hzs : z.cells.size = size) (hsz : 0 < size) (hr : r.sz = size)
  (hs : ρ s = v) (c : Nat) (hx : ρ x = .slice (some ⟨bn, 0, none⟩) 1 c) (h1 : cs.all (·.oneCell') = true) (h63 : xs.length + 1 ≤ maxLen) (hbytes : (xs.length + 1) * bytes ≤ 140737488355328) :
  ∃ A c F' w', xs.length + 1 ≤ c ∧ (execOp ρ o).run P w = .ok (.value (.slice A (xs.length + 1) c)) w' ∧ St w0 w' (ow (rLst e r) w0.heap.size w'.heap.size (xs ++ [y]) [.slice A (xs.length + 1) c] F' :: M) := by
 obtain ⟨⟨v', ds0, F1, e1, hF, hall, hrow, hhi⟩, hnd⟩ := S.at_ 0 rfl
 cases e1
 have hlo' : w0.heap.size ≤ lo := S.lo 0 _ rfl
 have hhi' : hi ≤ w.heap.size := S.hi 0 _ rfl
 have hlo2 : w0.heap.size ≤ lo2 := S.lo 1 _ rfl
 have hhi2 : hi2 ≤ w.heap.size := S.hi 1 _ rfl
 obtain ⟨hy, hG⟩ := S.at_ 1 rfl
 have hV := S.at_ 2 rfl
 have hlen : cs.length = 1 * r.sz := by rw [Nat.one_mul]; exact r.len (r.reads hy)
 have hFG := S.disj 0 1 rfl rfl (by decide)
 subst hr
 obtain ⟨v', w', hrun, hown, hgr, hat⟩ := run_app (P := P) w w0.heap.size ty o.type e i z r.sz bytes ht hi' hz hsize hby hzs hsz v xs.length ds0 (ownsRow_low hrow hlo') (some ⟨bn, 0, none⟩) 1 c cs hlen (fun q u hu => ⟨_, rfl, by rw [Addr.add_lit, Nat.zero_add]; exact hV.cell q hu⟩) (fun u hu => List.all_eq_true.1 h1 u hu) h63 hbytes S.below.size
 have hx1 : (execOp ρ o).run P w = .ok (.value v') w' := by
  unfold execOp
  simp only [ho, resolve, invoke, builtin, Sem.run_bind, Sem.run_pure, Result.andThen_ok, List.map_toArray, List.map_cons, List.map_nil, hs, hx, hrun]
 have hcl := app_claim (b0 := w0.heap.size) hnd hlo' hhi' hF hall hrow (ownAll_one hy) hG hFG hlo2 hhi2 hown hgr hat
 obtain ⟨A', c', rfl, hc'⟩ := row_form hown
 have hfoot : ∀ q, v.ownBlock = some q → (ow (rLst e r) lo hi xs [v] F).foot q := fun q hq => ⟨by rw [hF]; simp [hq], (hrow.lt q hq).1, hhi q hq⟩
 let big : Res := ⟨fun _ => True, fun q => (ow (rLst e r) lo hi xs [v] F).foot q ∨ (ow r lo2 hi2 y cs F2).foot q, w0.heap.size, w.heap.size, fun q hq => by
  rcases hq with hq | hq
  ·
   exact S.footlt (i := 0) rfl hq
  ·
   exact S.footlt (i := 1) rfl hq, fun _ _ => trivial⟩
 have S1 : St w0 w (big :: vr bn cs :: M) := St.merge (rs := [_, _]) S big trivial (fun q hq => hq.elim (fun h => ⟨_, List.mem_cons_self, h⟩) (fun h => ⟨_, List.mem_cons_of_mem _ List.mem_cons_self, h⟩)) (Nat.le_refl _) (Nat.le_refl _)
 have S2 := S1.turn 0 rfl (ow (rLst e r) w0.heap.size w'.heap.size (xs ++ [y]) [.slice A' (xs.length + 1) c'] ((Value.slice A' (xs.length + 1) c').ownBlock.toList ++ (F1 ++ F2))) (Only.of_grown hgr fun q hq => .inl (hfoot q hq)) hcl (fun q hq => by
  obtain ⟨hq, _, hq2⟩ := hq
  rcases List.mem_append.1 hq with hq | hq
  ·
   have hq' : (Value.slice A' (xs.length + 1) c').ownBlock = some q := by simpa using hq
   rcases hat with h5 | h5
   ·
    exact .inl (.inl (hfoot q (h5.symm.trans hq')))
   ·
    have h6 := h5.symm.trans hq'
    cases h6; right; exact Nat.le_refl _
  ·
   rcases List.mem_append.1 hq with hq | hq
   ·
    have := ownAll_inF hall q hq
    exact .inl (.inl ⟨by rw [hF]; simp [hq], this⟩)
   ·
    have := r.inF hy q hq
    exact .inl (.inr ⟨hq, this⟩)) (Nat.le_refl _) (Nat.le_refl _)
 exact ⟨A', c', _, w', hc', hx1, St.tail (St.front S2 1 rfl)⟩
theorem G.appr {e : TypeId} {lo hi lo2 hi2 : Nat} {xs : List α} {v : Value} {F F2 : List Nat} {y : α} {cs : List Value} {bn : Nat} {M : List Res} (s x : Operand) (ty : TypeId) (size bytes c : Nat) (hop : o.op = .call { callee := .builtin .append, args := #[s, x], argTypes := #[ty, ty] })
  (hc : chk n T ops o = true) (he : elemB P ty e size bytes = true) (hr : r.sz = size) (hs : ev T s = v) (hx : ev T x = .slice (some ⟨bn, 0, none⟩) 1 c) (h1 : cs.all (·.oneCell') = true) (h63 : xs.length + 1 ≤ maxLen) (hbytes : (xs.length + 1) * bytes ≤ 140737488355328)
  (zs : List α) (hzz : xs ++ [y] = zs) (m : Nat) (hm : xs.length + 1 = m)
  (k : ∀ A c F' hi', m ≤ c → G P n ops Q w0 (up o.dst (.slice A m c) T) (ow (rLst e r) w0.heap.size hi' zs [.slice A m c] F' :: M) rest) :
  G P n ops Q w0 T (ow (rLst e r) lo hi xs [v] F :: ow r lo2 hi2 y cs F2 :: vr bn cs :: M) (o :: rest) :=
 G.turns hc fun w S => by
  subst hzz hm
  obtain ⟨ht, hsz, i, z, hi', hz, hsize, hby, hzs⟩ := elemB_spec he
  obtain ⟨A, c', F', w', h2, h3, h4⟩ := appr_run (P := P) (o := o) (ρ := ev T) S s x ty hop i z size bytes ht hi' hz hsize hby hzs hsz hr hs c hx h1 h63 hbytes
  exact ⟨_, w', _, h3, h4, k A c' F' _ h2⟩
theorem Alone.appr {j : Nat} {e : TypeId} {lo hi lo2 hi2 : Nat} {xs : List α} {v : Value} {F F2 : List Nat} {y : α} {cs : List Value} {bn : Nat} {M : List Res} (s x : Operand) (ty : TypeId) (size bytes c : Nat) (hj : l[j]? = some o) (hop : o.op = .call { callee := .builtin .append, args := #[s, x], argTypes := #[ty, ty] })
  (hc : chk n T l.toArray o = true) (he : elemB P ty e size bytes = true) (hr : r.sz = size) (hs : ev T s = v) (hx : ev T x = .slice (some ⟨bn, 0, none⟩) 1 c) (h1 : cs.all (·.oneCell') = true) (h63 : xs.length + 1 ≤ maxLen) (hbytes : (xs.length + 1) * bytes ≤ 140737488355328)
  (zs : List α) (hzz : xs ++ [y] = zs) (m : Nat) (hm : xs.length + 1 = m) (hZ : ∀ A c F' hi' w, St w0 w (ow (rLst e r) w0.heap.size hi' zs [.slice A m c] F' :: M) → Z w)
  (k : ∀ A c F' hi', m ≤ c → GT P n l.toArray Q Z w0 (up o.dst (.slice A m c) T) (ow (rLst e r) w0.heap.size hi' zs [.slice A m c] F' :: M) t) :
  Alone P n l.toArray Q Z w0 T (ow (rLst e r) lo hi xs [v] F :: ow r lo2 hi2 y cs F2 :: vr bn cs :: M) j t :=
 Alone.turns hj hc fun w S => by
  subst hzz hm
  obtain ⟨ht, hsz, i, z, hi', hz, hsize, hby, hzs⟩ := elemB_spec he
  obtain ⟨A, c', F', w', h2, h3, h4⟩ := appr_run (P := P) (o := o) (ρ := ev T) S s x ty hop i z size bytes ht hi' hz hsize hby hzs hsz hr hs c hx h1 h63 hbytes
  exact ⟨_, w', _, h3, h4, fun w S => hZ A c' F' _ w S, k A c' F' _ h2⟩
theorem Alone.hsto {j' : Nat} {off lo hi k size : Nat} {pre post : List α} {es : List Value} {F1 F2 : List Nat} (ty : TypeId) (x y : Operand) (b p j i : Nat) (us es' : List Value) (L' : List Res) (ho : l[j']? = some o) (hop : o.op = .store ty x y) (hc : chk n T l.toArray o = true) (hx : ev T x = .pointer (some ⟨b, p, none⟩)) (hy : (ev T y).cells = us.toArray) (hL : L[i]? = some (hole r b off lo hi pre post es F1 F2)) (hk : pre.length = k) (hz : r.sz = size) (hp : p = off + k * size + j)
  (hes : (us.foldl (fun (p : List Value × Nat) u => (p.1.set p.2 u, p.2 + 1)) (es, j)).1 = es') (hL' : L.set i (hole r b off lo hi pre post es' F1 F2) = L') (hl : Nat.ble (j + us.length) es.length = true) (hi' : (P.info? ty).map (·.size) = some us.length) (h1 : us.all (·.oneCell') = true)
  (hZ : ∀ w, St w0 w L' → Z w) (kk : GT P n l.toArray Q Z w0 (up o.dst undef T) L' t) : Alone P n l.toArray Q Z w0 T L j' t :=
 Alone.acts ho hc fun w S => by
  have hl' : j + us.length ≤ es.length := Nat.le_of_ble_eq_true hl
  have ht : w.there b p us.toArray.size := fun q hq => by
   have hq' : j + q < es.length := by simp at hq; omega
   have := hole_cell (S.at_ i hL) hk hz (j + q) (List.getElem?_eq_getElem hq')
   rw [← Nat.add_assoc, ← hp] at this
   exact ⟨by rw [this.1]; rfl, this.2⟩
  refine ⟨w.setCells b p us, L', ?_, ?_, hZ, kk⟩
  ·
   unfold execOp
   have hcells : (storeVar ty ⟨b, p, none⟩ (ev T y)).run P w = (storeVar ty ⟨b, p, none⟩ (.agg us.toArray)).run P w := by
    unfold storeVar
    rw [hy]
    rfl
   have hs := run_storeVar_mid (P := P) w b p ty us.toArray ht (by simpa using hi') (by simpa using h1)
   simp only [hop, Sem.run_bind, Instr.storeAt, Instr.sureAddr, hx, Sem.run_pure, Result.andThen_ok, hcells, hs]
  ·
   subst hL' hp
   exact St.holeSets S i hL hk hz j us es' hes hl'
theorem St.nil0 (S : St w0 w L) (e : TypeId) (r : Rp α) : St w0 w (ow (rLst e r) w0.heap.size w0.heap.size [] [.slice none 0 0] [] :: L) :=
 (St.nil S e r).turn 0 rfl (ow (rLst e r) w0.heap.size w0.heap.size [] [.slice none 0 0] []) (Only.refl _ _) ⟨⟨.slice none 0 0, [], [], rfl, rfl, ⟨rfl, rfl⟩, World.ownsRow_nil _ _ _ _, fun k hk => by cases hk⟩, by simp⟩ (fun k hk => absurd hk.1 (by simp)) (Nat.le_refl _) S.below.size
end
end Go.Proofs.YtmiokacihcpepaaGreat.Sx
namespace Go.Proofs.YtmiokacihcpepaaGreat.Sx
set_option maxHeartbeats 8000000
set_option maxRecDepth 100000
set_option maxRecDepth 100000
open Go.ChangeShapes Go.WideShapes Go.ChangeAt Go.RowKit Go.Deep
open Go.Proofs.YtmiokacihcpepaaGreat.Base Go.Proofs.YtmiokacihcpepaaGreat.Mem Go.Proofs.YtmiokacihcpepaaGreat.Data Go.Proofs.YtmiokacihcpepaaGreat.Stt
set_option linter.unusedVariables false
inductive At {α : Type} : Nat → List α → α → α → List α → Prop
 | z {x y : α} {l : List α} : At 0 (x :: l) x y (y :: l)
 | s {n : Nat} {a : α} {l : List α} {x y : α} {l' : List α} : At n l x y l' → At (n + 1) (a :: l) x y (a :: l')
inductive Me {α : Type} : Nat → List α → α → Prop
 | z {x : α} {l : List α} : Me 0 (x :: l) x
 | s {n : Nat} {a : α} {l : List α} {x : α} : Me n l x → Me (n + 1) (a :: l) x
theorem At.a0 {α : Type} {x y : α} {l : List α} : At 0 (x :: l) x y (y :: l) := .z
theorem Me.m0 {α : Type} {x : α} {l : List α} : Me 0 (x :: l) x := .z
theorem At.a1 {α : Type} {x0 x y : α} {l : List α} : At 1 (x0 :: x :: l) x y (x0 :: y :: l) := .s .a0
theorem Me.m1 {α : Type} {x0 x : α} {l : List α} : Me 1 (x0 :: x :: l) x := .s .m0
theorem At.a2 {α : Type} {x0 x1 x y : α} {l : List α} : At 2 (x0 :: x1 :: x :: l) x y (x0 :: x1 :: y :: l) := .s .a1
theorem Me.m2 {α : Type} {x0 x1 x : α} {l : List α} : Me 2 (x0 :: x1 :: x :: l) x := .s .m1
theorem At.a3 {α : Type} {x0 x1 x2 x y : α} {l : List α} : At 3 (x0 :: x1 :: x2 :: x :: l) x y (x0 :: x1 :: x2 :: y :: l) := .s .a2
theorem Me.m3 {α : Type} {x0 x1 x2 x : α} {l : List α} : Me 3 (x0 :: x1 :: x2 :: x :: l) x := .s .m2
theorem At.a4 {α : Type} {x0 x1 x2 x3 x y : α} {l : List α} : At 4 (x0 :: x1 :: x2 :: x3 :: x :: l) x y (x0 :: x1 :: x2 :: x3 :: y :: l) := .s .a3
theorem Me.m4 {α : Type} {x0 x1 x2 x3 x : α} {l : List α} : Me 4 (x0 :: x1 :: x2 :: x3 :: x :: l) x := .s .m3
theorem At.a5 {α : Type} {x0 x1 x2 x3 x4 x y : α} {l : List α} : At 5 (x0 :: x1 :: x2 :: x3 :: x4 :: x :: l) x y (x0 :: x1 :: x2 :: x3 :: x4 :: y :: l) := .s .a4
theorem Me.m5 {α : Type} {x0 x1 x2 x3 x4 x : α} {l : List α} : Me 5 (x0 :: x1 :: x2 :: x3 :: x4 :: x :: l) x := .s .m4
theorem At.a6 {α : Type} {x0 x1 x2 x3 x4 x5 x y : α} {l : List α} : At 6 (x0 :: x1 :: x2 :: x3 :: x4 :: x5 :: x :: l) x y (x0 :: x1 :: x2 :: x3 :: x4 :: x5 :: y :: l) := .s .a5
theorem Me.m6 {α : Type} {x0 x1 x2 x3 x4 x5 x : α} {l : List α} : Me 6 (x0 :: x1 :: x2 :: x3 :: x4 :: x5 :: x :: l) x := .s .m5
theorem At.a7 {α : Type} {x0 x1 x2 x3 x4 x5 x6 x y : α} {l : List α} : At 7 (x0 :: x1 :: x2 :: x3 :: x4 :: x5 :: x6 :: x :: l) x y (x0 :: x1 :: x2 :: x3 :: x4 :: x5 :: x6 :: y :: l) := .s .a6
theorem Me.m7 {α : Type} {x0 x1 x2 x3 x4 x5 x6 x : α} {l : List α} : Me 7 (x0 :: x1 :: x2 :: x3 :: x4 :: x5 :: x6 :: x :: l) x := .s .m6
theorem At.a8 {α : Type} {x0 x1 x2 x3 x4 x5 x6 x7 x y : α} {l : List α} : At 8 (x0 :: x1 :: x2 :: x3 :: x4 :: x5 :: x6 :: x7 :: x :: l) x y (x0 :: x1 :: x2 :: x3 :: x4 :: x5 :: x6 :: x7 :: y :: l) := .s .a7
theorem Me.m8 {α : Type} {x0 x1 x2 x3 x4 x5 x6 x7 x : α} {l : List α} : Me 8 (x0 :: x1 :: x2 :: x3 :: x4 :: x5 :: x6 :: x7 :: x :: l) x := .s .m7
theorem At.a9 {α : Type} {x0 x1 x2 x3 x4 x5 x6 x7 x8 x y : α} {l : List α} : At 9 (x0 :: x1 :: x2 :: x3 :: x4 :: x5 :: x6 :: x7 :: x8 :: x :: l) x y (x0 :: x1 :: x2 :: x3 :: x4 :: x5 :: x6 :: x7 :: x8 :: y :: l) := .s .a8
theorem Me.m9 {α : Type} {x0 x1 x2 x3 x4 x5 x6 x7 x8 x : α} {l : List α} : Me 9 (x0 :: x1 :: x2 :: x3 :: x4 :: x5 :: x6 :: x7 :: x8 :: x :: l) x := .s .m8
theorem At.a10 {α : Type} {x0 x1 x2 x3 x4 x5 x6 x7 x8 x9 x y : α} {l : List α} : At 10 (x0 :: x1 :: x2 :: x3 :: x4 :: x5 :: x6 :: x7 :: x8 :: x9 :: x :: l) x y (x0 :: x1 :: x2 :: x3 :: x4 :: x5 :: x6 :: x7 :: x8 :: x9 :: y :: l) := .s .a9
theorem Me.m10 {α : Type} {x0 x1 x2 x3 x4 x5 x6 x7 x8 x9 x : α} {l : List α} : Me 10 (x0 :: x1 :: x2 :: x3 :: x4 :: x5 :: x6 :: x7 :: x8 :: x9 :: x :: l) x := .s .m9
theorem At.a11 {α : Type} {x0 x1 x2 x3 x4 x5 x6 x7 x8 x9 x10 x y : α} {l : List α} : At 11 (x0 :: x1 :: x2 :: x3 :: x4 :: x5 :: x6 :: x7 :: x8 :: x9 :: x10 :: x :: l) x y (x0 :: x1 :: x2 :: x3 :: x4 :: x5 :: x6 :: x7 :: x8 :: x9 :: x10 :: y :: l) := .s .a10
theorem Me.m11 {α : Type} {x0 x1 x2 x3 x4 x5 x6 x7 x8 x9 x10 x : α} {l : List α} : Me 11 (x0 :: x1 :: x2 :: x3 :: x4 :: x5 :: x6 :: x7 :: x8 :: x9 :: x10 :: x :: l) x := .s .m10
theorem At.a12 {α : Type} {x0 x1 x2 x3 x4 x5 x6 x7 x8 x9 x10 x11 x y : α} {l : List α} : At 12 (x0 :: x1 :: x2 :: x3 :: x4 :: x5 :: x6 :: x7 :: x8 :: x9 :: x10 :: x11 :: x :: l) x y (x0 :: x1 :: x2 :: x3 :: x4 :: x5 :: x6 :: x7 :: x8 :: x9 :: x10 :: x11 :: y :: l) := .s .a11
theorem Me.m12 {α : Type} {x0 x1 x2 x3 x4 x5 x6 x7 x8 x9 x10 x11 x : α} {l : List α} : Me 12 (x0 :: x1 :: x2 :: x3 :: x4 :: x5 :: x6 :: x7 :: x8 :: x9 :: x10 :: x11 :: x :: l) x := .s .m11
theorem At.a13 {α : Type} {x0 x1 x2 x3 x4 x5 x6 x7 x8 x9 x10 x11 x12 x y : α} {l : List α} : At 13 (x0 :: x1 :: x2 :: x3 :: x4 :: x5 :: x6 :: x7 :: x8 :: x9 :: x10 :: x11 :: x12 :: x :: l) x y (x0 :: x1 :: x2 :: x3 :: x4 :: x5 :: x6 :: x7 :: x8 :: x9 :: x10 :: x11 :: x12 :: y :: l) := .s .a12
theorem Me.m13 {α : Type} {x0 x1 x2 x3 x4 x5 x6 x7 x8 x9 x10 x11 x12 x : α} {l : List α} : Me 13 (x0 :: x1 :: x2 :: x3 :: x4 :: x5 :: x6 :: x7 :: x8 :: x9 :: x10 :: x11 :: x12 :: x :: l) x := .s .m12
theorem At.a14 {α : Type} {x0 x1 x2 x3 x4 x5 x6 x7 x8 x9 x10 x11 x12 x13 x y : α} {l : List α} : At 14 (x0 :: x1 :: x2 :: x3 :: x4 :: x5 :: x6 :: x7 :: x8 :: x9 :: x10 :: x11 :: x12 :: x13 :: x :: l) x y (x0 :: x1 :: x2 :: x3 :: x4 :: x5 :: x6 :: x7 :: x8 :: x9 :: x10 :: x11 :: x12 :: x13 :: y :: l) := .s .a13
theorem Me.m14 {α : Type} {x0 x1 x2 x3 x4 x5 x6 x7 x8 x9 x10 x11 x12 x13 x : α} {l : List α} : Me 14 (x0 :: x1 :: x2 :: x3 :: x4 :: x5 :: x6 :: x7 :: x8 :: x9 :: x10 :: x11 :: x12 :: x13 :: x :: l) x := .s .m13
theorem Me.m15 {α : Type} {x0 x1 x2 x3 x4 x5 x6 x7 x8 x9 x10 x11 x12 x13 x14 x : α} {l : List α} : Me 15 (x0 :: x1 :: x2 :: x3 :: x4 :: x5 :: x6 :: x7 :: x8 :: x9 :: x10 :: x11 :: x12 :: x13 :: x14 :: x :: l) x := .s .m14
theorem Me.m16 {α : Type} {x0 x1 x2 x3 x4 x5 x6 x7 x8 x9 x10 x11 x12 x13 x14 x15 x : α} {l : List α} : Me 16 (x0 :: x1 :: x2 :: x3 :: x4 :: x5 :: x6 :: x7 :: x8 :: x9 :: x10 :: x11 :: x12 :: x13 :: x14 :: x15 :: x :: l) x := .s .m15
theorem Me.m17 {α : Type} {x0 x1 x2 x3 x4 x5 x6 x7 x8 x9 x10 x11 x12 x13 x14 x15 x16 x : α} {l : List α} : Me 17 (x0 :: x1 :: x2 :: x3 :: x4 :: x5 :: x6 :: x7 :: x8 :: x9 :: x10 :: x11 :: x12 :: x13 :: x14 :: x15 :: x16 :: x :: l) x := .s .m16
theorem Me.m18 {α : Type} {x0 x1 x2 x3 x4 x5 x6 x7 x8 x9 x10 x11 x12 x13 x14 x15 x16 x17 x : α} {l : List α} : Me 18 (x0 :: x1 :: x2 :: x3 :: x4 :: x5 :: x6 :: x7 :: x8 :: x9 :: x10 :: x11 :: x12 :: x13 :: x14 :: x15 :: x16 :: x17 :: x :: l) x := .s .m17
theorem Me.m19 {α : Type} {x0 x1 x2 x3 x4 x5 x6 x7 x8 x9 x10 x11 x12 x13 x14 x15 x16 x17 x18 x : α} {l : List α} : Me 19 (x0 :: x1 :: x2 :: x3 :: x4 :: x5 :: x6 :: x7 :: x8 :: x9 :: x10 :: x11 :: x12 :: x13 :: x14 :: x15 :: x16 :: x17 :: x18 :: x :: l) x := .s .m18
theorem Me.m20 {α : Type} {x0 x1 x2 x3 x4 x5 x6 x7 x8 x9 x10 x11 x12 x13 x14 x15 x16 x17 x18 x19 x : α} {l : List α} : Me 20 (x0 :: x1 :: x2 :: x3 :: x4 :: x5 :: x6 :: x7 :: x8 :: x9 :: x10 :: x11 :: x12 :: x13 :: x14 :: x15 :: x16 :: x17 :: x18 :: x19 :: x :: l) x := .s .m19
theorem Me.m21 {α : Type} {x0 x1 x2 x3 x4 x5 x6 x7 x8 x9 x10 x11 x12 x13 x14 x15 x16 x17 x18 x19 x20 x : α} {l : List α} : Me 21 (x0 :: x1 :: x2 :: x3 :: x4 :: x5 :: x6 :: x7 :: x8 :: x9 :: x10 :: x11 :: x12 :: x13 :: x14 :: x15 :: x16 :: x17 :: x18 :: x19 :: x20 :: x :: l) x := .s .m20
theorem Me.m22 {α : Type} {x0 x1 x2 x3 x4 x5 x6 x7 x8 x9 x10 x11 x12 x13 x14 x15 x16 x17 x18 x19 x20 x21 x : α} {l : List α} : Me 22 (x0 :: x1 :: x2 :: x3 :: x4 :: x5 :: x6 :: x7 :: x8 :: x9 :: x10 :: x11 :: x12 :: x13 :: x14 :: x15 :: x16 :: x17 :: x18 :: x19 :: x20 :: x21 :: x :: l) x := .s .m21
theorem Me.m23 {α : Type} {x0 x1 x2 x3 x4 x5 x6 x7 x8 x9 x10 x11 x12 x13 x14 x15 x16 x17 x18 x19 x20 x21 x22 x : α} {l : List α} : Me 23 (x0 :: x1 :: x2 :: x3 :: x4 :: x5 :: x6 :: x7 :: x8 :: x9 :: x10 :: x11 :: x12 :: x13 :: x14 :: x15 :: x16 :: x17 :: x18 :: x19 :: x20 :: x21 :: x22 :: x :: l) x := .s .m22
theorem Me.m24 {α : Type} {x0 x1 x2 x3 x4 x5 x6 x7 x8 x9 x10 x11 x12 x13 x14 x15 x16 x17 x18 x19 x20 x21 x22 x23 x : α} {l : List α} : Me 24 (x0 :: x1 :: x2 :: x3 :: x4 :: x5 :: x6 :: x7 :: x8 :: x9 :: x10 :: x11 :: x12 :: x13 :: x14 :: x15 :: x16 :: x17 :: x18 :: x19 :: x20 :: x21 :: x22 :: x23 :: x :: l) x := .s .m23
section
variable {α : Type} {n : Nat} {l l' : List α} {x y : α}
theorem At.get (h : At n l x y l') : l[n]? = some x := by
 induction h with
 | z => rfl
 | s _ ih => simpa using ih
theorem At.set (h : At n l x y l') : l.set n y = l' := by
 induction h with
 | z => rfl
 | s _ ih => simpa using ih
theorem Me.get (h : Me n l x) : l[n]? = some x := by
 induction h with
 | z => rfl
 | s _ ih => simpa using ih
end
inductive Pk {α : Type} : List Nat → List α → List α → Prop
 | n {l : List α} : Pk [] l []
 | c {i : Nat} {is : List Nat} {l xs : List α} {x : α} : Me i l x → Pk is l xs → Pk (i :: is) l (x :: xs)
theorem Pk.map {α : Type} {is : List Nat} {l xs : List α} (h : Pk is l xs) : is.map (fun i => l[i]?) = xs.map some := by
 induction h with
 | n => rfl
 | c h1 _ ih => rw [List.map_cons, List.map_cons, ih, h1.get]
theorem fold_all : ∀ (us vs pre : List Value), vs.length = us.length → (us.foldl (fun (p : List Value × Nat) u => (p.1.set p.2 u, p.2 + 1)) (pre ++ vs, pre.length)).1 = pre ++ us
 | [], [], pre, _ => rfl
 | u :: us, v :: vs, pre, h => by
  have h1 : (pre ++ v :: vs).set pre.length u = (pre ++ [u]) ++ vs := by simp
  have h2 := fold_all us vs (pre ++ [u]) (by simpa using h)
  simp only [List.foldl_cons, h1]
  simpa using h2
theorem fold_whole {us vs : List Value} (h : vs.length = us.length) : (us.foldl (fun (p : List Value × Nat) u => (p.1.set p.2 u, p.2 + 1)) (vs, 0)).1 = us := fold_all us vs [] h
section
def isSt (o : Oper) : Bool := match o.op with | .store _ _ _ => true | _ => false
def stT (o : Oper) : TypeId := match o.op with | .store t _ _ => t | _ => 0
def stA (o : Oper) : Operand := match o.op with | .store _ x _ => x | _ => .tmp 0
def stV (o : Oper) : Operand := match o.op with | .store _ _ y => y | _ => .tmp 0
theorem isSt_op {o : Oper} (h : isSt o = true) : o.op = .store (stT o) (stA o) (stV o) := by
 unfold isSt at h
 unfold stT stA stV
 split at h
 ·
  rename_i e; rw [e]
 ·
  cases h
def isLd (o : Oper) : Bool := match o.op with | .load _ _ => true | _ => false
def ldT (o : Oper) : TypeId := match o.op with | .load t _ => t | _ => 0
def ldA (o : Oper) : Operand := match o.op with | .load _ x => x | _ => .tmp 0
theorem isLd_op {o : Oper} (h : isLd o = true) : o.op = .load (ldT o) (ldA o) := by
 unfold isLd at h
 unfold ldT ldA
 split at h
 ·
  rename_i e; rw [e]
 ·
  cases h
def isBx (o : Oper) : Bool := match o.op with | .box _ _ => true | _ => false
def bxT (o : Oper) : TypeId := match o.op with | .box t _ => t | _ => 0
def bxV (o : Oper) : Operand := match o.op with | .box _ x => x | _ => .tmp 0
theorem isBx_op {o : Oper} (h : isBx o = true) : o.op = .box (bxT o) (bxV o) := by
 unfold isBx at h
 unfold bxT bxV
 split at h
 ·
  rename_i e; rw [e]
 ·
  cases h
def isAl (o : Oper) : Bool := match o.op with | .alloc _ => true | _ => false
def alT (o : Oper) : TypeId := match o.op with | .alloc t => t | _ => 0
theorem isAl_op {o : Oper} (h : isAl o = true) : o.op = .alloc (alT o) := by
 unfold isAl at h
 unfold alT
 split at h
 ·
  rename_i e; rw [e]
 ·
  cases h
theorem pr1 {α β : Type _} {a c : α} {b d : β} (h : (a, b) = (c, d)) : a = c := congrArg Prod.fst h
theorem pr2 {α β : Type _} {a c : α} {b d : β} (h : (a, b) = (c, d)) : b = d := congrArg Prod.snd h
end
section
variable {P : Program} {n : Nat} {ops : Array Oper} {Q : Exit → Act → World → Prop} {w0 : World} {T : Tl} {L L' : List Res} {rest : List Oper} {o : Oper}
theorem look_sub {T : Tl} : ∀ T' : Tl, T'.map (fun p => look T p.1) = T'.map (fun p => some p.2) → ∀ s v, look T' s = some v → look T s = some v
 | [], _, s, v, h => by cases h
 | (d, u) :: T', hq, s, v, h => by
  simp only [List.map_cons, List.cons.injEq] at hq
  simp only [look] at h
  cases hb : Nat.beq d s with
  | true => rw [hb] at h; cases h; have := Nat.eq_of_beq_eq_true hb; subst this; exact hq.1
  | false => rw [hb] at h; exact look_sub T' hq.2 s v h
theorem Ag.sub {T T' : Tl} {a : Act} (h : Ag n T a) (hq : T'.map (fun p => look T p.1) = T'.map (fun p => some p.2)) : Ag n T' a := ⟨h.size, h.defers, fun s v hs => h.at_ s v (look_sub T' hq s v hs)⟩
theorem C.sl {c : Code} (T' : Tl) (k : C P n Q w0 T' L c) (hq : T'.map (fun p => look T p.1) = T'.map (fun p => some p.2) := by kernel_rfl) : C P n Q w0 T L c := fun a w hA S => k a w (hA.sub hq) S
theorem C.yy {c : Operand} {x y : Code} (h : C P n Q w0 T L x) (hk : (known T c, ev T c) = (true, .bool true) := by kernel_rfl) : C P n Q w0 T L (.cond c x y) := C.yes (pr1 hk) (pr2 hk) h
theorem C.nn {c : Operand} {x y : Code} (h : C P n Q w0 T L y) (hk : (known T c, ev T c) = (true, .bool false) := by kernel_rfl) : C P n Q w0 T L (.cond c x y) := C.no (pr1 hk) (pr2 hk) h
theorem G.p (v : Value) (k : G P n ops Q w0 (up o.dst v T) L rest) (hq : (chk n T ops o, fun w => (execOp (ev T) o).run P w) = (true, fun w => .ok (.value v) w) := by kernel_rfl) : G P n ops Q w0 T L (o :: rest) := G.pure v (pr1 hq) (fun w => congrFun (pr2 hq) w) k
theorem G.q (v0 v : Value) (he : v0 = v) (k : G P n ops Q w0 (up o.dst v T) L rest) (hq : (chk n T ops o, fun w => (execOp (ev T) o).run P w) = (true, fun w => .ok (.value v0) w) := by kernel_rfl) : G P n ops Q w0 T L (o :: rest) := G.pureq v0 v (pr1 hq) (fun w => congrFun (pr2 hq) w) he k
theorem G.k (k : G P n ops Q w0 (up o.dst undef T) L rest) (hc : chkNo n T ops o = true := by kernel_rfl) : G P n ops Q w0 T L (o :: rest) := G.skip hc k
theorem G.c (f : FuncId) (args : Array Value) (h : ∀ w, St w0 w L → Calls P f args w fun e w' => ∃ v L', e = .returned v ∧ St w0 w' L' ∧ G P n ops Q w0 (up o.dst v T) L' rest) (hq : (chk n T ops o, fun w => (execOp (ev T) o).run P w) = (true, fun w => .ok (.enter f args) w) := by kernel_rfl) : G P n ops Q w0 T L (o :: rest) := G.call f args (pr1 hq) (fun w => congrFun (pr2 hq) w) h
theorem G.cp (f : FuncId) (args : Array Value) (v : Value) (h : ∀ w, St w0 w L → Calls P f args w fun e w' => e = .returned v ∧ Below w.heap.size w w') (k : G P n ops Q w0 (up o.dst v T) L rest) (hq : (chk n T ops o, fun w => (execOp (ev T) o).run P w) = (true, fun w => .ok (.enter f args) w) := by kernel_rfl) : G P n ops Q w0 T L (o :: rest) := G.plain f args v (pr1 hq) (fun w => congrFun (pr2 hq) w) h k
theorem G.b (vs : List Value) (k : ∀ b, G P n ops Q w0 (up o.dst (.pointer (some ⟨b, 0, none⟩)) T) (vr b vs :: L) rest) (hq : (isBx o, chk n T ops o, (ev T (bxV o)).cells) = (true, true, vs.toArray) := by kernel_rfl) : G P n ops Q w0 T L (o :: rest) := G.box (bxT o) (bxV o) vs (isBx_op (pr1 hq)) (pr1 (pr2 hq)) (pr2 (pr2 hq)) k
theorem G.a (z : Value) (vs : List Value) (k : ∀ b, G P n ops Q w0 (up o.dst (.pointer (some ⟨b, 0, none⟩)) T) (vr b vs :: L) rest) (hq : (isAl o, chk n T ops o, (fun w => (zeroValue (alT o)).run P w), z.cells) = (true, true, (fun w => .ok z w), vs.toArray) := by kernel_rfl) : G P n ops Q w0 T L (o :: rest) := G.alloc (alT o) z vs (isAl_op (pr1 hq)) (pr1 (pr2 hq)) (fun w => congrFun (pr1 (pr2 (pr2 hq))) w) (pr2 (pr2 (pr2 hq))) k
theorem G.ar (vs : List Value) (k : ∀ b, G P n ops Q w0 (up o.dst (.pointer (some ⟨b, 0, none⟩)) T) (vr b vs :: L) rest) (hq : (isAl o, chk n T ops o, (fun w => (zeroValue (alT o)).run P w)) = (true, true, (fun w => .ok (.agg vs.toArray) w)) := by kernel_rfl) : G P n ops Q w0 T L (o :: rest) := G.alloc (alT o) (.agg vs.toArray) vs (isAl_op (pr1 hq)) (pr1 (pr2 hq)) (fun w => congrFun (pr2 (pr2 hq)) w) rfl k
theorem G.pk {is : List Nat} (h : Pk is L L') (k : G P n ops Q w0 T L' rest) (hn : is.Nodup := by decide) : G P n ops Q w0 T L rest := fun a w hA S => k a w hA (St.pick S is L' h.map hn)
theorem C.pk {is : List Nat} {c : Code} (h : Pk is L L') (k : C P n Q w0 T L' c) (hn : is.Nodup := by decide) : C P n Q w0 T L c := fun a w hA S => k a w hA (St.pick S is L' h.map hn)
theorem G.lw {i b : Nat} {vs : List Value} (hm : Me i L (vr b vs)) (k : G P n ops Q w0 (up o.dst (.agg vs.toArray) T) L rest) (hq : (isLd o, chk n T ops o, ev T (ldA o), isRow P (ldT o), (P.info? (ldT o)).map (·.size)) = (true, true, .pointer (some ⟨b, 0, none⟩), true, some vs.length) := by kernel_rfl) : G P n ops Q w0 T L (o :: rest) :=
 G.ld (ldT o) (ldA o) b 0 i vs vs (isLd_op (pr1 hq)) (pr1 (pr2 hq)) (pr1 (pr2 (pr2 hq))) hm.get (by rw [List.drop_zero, List.take_length]) (pr1 (pr2 (pr2 (pr2 hq)))) (pr2 (pr2 (pr2 (pr2 hq)))) k
theorem G.lp {i b : Nat} {vs : List Value} (off : Nat) (cs : List Value) (hm : Me i L (vr b vs)) (k : G P n ops Q w0 (up o.dst (.agg cs.toArray) T) L rest) (hq : (isLd o, chk n T ops o, ev T (ldA o), isRow P (ldT o), (P.info? (ldT o)).map (·.size), (vs.drop off).take cs.length) = (true, true, .pointer (some ⟨b, off, none⟩), true, some cs.length, cs) := by kernel_rfl) : G P n ops Q w0 T L (o :: rest) :=
 G.ld (ldT o) (ldA o) b off i vs cs (isLd_op (pr1 hq)) (pr1 (pr2 hq)) (pr1 (pr2 (pr2 hq))) hm.get (pr2 (pr2 (pr2 (pr2 (pr2 hq))))) (pr1 (pr2 (pr2 (pr2 hq)))) (pr1 (pr2 (pr2 (pr2 (pr2 hq))))) k
theorem G.g {i b off : Nat} {vs : List Value} (v : Value) (hm : Me i L (vr b vs)) (hv : Me off vs v) (k : G P n ops Q w0 (up o.dst v T) L rest) (hq : (isLd o, chk n T ops o, ev T (ldA o), isCell P (ldT o)) = (true, true, .pointer (some ⟨b, off, none⟩), true) := by kernel_rfl) : G P n ops Q w0 T L (o :: rest) :=
 G.ld1 (ldT o) (ldA o) b off i vs v (isLd_op (pr1 hq)) (pr1 (pr2 hq)) (pr1 (pr2 (pr2 hq))) hm.get hv.get (pr2 (pr2 (pr2 hq))) k
theorem G.sw {i b : Nat} {vs : List Value} (us : List Value) (ha : At i L (vr b vs) (vr b us) L') (k : G P n ops Q w0 (up o.dst undef T) L' rest) (hq : (isSt o, chk n T ops o, ev T (stA o), (ev T (stV o)).cells, (P.info? (stT o)).map (·.size), us.all (·.oneCell'), vs.length) = (true, true, .pointer (some ⟨b, 0, none⟩), us.toArray, some us.length, true, us.length) := by kernel_rfl) : G P n ops Q w0 T L (o :: rest) :=
 G.sto (stT o) (stA o) (stV o) b 0 i vs us us L' (isSt_op (pr1 hq)) (pr1 (pr2 hq)) (pr1 (pr2 (pr2 hq))) (pr1 (pr2 (pr2 (pr2 hq)))) ha.get (fold_whole (pr2 (pr2 (pr2 (pr2 (pr2 (pr2 hq))))))) ha.set (Nat.ble_eq_true_of_le (by rw [Nat.zero_add]; exact Nat.le_of_eq (pr2 (pr2 (pr2 (pr2 (pr2 (pr2 hq)))))).symm)) (pr1 (pr2 (pr2 (pr2 (pr2 hq))))) (pr1 (pr2 (pr2 (pr2 (pr2 (pr2 hq)))))) k
theorem lt_at {α : Type} {n : Nat} {l l' : List α} {x y : α} (h : At n l x y l') : n < l.length := (List.getElem?_eq_some_iff.1 h.get).1
theorem G.s {i b off : Nat} {vs vs' : List Value} {u : Value} (v : Value) (ha : At i L (vr b vs) (vr b vs') L') (hv : At off vs u v vs') (k : G P n ops Q w0 (up o.dst undef T) L' rest) (hq : (isSt o, chk n T ops o, ev T (stA o), (ev T (stV o)).cells, (P.info? (stT o)).map (·.size), v.oneCell') = (true, true, .pointer (some ⟨b, off, none⟩), #[v], some 1, true) := by kernel_rfl) : G P n ops Q w0 T L (o :: rest) :=
 G.sto (stT o) (stA o) (stV o) b off i vs [v] vs' L' (isSt_op (pr1 hq)) (pr1 (pr2 hq)) (pr1 (pr2 (pr2 hq))) (pr1 (pr2 (pr2 (pr2 hq)))) ha.get hv.set ha.set (Nat.ble_eq_true_of_le (lt_at hv)) (pr1 (pr2 (pr2 (pr2 (pr2 hq))))) (by simp [(pr2 (pr2 (pr2 (pr2 (pr2 hq)))))]) k
theorem G.hw {α : Type} {r : Rp α} {i b off lo hi : Nat} {pre post : List α} {es : List Value} {F1 F2 : List Nat} (k : Nat) (us : List Value) (ha : At i L (hole r b off lo hi pre post es F1 F2) (hole r b off lo hi pre post us F1 F2) L') (hk : pre.length = k) (kk : G P n ops Q w0 (up o.dst undef T) L' rest)
  (hq : (isSt o, chk n T ops o, ev T (stA o), (ev T (stV o)).cells, (P.info? (stT o)).map (·.size), us.all (·.oneCell'), es.length) = (true, true, .pointer (some ⟨b, off + k * r.sz, none⟩), us.toArray, some us.length, true, us.length) := by kernel_rfl) : G P n ops Q w0 T L (o :: rest) :=
 G.hsto (stT o) (stA o) (stV o) b (off + k * r.sz) 0 i us us L' (isSt_op (pr1 hq)) (pr1 (pr2 hq)) (pr1 (pr2 (pr2 hq))) (pr1 (pr2 (pr2 (pr2 hq)))) ha.get hk rfl rfl (fold_whole (pr2 (pr2 (pr2 (pr2 (pr2 (pr2 hq))))))) ha.set (Nat.ble_eq_true_of_le (by rw [Nat.zero_add]; exact Nat.le_of_eq (pr2 (pr2 (pr2 (pr2 (pr2 (pr2 hq)))))).symm)) (pr1 (pr2 (pr2 (pr2 (pr2 hq))))) (pr1 (pr2 (pr2 (pr2 (pr2 (pr2 hq)))))) kk
end
section
variable {P : Program} {n : Nat} {l : List Oper} {Q : Exit → Act → World → Prop} {w0 : World} {T : Tl} {L L' L0 : List Res} {o : Oper} {Z : World → Prop} {r : Ord.Ot} {i : Nat}
theorem GT.p (v : Value) (k : GT P n l.toArray Q Z w0 (up o.dst v T) L r) (ho : l[i]? = some o := by rfl) (hq : (chk n T l.toArray o, fun w => (execOp (ev T) o).run P w) = (true, fun w => .ok (.value v) w) := by kernel_rfl) : GT P n l.toArray Q Z w0 T L (.take i r) := GT.pure v i ho (pr1 hq) (fun w => congrFun (pr2 hq) w) k
theorem GT.q (v0 v : Value) (he : v0 = v) (k : GT P n l.toArray Q Z w0 (up o.dst v T) L r) (ho : l[i]? = some o := by rfl) (hq : (chk n T l.toArray o, fun w => (execOp (ev T) o).run P w) = (true, fun w => .ok (.value v0) w) := by kernel_rfl) : GT P n l.toArray Q Z w0 T L (.take i r) := GT.pureq v0 v i ho (pr1 hq) (fun w => congrFun (pr2 hq) w) he k
theorem GT.k (k : GT P n l.toArray Q Z w0 (up o.dst undef T) L r) (ho : l[i]? = some o := by rfl) (hc : chkNo n T l.toArray o = true := by kernel_rfl) : GT P n l.toArray Q Z w0 T L (.take i r) := GT.skip i ho hc k
theorem GT.pk {is : List Nat} {t : Ord.Ot} (h : Pk is L L') (k : GT P n l.toArray Q Z w0 T L' t) (hn : is.Nodup := by decide) : GT P n l.toArray Q Z w0 T L t := fun a w hA S => k a w hA (St.pick S is L' h.map hn)
theorem GT.lw {j b : Nat} {vs : List Value} (hm : Me j L0 (vr b vs)) (k : GT P n l.toArray Q (fun w => St w0 w L0) w0 (up o.dst (.agg vs.toArray) T) L r) (ho : l[i]? = some o := by rfl) (hq : (isLd o, chk n T l.toArray o, ev T (ldA o), isRow P (ldT o), (P.info? (ldT o)).map (·.size)) = (true, true, .pointer (some ⟨b, 0, none⟩), true, some vs.length) := by kernel_rfl) : GT P n l.toArray Q (fun w => St w0 w L0) w0 T L (.take i r) :=
 GT.ld (ldT o) (ldA o) b 0 j vs vs i ho (isLd_op (pr1 hq)) (pr1 (pr2 hq)) (pr1 (pr2 (pr2 hq))) hm.get (by rw [List.drop_zero, List.take_length]) (pr1 (pr2 (pr2 (pr2 hq)))) (pr2 (pr2 (pr2 (pr2 hq)))) k
theorem GT.lp {j b : Nat} {vs : List Value} (off : Nat) (cs : List Value) (hm : Me j L0 (vr b vs)) (k : GT P n l.toArray Q (fun w => St w0 w L0) w0 (up o.dst (.agg cs.toArray) T) L r) (ho : l[i]? = some o := by rfl) (hq : (isLd o, chk n T l.toArray o, ev T (ldA o), isRow P (ldT o), (P.info? (ldT o)).map (·.size), (vs.drop off).take cs.length) = (true, true, .pointer (some ⟨b, off, none⟩), true, some cs.length, cs) := by kernel_rfl) : GT P n l.toArray Q (fun w => St w0 w L0) w0 T L (.take i r) :=
 GT.ld (ldT o) (ldA o) b off j vs cs i ho (isLd_op (pr1 hq)) (pr1 (pr2 hq)) (pr1 (pr2 (pr2 hq))) hm.get (pr2 (pr2 (pr2 (pr2 (pr2 hq))))) (pr1 (pr2 (pr2 (pr2 hq)))) (pr1 (pr2 (pr2 (pr2 (pr2 hq))))) k
theorem GT.g {j b off : Nat} {vs : List Value} (v : Value) (hm : Me j L0 (vr b vs)) (hv : Me off vs v) (k : GT P n l.toArray Q (fun w => St w0 w L0) w0 (up o.dst v T) L r) (ho : l[i]? = some o := by rfl) (hq : (isLd o, chk n T l.toArray o, ev T (ldA o), isCell P (ldT o)) = (true, true, .pointer (some ⟨b, off, none⟩), true) := by kernel_rfl) : GT P n l.toArray Q (fun w => St w0 w L0) w0 T L (.take i r) :=
 GT.ld1 (ldT o) (ldA o) b off j vs v i ho (isLd_op (pr1 hq)) (pr1 (pr2 hq)) (pr1 (pr2 (pr2 hq))) hm.get hv.get (pr2 (pr2 (pr2 hq))) k
theorem Alone.k (hz : ∀ w, St w0 w L → Z w) (k : GT P n l.toArray Q Z w0 (up o.dst undef T) L r) (ho : l[i]? = some o := by rfl) (hc : chkNo n T l.toArray o = true := by kernel_rfl) : Alone P n l.toArray Q Z w0 T L i r := Alone.skip ho hc hz k
theorem Alone.c (f : FuncId) (args : Array Value) (h : ∀ w, St w0 w L → Calls P f args w fun e w' => ∃ v L', e = .returned v ∧ St w0 w' L' ∧ (∀ w, St w0 w L' → Z w) ∧ GT P n l.toArray Q Z w0 (up o.dst v T) L' r) (ho : l[i]? = some o := by rfl) (hq : (chk n T l.toArray o, fun w => (execOp (ev T) o).run P w) = (true, fun w => .ok (.enter f args) w) := by kernel_rfl) : Alone P n l.toArray Q Z w0 T L i r := Alone.call f args ho (pr1 hq) (fun w => congrFun (pr2 hq) w) h
theorem Alone.cp (f : FuncId) (args : Array Value) (v : Value) (h : ∀ w, St w0 w L → Calls P f args w fun e w' => e = .returned v ∧ Below w.heap.size w w') (hz : ∀ w, St w0 w L → Z w) (k : GT P n l.toArray Q Z w0 (up o.dst v T) L r) (ho : l[i]? = some o := by rfl) (hq : (chk n T l.toArray o, fun w => (execOp (ev T) o).run P w) = (true, fun w => .ok (.enter f args) w) := by kernel_rfl) : Alone P n l.toArray Q Z w0 T L i r := Alone.plain f args v ho (pr1 hq) (fun w => congrFun (pr2 hq) w) h hz k
theorem Alone.b (vs : List Value) (hZ : ∀ w, St w0 w L → Z w) (k : ∀ b, GT P n l.toArray Q Z w0 (up o.dst (.pointer (some ⟨b, 0, none⟩)) T) (vr b vs :: L) r) (ho : l[i]? = some o := by rfl) (hq : (isBx o, chk n T l.toArray o, (ev T (bxV o)).cells) = (true, true, vs.toArray) := by kernel_rfl) : Alone P n l.toArray Q Z w0 T L i r := Alone.box (bxT o) (bxV o) vs ho (isBx_op (pr1 hq)) (pr1 (pr2 hq)) (pr2 (pr2 hq)) hZ k
theorem Alone.a (z : Value) (vs : List Value) (hZ : ∀ w, St w0 w L → Z w) (k : ∀ b, GT P n l.toArray Q Z w0 (up o.dst (.pointer (some ⟨b, 0, none⟩)) T) (vr b vs :: L) r) (ho : l[i]? = some o := by rfl) (hq : (isAl o, chk n T l.toArray o, (fun w => (zeroValue (alT o)).run P w), z.cells) = (true, true, (fun w => .ok z w), vs.toArray) := by kernel_rfl) : Alone P n l.toArray Q Z w0 T L i r := Alone.alloc (alT o) z vs ho (isAl_op (pr1 hq)) (pr1 (pr2 hq)) (fun w => congrFun (pr1 (pr2 (pr2 hq))) w) (pr2 (pr2 (pr2 hq))) hZ k
theorem Alone.ar (vs : List Value) (hZ : ∀ w, St w0 w L → Z w) (k : ∀ b, GT P n l.toArray Q Z w0 (up o.dst (.pointer (some ⟨b, 0, none⟩)) T) (vr b vs :: L) r) (ho : l[i]? = some o := by rfl) (hq : (isAl o, chk n T l.toArray o, (fun w => (zeroValue (alT o)).run P w)) = (true, true, (fun w => .ok (.agg vs.toArray) w)) := by kernel_rfl) : Alone P n l.toArray Q Z w0 T L i r := Alone.alloc (alT o) (.agg vs.toArray) vs ho (isAl_op (pr1 hq)) (pr1 (pr2 hq)) (fun w => congrFun (pr2 (pr2 hq)) w) rfl hZ k
theorem Alone.lw {j b : Nat} {vs : List Value} (hm : Me j L (vr b vs)) (hz : ∀ w, St w0 w L → Z w) (k : GT P n l.toArray Q Z w0 (up o.dst (.agg vs.toArray) T) L r) (ho : l[i]? = some o := by rfl) (hq : (isLd o, chk n T l.toArray o, ev T (ldA o), isRow P (ldT o), (P.info? (ldT o)).map (·.size)) = (true, true, .pointer (some ⟨b, 0, none⟩), true, some vs.length) := by kernel_rfl) : Alone P n l.toArray Q Z w0 T L i r :=
 Alone.ld (ldT o) (ldA o) b 0 j vs vs ho (isLd_op (pr1 hq)) (pr1 (pr2 hq)) (pr1 (pr2 (pr2 hq))) hm.get (by rw [List.drop_zero, List.take_length]) (pr1 (pr2 (pr2 (pr2 hq)))) (pr2 (pr2 (pr2 (pr2 hq)))) hz k
theorem Alone.lp {j b : Nat} {vs : List Value} (off : Nat) (cs : List Value) (hm : Me j L (vr b vs)) (hz : ∀ w, St w0 w L → Z w) (k : GT P n l.toArray Q Z w0 (up o.dst (.agg cs.toArray) T) L r) (ho : l[i]? = some o := by rfl) (hq : (isLd o, chk n T l.toArray o, ev T (ldA o), isRow P (ldT o), (P.info? (ldT o)).map (·.size), (vs.drop off).take cs.length) = (true, true, .pointer (some ⟨b, off, none⟩), true, some cs.length, cs) := by kernel_rfl) : Alone P n l.toArray Q Z w0 T L i r :=
 Alone.ld (ldT o) (ldA o) b off j vs cs ho (isLd_op (pr1 hq)) (pr1 (pr2 hq)) (pr1 (pr2 (pr2 hq))) hm.get (pr2 (pr2 (pr2 (pr2 (pr2 hq))))) (pr1 (pr2 (pr2 (pr2 hq)))) (pr1 (pr2 (pr2 (pr2 (pr2 hq))))) hz k
theorem Alone.g {j b off : Nat} {vs : List Value} (v : Value) (hm : Me j L (vr b vs)) (hv : Me off vs v) (hz : ∀ w, St w0 w L → Z w) (k : GT P n l.toArray Q Z w0 (up o.dst v T) L r) (ho : l[i]? = some o := by rfl) (hq : (isLd o, chk n T l.toArray o, ev T (ldA o), isCell P (ldT o)) = (true, true, .pointer (some ⟨b, off, none⟩), true) := by kernel_rfl) : Alone P n l.toArray Q Z w0 T L i r :=
 Alone.ld1 (ldT o) (ldA o) b off j vs v ho (isLd_op (pr1 hq)) (pr1 (pr2 hq)) (pr1 (pr2 (pr2 hq))) hm.get hv.get (pr2 (pr2 (pr2 hq))) hz k
theorem Alone.sw {j b : Nat} {vs : List Value} (us : List Value) (ha : At j L (vr b vs) (vr b us) L') (hZ : ∀ w, St w0 w L' → Z w) (k : GT P n l.toArray Q Z w0 (up o.dst undef T) L' r) (ho : l[i]? = some o := by rfl) (hq : (isSt o, chk n T l.toArray o, ev T (stA o), (ev T (stV o)).cells, (P.info? (stT o)).map (·.size), us.all (·.oneCell'), vs.length) = (true, true, .pointer (some ⟨b, 0, none⟩), us.toArray, some us.length, true, us.length) := by kernel_rfl) : Alone P n l.toArray Q Z w0 T L i r :=
 Alone.sto (stT o) (stA o) (stV o) b 0 j vs us us L' ho (isSt_op (pr1 hq)) (pr1 (pr2 hq)) (pr1 (pr2 (pr2 hq))) (pr1 (pr2 (pr2 (pr2 hq)))) ha.get (fold_whole (pr2 (pr2 (pr2 (pr2 (pr2 (pr2 hq))))))) ha.set (Nat.ble_eq_true_of_le (by rw [Nat.zero_add]; exact Nat.le_of_eq (pr2 (pr2 (pr2 (pr2 (pr2 (pr2 hq)))))).symm)) (pr1 (pr2 (pr2 (pr2 (pr2 hq))))) (pr1 (pr2 (pr2 (pr2 (pr2 (pr2 hq)))))) hZ k
theorem Alone.s {j b off : Nat} {vs vs' : List Value} {u : Value} (v : Value) (ha : At j L (vr b vs) (vr b vs') L') (hv : At off vs u v vs') (hZ : ∀ w, St w0 w L' → Z w) (k : GT P n l.toArray Q Z w0 (up o.dst undef T) L' r) (ho : l[i]? = some o := by rfl) (hq : (isSt o, chk n T l.toArray o, ev T (stA o), (ev T (stV o)).cells, (P.info? (stT o)).map (·.size), v.oneCell') = (true, true, .pointer (some ⟨b, off, none⟩), #[v], some 1, true) := by kernel_rfl) : Alone P n l.toArray Q Z w0 T L i r :=
 Alone.sto (stT o) (stA o) (stV o) b off j vs [v] vs' L' ho (isSt_op (pr1 hq)) (pr1 (pr2 hq)) (pr1 (pr2 (pr2 hq))) (pr1 (pr2 (pr2 (pr2 hq)))) ha.get hv.set ha.set (Nat.ble_eq_true_of_le (lt_at hv)) (pr1 (pr2 (pr2 (pr2 (pr2 hq))))) (by simp [(pr2 (pr2 (pr2 (pr2 (pr2 hq)))))]) hZ k
theorem Alone.hw {α : Type} {q : Rp α} {j b off lo hi : Nat} {pre post : List α} {es : List Value} {F1 F2 : List Nat} (k : Nat) (us : List Value) (ha : At j L (hole q b off lo hi pre post es F1 F2) (hole q b off lo hi pre post us F1 F2) L') (hk : pre.length = k) (hZ : ∀ w, St w0 w L' → Z w) (kk : GT P n l.toArray Q Z w0 (up o.dst undef T) L' r) (ho : l[i]? = some o := by rfl)
  (hq : (isSt o, chk n T l.toArray o, ev T (stA o), (ev T (stV o)).cells, (P.info? (stT o)).map (·.size), us.all (·.oneCell'), es.length) = (true, true, .pointer (some ⟨b, off + k * q.sz, none⟩), us.toArray, some us.length, true, us.length) := by kernel_rfl) : Alone P n l.toArray Q Z w0 T L i r :=
 Alone.hsto (stT o) (stA o) (stV o) b (off + k * q.sz) 0 j us us L' ho (isSt_op (pr1 hq)) (pr1 (pr2 hq)) (pr1 (pr2 (pr2 hq))) (pr1 (pr2 (pr2 (pr2 hq)))) ha.get hk rfl rfl (fold_whole (pr2 (pr2 (pr2 (pr2 (pr2 (pr2 hq))))))) ha.set (Nat.ble_eq_true_of_le (by rw [Nat.zero_add]; exact Nat.le_of_eq (pr2 (pr2 (pr2 (pr2 (pr2 (pr2 hq)))))).symm)) (pr1 (pr2 (pr2 (pr2 (pr2 hq))))) (pr1 (pr2 (pr2 (pr2 (pr2 (pr2 hq)))))) hZ kk
end
end Go.Proofs.YtmiokacihcpepaaGreat.Sx
namespace Go.Proofs.YtmiokacihcpepaaGreat.Kit
set_option maxHeartbeats 8000000
set_option maxRecDepth 100000
set_option maxRecDepth 100000
open Go.ChangeShapes Go.WideShapes Go.ChangeAt Go.RowKit Go.Deep
open Go.Proofs.YtmiokacihcpepaaGreat.Base Go.Proofs.YtmiokacihcpepaaGreat.Mem Go.Proofs.YtmiokacihcpepaaGreat.Data Go.Proofs.YtmiokacihcpepaaGreat.Stt
set_option linter.unusedVariables false
set_option linter.unusedSimpArgs false
set_option linter.unnecessarySimpa false
section
variable {α : Type} (r : Rp α)
variable {r} {xs : List α} {i : Nat}
theorem take_step (h : i < xs.length) : xs.take (i + 1) = xs.take i ++ [xs[i]] := List.take_succ_eq_append_getElem h
theorem drop_step (h : i < xs.length) : xs.drop i = xs[i] :: xs.drop (i + 1) := List.drop_eq_getElem_cons h
end
section
variable {α : Type} {r : Rp α}
end
end Go.Proofs.YtmiokacihcpepaaGreat.Kit
namespace Go.Proofs.YtmiokacihcpepaaGreat.Kit
set_option maxHeartbeats 8000000
set_option maxRecDepth 100000
set_option maxRecDepth 100000
open Go.ChangeShapes Go.WideShapes Go.ChangeAt Go.RowKit Go.Deep
open Go.Proofs.YtmiokacihcpepaaGreat.Base Go.Proofs.YtmiokacihcpepaaGreat.Mem Go.Proofs.YtmiokacihcpepaaGreat.Data Go.Proofs.YtmiokacihcpepaaGreat.Stt
set_option linter.unusedVariables false
set_option linter.unusedSimpArgs false
theorem open_nil {α : Type} {r : Rp α} {w : World} {lo hi : Nat} {es : List Value} {F : List Nat} (h : (rLsw r).own w lo hi [] es F) : ∃ A c, es = [.slice A 0 c] := by
 obtain ⟨A, c, ds, F1, e, -⟩ := h
 exact ⟨A, c, e⟩
theorem own_nil {α : Type} {r : Rp α} (w : World) (lo hi : Nat) : (rLsw r).own w lo hi [] [.slice none 0 0] [] := ⟨none, 0, [], [], rfl, Nat.le_refl _, rfl, ⟨rfl, rfl⟩, ⟨Lies.nil, fun b off e => by cases e⟩⟩
theorem rd_Int {w : World} {lo hi : Nat} {x : Int} {es : List Value} (h : rInt.rd w lo hi x es) : es = [.int .i64 x] := by
 exact h
theorem own_Int {w : World} {lo hi : Nat} {x : Int} {es : List Value} {F : List Nat} (h : rInt.own w lo hi x es F) : es = [.int .i64 x] ∧ F = [] := by
 exact h
theorem own_mk_Int (w : World) (lo hi : Nat) (x : Int) : rInt.own w lo hi x [.int .i64 x] [] := ⟨rfl, rfl⟩
theorem sz0_Int : ∀ xs : List Int, sizeAll rInt xs = 0
 | [] => rfl
 | x :: xs => by rw [sizeAll, sz0_Int xs]; rfl
theorem own_Slot {w : World} {lo hi : Nat} {x : (Int × Int)} {es : List Value} {F : List Nat} (h : (rPair rInt rInt).own w lo hi x es F) : es = [.int .i64 x.1, .int .i64 x.2] ∧ F = [] := by
 obtain ⟨u0, v0, U0, V0, rfl, rfl, ⟨rfl, rfl⟩, h⟩ := h
 obtain ⟨rfl, rfl⟩ := h
 exact ⟨rfl, rfl⟩
theorem own_mk_Slot (w : World) (lo hi : Nat) (x : (Int × Int)) : (rPair rInt rInt).own w lo hi x [.int .i64 x.1, .int .i64 x.2] [] := ⟨[_], _, [], [], rfl, rfl, ⟨rfl, rfl⟩, ⟨rfl, rfl⟩⟩
end Go.Proofs.YtmiokacihcpepaaGreat.Kit
namespace Go.Proofs.YtmiokacihcpepaaGreat.Slots
set_option maxHeartbeats 8000000
set_option maxRecDepth 100000
set_option maxRecDepth 100000
open Go.ChangeShapes Go.WideShapes Go.ChangeAt Go.RowKit
open Go.Proofs.YtmiokacihcpepaaGreat.Base Go.Proofs.YtmiokacihcpepaaGreat.Mem
def scells : List (Int × Int) → List Value
 | [] => []
 | p :: l => .int .i64 p.1 :: .int .i64 p.2 :: scells l
theorem scells_len : ∀ l, (scells l).length = 2 * l.length
 | [] => rfl
 | p :: l => by simp [scells, scells_len l]; omega
theorem scells_fst : ∀ (l : List (Int × Int)) (k : Nat) (h : k < l.length), (scells l)[k * 2]? = some (.int .i64 l[k].1)
 | p :: l, 0, _ => rfl
 | p :: l, k + 1, h => by
  have := scells_fst l k (by simpa using h)
  rw [show (k + 1) * 2 = k * 2 + 1 + 1 by omega]
  simpa [scells] using this
theorem scells_snd : ∀ (l : List (Int × Int)) (k : Nat) (h : k < l.length), (scells l)[k * 2 + 1]? = some (.int .i64 l[k].2)
 | p :: l, 0, _ => rfl
 | p :: l, k + 1, h => by
  have := scells_snd l k (by simpa using h)
  rw [show (k + 1) * 2 + 1 = k * 2 + 1 + 1 + 1 by omega]
  simpa [scells] using this
theorem scells_append : ∀ l m, scells (l ++ m) = scells l ++ scells m
 | [], m => rfl
 | p :: l, m => by simp [scells, scells_append l m]
theorem slot_at {w : World} {lo hi : Nat} {A : Option Addr} {l : List (Int × Int)} (h : Lies w lo hi A (scells l)) (k : Nat) (hk : k < l.length) :
  ∃ b off, A = some ⟨b, off, none⟩ ∧ lo ≤ b ∧ b < hi ∧ w.cell? ⟨b, off + k * 2, none⟩ = some (.int .i64 l[k].1) ∧ w.cell? ⟨b, off + k * 2 + 1, none⟩ = some (.int .i64 l[k].2) := by
 obtain ⟨b, off, e, x, y, hc⟩ := h.at_ (by rw [scells_len]; omega)
 exact ⟨b, off, e, x, y, hc _ _ (scells_fst l k hk), by rw [Nat.add_assoc]; exact hc _ _ (scells_snd l k hk)⟩
theorem grown_of_below {w w' : World} (h : Below w.heap.size w w') (row : Option Nat) : w.grownBy w' row := ⟨h.os, h.tape, h.output, h.size, fun i hi _ => h.block i hi⟩
def RowPost (w : World) (n : Nat) (l : List (Int × Int)) (e : Ending) (w' : World) : Prop :=
 ∃ ad c, e = .returned (.slice (some ad) n c) ∧ n ≤ c ∧ Owned w' w.heap.size w'.heap.size (some ad) (scells l) ∧ Below w.heap.size w w'
end Go.Proofs.YtmiokacihcpepaaGreat.Slots
namespace Go.Proofs.YtmiokacihcpepaaGreat.Ints
set_option maxHeartbeats 8000000
set_option maxRecDepth 100000
set_option maxRecDepth 100000
open Go.ChangeShapes Go.WideShapes Go.ChangeAt Go.RowKit
open Go.Proofs.YtmiokacihcpepaaGreat.Base Go.Proofs.YtmiokacihcpepaaGreat.Mem
def ncells (l : List Int) : List Value := l.map (Value.int .i64)
theorem ncells_len (l : List Int) : (ncells l).length = l.length := by simp [ncells]
theorem ncells_at (l : List Int) (k : Nat) (h : k < l.length) : (ncells l)[k]? = some (.int .i64 l[k]) := by simp [ncells, h]
theorem int_at {w : World} {lo hi : Nat} {A : Option Addr} {l : List Int} (h : Lies w lo hi A (ncells l)) (k : Nat) (hk : k < l.length) :
  ∃ b off, A = some ⟨b, off, none⟩ ∧ lo ≤ b ∧ b < hi ∧ w.cell? ⟨b, off + k, none⟩ = some (.int .i64 l[k]) := by
 obtain ⟨b, off, e, x, y, hc⟩ := h.at_ (by rw [ncells_len]; omega)
 exact ⟨b, off, e, x, y, hc _ _ (ncells_at l k hk)⟩
end Go.Proofs.YtmiokacihcpepaaGreat.Ints
namespace Go.Proofs.YtmiokacihcpepaaGreat.Rights
set_option maxHeartbeats 8000000
set_option maxRecDepth 100000
set_option maxRecDepth 100000
open Go.ChangeShapes Go.WideShapes Go.ChangeAt Go.RowKit
def rok (r : Int) : Bool := decide (0 ≤ r ∧ r ≤ 3)
def has (a b : Int) : Bool := bits .and .i64 a b == b
def both (a b : Int) : Int := if rok a = true ∧ rok b = true then bits .and .i64 a b else 0
def enough (a b : Int) : Bool := rok a && rok b && has a b
def need (b : Bool) : Int := if b then 2 else 1
theorem rok_iff {r : Int} : rok r = true ↔ 0 ≤ r ∧ r ≤ 3 := by simp [rok]
theorem rok_false {r : Int} : rok r = false ↔ r < 0 ∨ 3 < r := by simp [rok]; omega
theorem rok_four {r : Int} (h : rok r = true) : r = 0 ∨ r = 1 ∨ r = 2 ∨ r = 3 := by
 have := rok_iff.1 h; omega
theorem bv_andNot3 (a : BitVec 64) (h : a &&& ~~~(3#64) = 0#64) : a.toNat ≤ 3 := by
 have e : a = (a &&& 3#64) ||| (a &&& ~~~(3#64)) := by
  ext i hi
  simp only [BitVec.getElem_or, BitVec.getElem_and, BitVec.getElem_not]
  cases a[i] <;> cases (3#64)[i] <;> rfl
 rw [h, BitVec.or_zero] at e
 rw [e, BitVec.toNat_and]
 exact Nat.le_trans Nat.and_le_right (by decide)
theorem andNot3 {r : Int} (w : (Lit.int .i64 r).wf = true) : (bits .andNot .i64 r 3 == 0) = rok r := by
 by_cases h : rok r = true
 ·
  rcases rok_four h with rfl | rfl | rfl | rfl <;> decide +kernel
 ·
  have h' : rok r = false := by simpa using h
  have hr := rok_false.1 h'
  rw [h', beq_eq_false_iff_ne]
  intro h0
  have hlo : IntKind.i64.min = -9223372036854775808 := by decide
  have hhi : IntKind.i64.max = 9223372036854775807 := by decide
  simp [Lit.wf] at w
  have h1 : IntKind.i64.wrap ((BitVec.ofInt 64 r &&& ~~~(BitVec.ofInt 64 3)).toNat : Nat) = 0 := h0
  have hlt := (BitVec.ofInt 64 r &&& ~~~(BitVec.ofInt 64 3)).isLt
  rw [IntKind.wrap_i64] at h1
  have h2 : (BitVec.ofInt 64 r &&& ~~~(BitVec.ofInt 64 3)).toNat = 0 := by omega
  have h3 : BitVec.ofInt 64 r &&& ~~~(3#64) = 0#64 := BitVec.eq_of_toNat_eq (by rw [show (3#64 : BitVec 64) = BitVec.ofInt 64 3 by decide, h2]; rfl)
  have h4 := bv_andNot3 _ h3
  rw [BitVec.toNat_ofInt] at h4
  omega
end Go.Proofs.YtmiokacihcpepaaGreat.Rights
namespace Go.Proofs.YtmiokacihcpepaaGreat.Base
set_option maxHeartbeats 8000000
set_option maxRecDepth 100000
set_option maxRecDepth 100000
open Go.ChangeShapes Go.WideShapes Go.ChangeAt Go.RowKit
def inB (n a b : Int) : Bool := decide (a ≤ n) && decide (n ≤ b)
theorem inB_iff {n a b : Int} : inB n a b = true ↔ a ≤ n ∧ n ≤ b := by simp [inB]
theorem inB_false {n a b : Int} : inB n a b = false ↔ n < a ∨ b < n := by simp [inB]; omega
theorem spec_in (n a b : Int) (w : World) :
  Calls Tryz.prog 82 #[.int .i64 n, .int .i64 a, .int .i64 b] w fun e w' => e = .returned (.bool (inB n a b)) ∧ w = w' := by
 cases h1 : decide (a ≤ n)
 all_goals
  cases h2 : decide (n ≤ b)
  all_goals
   have hv : inB n a b = (decide (a ≤ n) && decide (n ≤ b)) := rfl
   rw [h1, h2] at hv
   simp only [Bool.and_false, Bool.and_true] at hv
   rw [hv]; clear hv
   go_enter Tryz.func82, Tryz.ntmps82
   go_wp2
   go_ret
   exact ⟨rfl, rfl⟩
end Go.Proofs.YtmiokacihcpepaaGreat.Base
namespace Go.Proofs.YtmiokacihcpepaaGreat.Slots
set_option maxHeartbeats 8000000
set_option maxRecDepth 100000
set_option maxRecDepth 100000
open Go.ChangeShapes Go.WideShapes Go.ChangeAt Go.RowKit
open Go.Proofs.YtmiokacihcpepaaGreat.Base Go.Proofs.YtmiokacihcpepaaGreat.Mem Go.Proofs.YtmiokacihcpepaaGreat.Ints
abbrev Sl := Int × Int
def wfS (s : Sl) : Prop := (Lit.int .i64 s.1).wf = true ∧ (Lit.int .i64 s.2).wf = true
def wfL (l : List Sl) : Prop := ∀ s ∈ l, wfS s
def okS (p r pages : Int) : Bool := decide ((p = -1 ∧ r = 0) ∨ (0 ≤ p ∧ p < pages ∧ 1 ≤ r ∧ r ≤ 3))
def okT (l : List Sl) (pages : Int) : Bool := l.all fun s => okS s.1 s.2 pages
def atS (l : List Sl) (page : Int) : Sl := if 0 ≤ page then l.getD page.toNat (-1, 0) else (-1, 0)
def nosL (n : Nat) : List Sl := List.replicate n (-1, 0)
end Go.Proofs.YtmiokacihcpepaaGreat.Slots
namespace Go.Proofs.YtmiokacihcpepaaGreat.Slots
set_option maxHeartbeats 8000000
set_option maxRecDepth 100000
set_option maxRecDepth 100000
open Go.ChangeShapes Go.WideShapes Go.ChangeAt Go.RowKit Go.Deep
open Go.Proofs.YtmiokacihcpepaaGreat.Base Go.Proofs.YtmiokacihcpepaaGreat.Mem
theorem laid : laidOutB Tryz.prog = true := by kernel_rfl
section
variable {H : Type} {enc : TypeId × Value → H}
end
end Go.Proofs.YtmiokacihcpepaaGreat.Slots
namespace Go.Proofs.YtmiokacihcpepaaGreat.Inss
set_option maxHeartbeats 8000000
set_option maxRecDepth 100000
set_option maxRecDepth 100000
open Go.ChangeShapes Go.WideShapes Go.ChangeAt Go.RowKit
open Go.Proofs.YtmiokacihcpepaaGreat.Base Go.Proofs.YtmiokacihcpepaaGreat.Mem Go.Proofs.YtmiokacihcpepaaGreat.Data
set_option linter.unusedVariables false
set_option linter.unusedSimpArgs false
abbrev JT := Int × Int
def jcells : List JT → List Value
 | [] => []
 | p :: l => .int .i64 p.1 :: .int .i64 p.2 :: jcells l
theorem jcells_len : ∀ l, (jcells l).length = 2 * l.length
 | [] => rfl
 | p :: l => by simp [jcells, jcells_len l]; omega
theorem jcells_at0 : ∀ (l : List JT) (k : Nat) (h : k < l.length), (jcells l)[k * 2]? = some (.int .i64 l[k].1)
 | p :: l, 0, _ => rfl
 | p :: l, k + 1, h => by
  have := jcells_at0 l k (by simpa using h)
  rw [show (k + 1) * 2 = k * 2 + 1 + 1 by omega]
  simpa [jcells] using this
theorem jcells_at1 : ∀ (l : List JT) (k : Nat) (h : k < l.length), (jcells l)[k * 2 + 1]? = some (.int .i64 l[k].2)
 | p :: l, 0, _ => rfl
 | p :: l, k + 1, h => by
  have := jcells_at1 l k (by simpa using h)
  rw [show (k + 1) * 2 + 1 = k * 2 + 1 + 1 + 1 by omega]
  simpa [jcells] using this
theorem j_at {w : World} {lo hi : Nat} {A : Option Addr} {l : List JT} (h : Lies w lo hi A (jcells l)) (k : Nat) (hk : k < l.length) :
  ∃ b off, A = some ⟨b, off, none⟩ ∧ lo ≤ b ∧ b < hi ∧ w.cell? ⟨b, off + k * 2, none⟩ = some (.int .i64 l[k].1) ∧ w.cell? ⟨b, off + k * 2 + 1, none⟩ = some (.int .i64 l[k].2) := by
 obtain ⟨b, off, e, x, y, hc⟩ := h.at_ (by rw [jcells_len]; omega)
 exact ⟨b, off, e, x, y, hc _ _ (jcells_at0 l k hk), by rw [Nat.add_assoc]; exact hc _ _ (jcells_at1 l k hk)⟩
def wfJ (s : JT) : Prop := (Lit.int .i64 s.1).wf = true ∧ (Lit.int .i64 s.2).wf = true
def wfJL (l : List JT) : Prop := ∀ s ∈ l, wfJ s
section
variable {w : World} {lo hi : Nat}
end
section
variable {H : Type} {enc : TypeId × Value → H}
end
end Go.Proofs.YtmiokacihcpepaaGreat.Inss
namespace Go.Proofs.YtmiokacihcpepaaGreat.Grid
set_option maxHeartbeats 8000000
set_option maxRecDepth 100000
set_option maxRecDepth 100000
open Go.ChangeShapes Go.WideShapes Go.ChangeAt Go.RowKit
open Go.Proofs.YtmiokacihcpepaaGreat.Base Go.Proofs.YtmiokacihcpepaaGreat.Mem Go.Proofs.YtmiokacihcpepaaGreat.Ints
abbrev Hd := Option Addr × Nat
def hcell (r : List Int) (h : Hd) : Value := .slice h.1 r.length h.2
def hcells (M : List (List Int)) (hs : List Hd) : List Value := List.zipWith hcell M hs
def blk (A : Option Addr) : Option Nat := A.map Addr.block
theorem hcells_at {M : List (List Int)} {hs : List Hd} {i : Nat} {r : List Int} {h : Hd} (h1 : M[i]? = some r) (h2 : hs[i]? = some h) : (hcells M hs)[i]? = some (.slice h.1 r.length h.2) := by
 simp [hcells, List.getElem?_zipWith, h1, h2, hcell]
theorem hcells_snoc {M : List (List Int)} {hs : List Hd} (r : List Int) (h : Hd) (hl : hs.length = M.length) : hcells (M ++ [r]) (hs ++ [h]) = hcells M hs ++ [.slice h.1 r.length h.2] := by
 unfold hcells
 rw [List.zipWith_append (by rw [hl])]
 rfl
def Pages (w : World) (lo hi : Nat) (M : List (List Int)) (hs : List Hd) : Prop :=
 hs.length = M.length ∧ (∀ (i : Nat) (r : List Int) (h : Hd), M[i]? = some r → hs[i]? = some h → Owned w lo hi h.1 (ncells r)) ∧
 (∀ (i j : Nat) (r r' : List Int) (h h' : Hd), i ≠ j → M[i]? = some r → hs[i]? = some h → M[j]? = some r' → hs[j]? = some h' → r ≠ [] → r' ≠ [] → blk h.1 ≠ blk h'.1)
def Avoids (g : Option Nat) (M : List (List Int)) (hs : List Hd) : Prop := ∀ (i : Nat) (r : List Int) (h : Hd), M[i]? = some r → hs[i]? = some h → r ≠ [] → blk h.1 ≠ g
def Reads (w : World) (lo hi : Nat) (M : List (List Int)) (hs : List Hd) : Prop :=
 hs.length = M.length ∧ ∀ (i : Nat) (r : List Int) (h : Hd), M[i]? = some r → hs[i]? = some h → Lies w lo hi h.1 (ncells r)
section
variable {w w' : World} {lo hi lo' hi' : Nat} {M : List (List Int)} {hs : List Hd}
theorem Pages.reads (h : Pages w lo hi M hs) : Reads w lo hi M hs := ⟨h.1, fun i r k h1 h2 => (h.2.1 i r k h1 h2).1⟩
theorem Pages.nil : Pages w lo hi [] [] := ⟨rfl, fun i r h h1 => by simp at h1, fun i j r r' h h' _ h1 => by simp at h1⟩
theorem Avoids.nil {g : Option Nat} : Avoids g [] [] := fun i r h h1 => by simp at h1
theorem Pages.kept (h : Pages w lo hi M hs) (hb : ∀ k, lo ≤ k → k < hi → w'.heap[k]? = w.heap[k]?) : Pages w' lo hi M hs := ⟨h.1, fun i r k h1 h2 => (h.2.1 i r k h1 h2).kept hb, h.2.2⟩
theorem Pages.below {B : Nat} (h : Pages w lo hi M hs) (hb : Below B w w') (hB : hi ≤ B) : Pages w' lo hi M hs := h.kept fun k _ h2 => hb.block k (by omega)
theorem Pages.wide (h : Pages w lo hi M hs) (h1 : lo' ≤ lo) (h2 : hi ≤ hi') : Pages w lo' hi' M hs := ⟨h.1, fun i r k a b => (h.2.1 i r k a b).wide h1 h2, h.2.2⟩
theorem Reads.kept (h : Reads w lo hi M hs) (hb : ∀ k, lo ≤ k → k < hi → w'.heap[k]? = w.heap[k]?) : Reads w' lo hi M hs := ⟨h.1, fun i r k h1 h2 => (h.2 i r k h1 h2).kept hb⟩
theorem Reads.below {B : Nat} (h : Reads w lo hi M hs) (hb : Below B w w') (hB : hi ≤ B) : Reads w' lo hi M hs := h.kept fun k _ h2 => hb.block k (by omega)
theorem Reads.wide (h : Reads w lo hi M hs) (h1 : lo' ≤ lo) (h2 : hi ≤ hi') : Reads w lo' hi' M hs := ⟨h.1, fun i r k a b => (h.2 i r k a b).wide h1 h2⟩
theorem Pages.block (h : Pages w lo hi M hs) {i : Nat} {r : List Int} {k : Hd} (h1 : M[i]? = some r) (h2 : hs[i]? = some k) (hr : r ≠ []) : ∃ b off, k.1 = some ⟨b, off, none⟩ ∧ lo ≤ b ∧ b < hi := by
 obtain ⟨b, off, e, x, y, _⟩ := (h.2.1 i r k h1 h2).1.at_ (by rw [ncells_len]; exact List.length_pos_iff.2 hr)
 exact ⟨b, off, e, x, y⟩
theorem Pages.snoc (h : Pages w lo hi M hs) {r : List Int} {k : Hd} (ho : Owned w lo' hi' k.1 (ncells r)) (h1 : hi ≤ lo') (h2 : lo ≤ lo') (h3 : hi ≤ hi') : Pages w lo hi' (M ++ [r]) (hs ++ [k]) := by
 have hlen := h.1
 have old : ∀ (i : Nat) (r' : List Int) (k' : Hd), (M ++ [r])[i]? = some r' → (hs ++ [k])[i]? = some k' → (M[i]? = some r' ∧ hs[i]? = some k') ∨ (i = M.length ∧ r' = r ∧ k' = k) := fun i r' k' a b => by
  rcases Nat.lt_trichotomy i M.length with hi | hi | hi
  ·
   left
   rw [List.getElem?_append_left hi] at a
   rw [List.getElem?_append_left (by omega)] at b
   exact ⟨a, b⟩
  ·
   right
   subst hi
   rw [List.getElem?_append_right (Nat.le_refl _), Nat.sub_self] at a
   rw [List.getElem?_append_right (by omega), hlen, Nat.sub_self] at b
   simp at a b
   exact ⟨rfl, a.symm, b.symm⟩
  ·
   rw [List.getElem?_eq_none (by simp; omega)] at a
   cases a
 have far : ∀ (i : Nat) (r' : List Int) (k' : Hd), M[i]? = some r' → hs[i]? = some k' → r' ≠ [] → r ≠ [] → blk k'.1 ≠ blk k.1 := fun i r' k' a b c d e => by
  obtain ⟨x, ox, ex, _, hx⟩ := h.block a b c
  obtain ⟨y, oy, ey, hy, _, _⟩ := ho.1.at_ (by rw [ncells_len]; exact List.length_pos_iff.2 d)
  rw [ex, ey] at e
  simp [blk] at e
  omega
 refine ⟨by simp [hlen], fun i r' k' a b => ?_, fun i j r1 r2 k1 k2 hij a b c d e f => ?_⟩
 ·
  rcases old i r' k' a b with ⟨a', b'⟩ | ⟨_, rfl, rfl⟩
  ·
   exact (h.2.1 i r' k' a' b').wide (Nat.le_refl _) h3
  ·
   exact ho.wide h2 (Nat.le_refl _)
 ·
  rcases old i r1 k1 a b with ⟨a', b'⟩ | ⟨ei, rfl, rfl⟩
  ·
   rcases old j r2 k2 c d with ⟨c', d'⟩ | ⟨ej, rfl, rfl⟩
   ·
    exact h.2.2 i j r1 r2 k1 k2 hij a' b' c' d' e f
   ·
    exact far i r1 k1 a' b' e f
  ·
   rcases old j r2 k2 c d with ⟨c', d'⟩ | ⟨ej, rfl, rfl⟩
   ·
    exact (far j r2 k2 c' d' f e).symm
   ·
    exact absurd (ei.trans ej.symm) hij
theorem Pages.turn (h : Pages w lo hi M hs) {i : Nat} {r r' : List Int} {k : Hd} (h1 : M[i]? = some r) (h2 : hs[i]? = some k) (hr : r.length = r'.length) {b off : Nat} (hk : k.1 = some ⟨b, off, none⟩) (hne : r ≠ [])
  (ho : Owned w' lo hi k.1 (ncells r')) (ht : ∀ q, lo ≤ q → q < hi → q ≠ b → w'.heap[q]? = w.heap[q]?) : Pages w' lo hi (M.set i r') hs := by
 have hi' : i < M.length := (List.getElem?_eq_some_iff.1 h1).1
 have old : ∀ (j : Nat) (x : List Int), (M.set i r')[j]? = some x → (j = i ∧ x = r') ∨ (j ≠ i ∧ M[j]? = some x) := fun j x a => by
  by_cases e : j = i
  ·
   subst e
   rw [List.getElem?_set_self hi'] at a
   exact .inl ⟨rfl, by simpa using a.symm⟩
  ·
   rw [List.getElem?_set_ne (fun e' => e e'.symm)] at a
   exact .inr ⟨e, a⟩
 have hne' : r' ≠ [] := fun e => hne (List.length_eq_zero_iff.1 (by rw [hr, e]; rfl))
 refine ⟨by rw [List.length_set]; exact h.1, fun j x q a c => ?_, fun j m x y q q' hjm a c d e f g => ?_⟩
 ·
  rcases old j x a with ⟨rfl, rfl⟩ | ⟨hji, a'⟩
  ·
   rw [h2] at c
   cases c
   exact ho
  ·
   by_cases hx : x = []
   ·
    subst hx
    exact ⟨Lies.nil, fun _ _ _ hn => absurd hn (by simp [ncells])⟩
   ·
    obtain ⟨b', off', e', x1, x2⟩ := h.block a' c hx
    have hbb : b' ≠ b := fun e2 => h.2.2 j i x r q k hji a' c h1 h2 hx hne (by rw [e', hk, e2]; rfl)
    have hoj := h.2.1 j x q a' c
    rw [e'] at hoj ⊢
    have tight : Owned w b' (b' + 1) (some ⟨b', off', none⟩) (ncells x) := ⟨fun j' u hu => by
     obtain ⟨b2, o2, e2, _, _, z⟩ := hoj.1 j' u hu
     cases e2
     exact ⟨b', off', rfl, Nat.le_refl _, Nat.lt_succ_self _, z⟩, hoj.2⟩
    exact (tight.kept fun q2 q3 q4 => ht q2 (by omega) (by omega) (by omega)).wide x1 (by omega)
 ·
  rcases old j x a with ⟨rfl, rfl⟩ | ⟨hji, a'⟩
  ·
   rcases old m y d with ⟨rfl, rfl⟩ | ⟨hmi, d'⟩
   ·
    exact absurd rfl hjm
   ·
    exact h.2.2 j m r y q q' hjm h1 c d' e hne g
  ·
   rcases old m y d with ⟨rfl, rfl⟩ | ⟨hmi, d'⟩
   ·
    exact h.2.2 j m x r q q' hjm a' c h1 e f hne
   ·
    exact h.2.2 j m x y q q' hjm a' c d' e f g
end
end Go.Proofs.YtmiokacihcpepaaGreat.Grid
