/-
  The given model's draws of arguments for chapter 7's functions: shadow tables and tables whose numbers are of an int's range, in new memory; no statement about the project's code stands here. No condition.
-/
import Derived.Test.YtfgckkgakghenaaKeptS2
import Derived.Test.YtfgckkgakghenaaSlotDraws
namespace Go.Proofs.Ytfgckkgakghenaa.KDraw
set_option maxRecDepth 100000
open Go.ChangeShapes Go.WideShapes Go.ChangeAt Go.RowKit
open Go.Proofs.Ytfgckkgakghenaa.Base Go.Proofs.Ytfgckkgakghenaa.Mem Go.Proofs.Ytfgckkgakghenaa.Slots Go.Proofs.Ytfgckkgakghenaa.Bools Go.Proofs.Ytfgckkgakghenaa.Data Go.Proofs.Ytfgckkgakghenaa.Draw Go.Proofs.Ytfgckkgakghenaa.SDraw Go.Proofs.Ytfgckkgakghenaa.Kepts
set_option linter.unusedVariables false
set_option linter.unusedSimpArgs false

/-- The drawing's state: the cursor; the variable k at kb, which holds a shadow table of its own; the result's cell at the entry's end. -/
structure Cs (w0 w V : World) (A : Option Addr) (n c g kb z : Nat) (u v : Value) (k : KD) (A' B' : Option Addr) (n' m' : Nat) : Prop where
  lt : g < w.heap.size
  hw : w0.heap.size ≤ w.heap.size
  cur : Cur w0 A n c V g
  gr : w.grownBy V (some g)
  kv : Two V kb u v
  rs : Two V w.heap.size (.slice none 0 0) (.slice none 0 0)
  ko : KO V z V.heap.size k A' B' n' m'
  nb : (∀ b ∈ blks A' (tcells k.1), b ≠ kb) ∧ ∀ b ∈ blks B' (scells k.2), b ≠ kb
  hz : w.heap.size < z
  hzk : z ≤ kb
section
variable {w0 w V V' : World} {A : Option Addr} {n c g kb z : Nat} {u v u' v' : Value} {k k' : KD} {A' B' A2 B2 : Option Addr} {n' m' : Nat}
theorem two_grown {b : Nat} (h : Two V b u v) (hg : V.grownBy V' (some g)) (hne : b ≠ g) : Two V' b u v := by
  obtain ⟨h0, h1, f0, f1, hl⟩ := h
  have hk : V'.heap[b]? = V.heap[b]? := hg.block b hl (by simpa using hne)
  exact ⟨(World.cell?_of_block (w := V) (a := ⟨b, 0, none⟩) hk).trans h0, (World.cell?_of_block (w := V) (a := ⟨b, 1, none⟩) hk).trans h1, (World.frozen?_of_block (w := V) (a := ⟨b, 0, none⟩) hk).trans f0, (World.frozen?_of_block (w := V) (a := ⟨b, 1, none⟩) hk).trans f1, Nat.lt_of_lt_of_le hl hg.size⟩
theorem Cs.grown (h : Cs w0 w V A n c g kb z u v k A' B' n' m') (hg : V.grownBy V' (some g)) (hc : Cur w0 A n c V' g) : Cs w0 w V' A n c g kb z u v k A' B' n' m' := by
  have h1 := h.lt
  have h2 := Nat.lt_of_lt_of_le h.hz h.hzk
  have h6 := h.hz
  have h7 := h.hzk
  exact ⟨h.lt, h.hw, hc, gtr h.gr hg, two_grown h.kv hg (by omega), two_grown h.rs hg (by omega), (h.ko.kept fun q q1 q2 => hg.block q q2 (by simp; omega)).wide (Nat.le_refl _) hg.size, h.nb, h.hz, h.hzk⟩
theorem Cs.below (h : Cs w0 w V A n c g kb z u v k A' B' n' m') (hb : Below V.heap.size V V') : Cs w0 w V' A n c g kb z u v k A' B' n' m' := by
  have hg := SDraw.of_below hb (some g)
  exact h.grown hg (h.cur.grown (SDraw.of_below hb none) (by simp) (fun _ h => by cases h))
/-- The variable takes another shadow table. -/
theorem Cs.next (h : Cs w0 w V A n c g kb z u v k A' B' n' m') (hk : KO V' V.heap.size V'.heap.size k' A2 B2 n' m') (hb : Below V.heap.size V V') : Cs w0 w ((V'.setCell ⟨kb, 0, none⟩ u').setCell ⟨kb, 1, none⟩ v') A n c g kb z u' v' k' A2 B2 n' m' := by
  have h0 := h.below hb
  have h1 := h.lt
  have h2 := Nat.lt_of_lt_of_le h.hz h.hzk
  have h6 := h.hz
  have h7 := h.hzk
  have h3 := h.hw
  have h4 := h.kv.2.2.2.2
  have h5 := h.rs.2.2.2.2
  refine ⟨h.lt, h.hw, var_cur (var_cur h0.cur (by omega) (by omega) _ _) (by omega) (by omega) _ _, grown_far (grown_far h0.gr (by omega) _ _) (by omega) _ _, Two.set1 (Two.set0 h0.kv), Two.other (Two.other h0.rs (by omega) _) (by omega) _, ?_, ⟨fun b hb' => ?_, fun b hb' => ?_⟩, h.hz, h.hzk⟩
  · exact (copy_end hk h4).wide (by omega) (by simp)
  · have := blks_in hk.o1 hb'; omega
  · have := blks_in hk.o2 hb'; omega
end
/-- A drawn table that lies below z. -/
def TabIn (w V : World) (z : Nat) (ad : Addr) (m sz : Nat) (l : List Sl) : Prop := m ≤ sz ∧ l.length = m ∧ wfL l ∧ ∃ lo hi, w.heap.size < lo ∧ hi ≤ V.heap.size ∧ hi ≤ z ∧ Lies V lo hi (some ad) (scells l)
section
variable {w V V' : World} {g z m sz : Nat} {ad : Addr} {l : List Sl}
theorem TabIn.grown (h : TabIn w V z ad m sz l) (hg : V.grownBy V' (some g)) (hlt : g < w.heap.size) : TabIn w V' z ad m sz l := by
  obtain ⟨a, b, c, lo, hi, h1, h2, h3, h4⟩ := h
  exact ⟨a, b, c, lo, hi, h1, Nat.le_trans h2 hg.size, h3, h4.kept fun q q1 q2 => hg.block q (by omega) (by simp; omega)⟩
theorem TabIn.below (h : TabIn w V z ad m sz l) (hb : Below V.heap.size V V') : TabIn w V' z ad m sz l := by
  obtain ⟨a, b, c, lo, hi, h1, h2, h3, h4⟩ := h
  exact ⟨a, b, c, lo, hi, h1, Nat.le_trans h2 hb.size, h3, h4.below hb h2⟩
theorem TabIn.set (h : TabIn w V z ad m sz l) {kb : Nat} (hk : z ≤ kb) (i : Nat) (u : Value) : TabIn w (V.setCell ⟨kb, i, none⟩ u) z ad m sz l := by
  obtain ⟨a, b, c, lo, hi, h1, h2, h3, h4⟩ := h
  exact ⟨a, b, c, lo, hi, h1, by simpa using h2, h3, h4.kept fun q q1 q2 => Below.heap_setCell V ⟨kb, i, none⟩ u q (by show q ≠ kb; omega)⟩
theorem TabIn.lies (h : TabIn w V z ad m sz l) : Lies V 0 V.heap.size (some ad) (scells l) := by
  obtain ⟨a, b, c, lo, hi, h1, h2, h3, h4⟩ := h
  exact h4.wide (Nat.zero_le _) h2
/-- .. wherever it lies behind the entry. -/
def TabE (w V : World) (ad : Addr) (l : List Sl) : Prop := ∃ lo, w.heap.size < lo ∧ Lies V lo V.heap.size (some ad) (scells l)
theorem TabIn.e (h : TabIn w V z ad m sz l) : TabE w V ad l := by
  obtain ⟨a, b, c, lo, hi, h1, h2, h3, h4⟩ := h
  exact ⟨lo, h1, h4.wide (Nat.le_refl _) h2⟩
end
/-- A shadow table and two tables, drawn. -/
theorem Cs.fin {w0 w V : World} {A : Option Addr} {n c g kb z : Nat} {u v u' v' : Value} {k : KD} {A' B' : Option Addr} {n' m' : Nat} (h : Cs w0 w V A n c g kb z u v k A' B' n' m') {ad1 ad2 : Addr} {l1 l2 : List Sl} (t1 : TabE w V ad1 l1) (t2 : TabE w V ad2 l2) :
    let V' := (V.setCell ⟨w.heap.size, 0, none⟩ u').setCell ⟨w.heap.size, 1, none⟩ v'
    KR V' (w.heap.size + 1) V'.heap.size k A' B' n' m' ∧ Lies V' (w.heap.size + 1) V'.heap.size (some ad1) (scells l1) ∧ Lies V' (w.heap.size + 1) V'.heap.size (some ad2) (scells l2) ∧ Cur w0 A n c V' g ∧ w.grownBy V' (some g) := by
  have h6 := h.hz
  intro V'
  have h1 := h.lt
  have h3 := h.hw
  have hs : V'.heap.size = V.heap.size := by simp [V']
  have keep : ∀ q, w.heap.size < q → V'.heap[q]? = V.heap[q]? := fun q hq => (Below.heap_setCell _ ⟨w.heap.size, 1, none⟩ v' q (by show q ≠ w.heap.size; omega)).trans (Below.heap_setCell V ⟨w.heap.size, 0, none⟩ u' q (by show q ≠ w.heap.size; omega))
  refine ⟨?_, ?_, ?_, var_cur (var_cur h.cur h1 h3 _ _) h1 h3 _ _, grown_far (grown_far h.gr (Nat.le_refl _) _ _) (Nat.le_refl _) _ _⟩
  · rw [hs]; exact (h.ko.reads.kept fun q q1 _ => keep q (by omega)).wide h6 (Nat.le_refl _)
  · obtain ⟨lo, g1, g4⟩ := t1
    rw [hs]; exact (g4.kept fun q q1 _ => keep q (by omega)).wide g1 (Nat.le_refl _)
  · obtain ⟨lo, g1, g4⟩ := t2
    rw [hs]; exact (g4.kept fun q q1 _ => keep q (by omega)).wide g1 (Nat.le_refl _)
theorem take_cells (l : List Bool) (q : Nat) : (tcells l).take q = tcells (l.take q) := by simp [tcells, List.map_take]
/-- Known is cut short. -/
theorem Cs.cut {w0 w V : World} {A : Option Addr} {n c g kb z : Nat} {u v u' : Value} {k : KD} {A' B' : Option Addr} {n' m' q : Nat} (h : Cs w0 w V A n c g kb z u v k A' B' n' m') (hq : q ≤ n') : Cs w0 w (V.setCell ⟨kb, 0, none⟩ u') A n c g kb z u' v (k.1.take q, k.2) A' B' q m' := by
  have h1 := h.lt
  have h2 := Nat.lt_of_lt_of_le h.hz h.hzk
  have h6 := h.hz
  have h7 := h.hzk
  have h3 := h.hw
  have hsub : ∀ b, b ∈ blks A' (tcells (k.1.take q)) → b ∈ blks A' (tcells k.1) := fun b hb => by
    unfold blks at hb ⊢
    split at hb
    · cases hb
    · rename_i hne
      rw [if_neg (fun e => hne (by rw [← take_cells, e, List.take_nil]))]
      exact hb
  have hlie : Owned V z V.heap.size A' (tcells (k.1.take q)) := by
    rw [← take_cells]
    refine ⟨fun j x hx => h.ko.o1.1 j x ?_, fun b off e hn i => h.ko.o1.2 b off e (by simp at hn; omega) i⟩
    rw [List.getElem?_take] at hx
    split at hx
    · exact hx
    · cases hx
  refine ⟨h.lt, h.hw, var_cur h.cur (by omega) (by omega) _ _, grown_far h.gr (by omega) _ _, Two.set0 h.kv, Two.other h.rs (by omega) _, ?_, ⟨fun b hb => h.nb.1 b (hsub b hb), h.nb.2⟩, h.hz, h.hzk⟩
  have hko : KO V z V.heap.size (k.1.take q, k.2) A' B' q m' := ⟨by simp [h.ko.l1]; omega, h.ko.l2, hlie, h.ko.o2, fun b hb => h.ko.dj b (hsub b hb)⟩
  have hne1 : ∀ b ∈ blks A' (tcells (k.1.take q)), b ≠ kb := fun b hb => h.nb.1 b (hsub b hb)
  have := owned_agree (w' := V.setCell ⟨kb, 0, none⟩ u') hko.o1 fun b hb => Below.heap_setCell V ⟨kb, 0, none⟩ u' b (hne1 b hb)
  have := owned_agree (w' := V.setCell ⟨kb, 0, none⟩ u') hko.o2 fun b hb => Below.heap_setCell V ⟨kb, 0, none⟩ u' b (h.nb.2 b hb)
  exact ⟨hko.l1, hko.l2, by simpa using ‹Owned (V.setCell ⟨kb, 0, none⟩ u') _ _ A' _›, by simpa using ‹Owned (V.setCell ⟨kb, 0, none⟩ u') _ _ B' _›, hko.dj⟩
/-- A slot is put. -/
theorem Cs.put {w0 w V : World} {A : Option Addr} {n c g kb z : Nat} {u v : Value} {k : KD} {A' : Option Addr} {b off n' m' i : Nat} {x y : Int} (h : Cs w0 w V A n c g kb z u v k A' (some ⟨b, off, none⟩) n' m') (hi : i < m') :
    Cs w0 w ((V.setCell ⟨b, off + i * 2, none⟩ (.int .i64 x)).setCell ⟨b, off + i * 2 + 1, none⟩ (.int .i64 y)) A n c g kb z u v (k.1, k.2.set i (x, y)) A' (some ⟨b, off, none⟩) n' m' := by
  have h1 := h.lt
  have h3 := h.hw
  have h6 := h.hz
  have hm : b ∈ blks (some ⟨b, off, none⟩) (scells k.2) := by
    have hne : scells k.2 ≠ [] := fun e => by have := congrArg List.length e; rw [scells_len, h.ko.l2] at this; simp at this; omega
    simp [blks, hne]
  obtain ⟨r1, r2⟩ := blks_in h.ko.o2 hm
  have hkb := h.nb.2 b hm
  have hko := h.ko.set2 (x := x) (y := y) hi
  refine ⟨h.lt, h.hw, var_cur (var_cur h.cur (by omega) (by omega) _ _) (by omega) (by omega) _ _, grown_far (grown_far h.gr (by omega) _ _) (by omega) _ _, Two.other (Two.other h.kv (fun e => hkb e.symm) _) (fun e => hkb e.symm) _, Two.other (Two.other h.rs (by omega) _) (by omega) _, by simpa using hko, ⟨h.nb.1, fun b' hb' => ?_⟩, h.hz, h.hzk⟩
  exact h.nb.2 b' (by rw [← blks_len (A := some ⟨b, off, none⟩) (cs := scells (k.2.set i (x, y))) (by rw [scells_len, scells_len, List.length_set])]; exact hb')
theorem Cs.bz {w0 w V : World} {A : Option Addr} {n c g kb z : Nat} {u v : Value} {k : KD} {A' : Option Addr} {b off n' m' : Nat} (h : Cs w0 w V A n c g kb z u v k A' (some ⟨b, off, none⟩) n' m') (hm : 0 < m') : z ≤ b := by
  have hne : scells k.2 ≠ [] := fun e => by have := congrArg List.length e; rw [scells_len, h.ko.l2] at this; simp at this; omega
  exact (blks_in h.ko.o2 (k := b) (by simp [blks, hne])).1
def CaseP (w0 : World) (A : Option Addr) (n c : Nat) (w : World) (g : Nat) (e : Ending) (w' : World) : Prop :=
  ∃ A' n' c' B' m' d' k ad1 m1 c1 l1 ad2 m2 c2 l2, e = .returned (.tuple #[.agg #[.slice A' n' c', .slice B' m' d'], .slice (some ad1) m1 c1, .slice (some ad2) m2 c2]) ∧ n' ≤ 4 ∧ m' ≤ 4 ∧ m1 ≤ 4 ∧ m2 ≤ 8 ∧ wfL k.2 ∧ wfL l1 ∧ wfL l2 ∧ l1.length = m1 ∧ l2.length = m2 ∧
    KR w' (w.heap.size + 1) w'.heap.size k A' B' n' m' ∧ Lies w' (w.heap.size + 1) w'.heap.size (some ad1) (scells l1) ∧ Lies w' (w.heap.size + 1) w'.heap.size (some ad2) (scells l2) ∧ Cur w0 A n c w' g ∧ w.grownBy w' (some g)

theorem new4 : newN 4 = 4 := by decide
set_option maxRecDepth 100000 in
set_option maxHeartbeats 16000000 in
theorem case_any (w0 : World) (A : Option Addr) (n c g : Nat) (w : World) (hn : n ≤ 1048576) (hcode : CodeAt w0 A n) (hcur : Cur w0 A n c w g) :
    Calls Try.prog 58 #[.pointer (some ⟨g, 0, none⟩)] w (CaseP w0 A n c w g) := by
  have hlt := hcur.lt
  have hs0 := hcur.1.size
  have hN := fun V : World => spec_newKc V 4
  rw [new4] at hN
  have HN := Lib.hid hN
  have HC := Lib.hid hcode
  have HU := Lib.hid (hcur.alloc (.cells #[.slice none 0 0, .slice none 0 0] 27))
  have ht0 := Two.new w (.slice none 0 0) (.slice none 0 0) 27
  have hg0 : w.grownBy (w.alloc (.cells #[.slice none 0 0, .slice none 0 0] 27)) (some g) := grown_new w _ _
  have hz0 : (w.alloc (.cells #[.slice none 0 0, .slice none 0 0] 27)).heap.size = w.heap.size + 1 := by simp
  clear hcode hcur hN
  go_enter Try.func58, Try.ntmps58
  go_wp2_with fail
  generalize w.alloc (.cells #[.slice none 0 0, .slice none 0 0] 27) = W0 at HU ht0 hg0 hz0 ⊢
  refine (table_any w0 A n c g 4 _ 8 (by omega) (by omega) (by omega) hn HC.out HU.out).mono ?_
  rintro e w1 ⟨b1, cap1, l1, rfl, hl1, wl1, ho1, hc1, hg1⟩
  have HU1 := Lib.hid hc1
  have ht1 := two_grown ht0 hg1 (by omega)
  have hG1 := gtr hg0 hg1
  have hx1 := hg1.size
  clear hc1 HU ht0 hg0
  go_wp2_with fail
  refine (table_any w0 A n c g 8 _ 24 (by omega) (by omega) (by omega) hn HC.out HU1.out).mono ?_
  rintro e w2 ⟨b2, cap2, l2, rfl, hl2, wl2, ho2, hc2, hg2⟩
  have HU2 := Lib.hid hc2
  have ht2 := two_grown ht1 hg2 (by omega)
  have hG2 := gtr hG1 hg2
  have hx2 := hg2.size
  have hi1 : Lies w2 W0.heap.size w1.heap.size (some ⟨b1, 0, none⟩) (scells l1) := (Owned.of_row ho1).1.kept fun q q1 q2 => hg2.block q q2 (by simp; omega)
  have hi2 : Lies w2 w1.heap.size w2.heap.size (some ⟨b2, 0, none⟩) (scells l2) := (Owned.of_row ho2).1
  have hcap1 : 4 ≤ cap1 := row_cap ho1
  clear hc2 HU1 ht1 ho1 ho2 hg1 hg2 hG1
  go_wp2_with fail
  refine (HN.out _).mono ?_
  rintro e w3 ⟨A3, c3, B3, d3, rfl, hcap3, hk3, hb3⟩
  have ht3 := ht2.below hb3
  have hx3 := hb3.size
  have hG3 := gtr hG2 (SDraw.of_below hb3 (some g))
  have hc3 := HU2.out.grown (SDraw.of_below hb3 none) (by simp) (fun _ h => by cases h)
  have hnA : Below w3.heap.size w3 (w3.alloc (.cells #[.slice A3 4 c3, .slice B3 4 d3] 27)) := (Below.refl _ _).alloc (Nat.le_refl _) _
  have HS := Lib.hid (show Cs w0 w (w3.alloc (.cells #[.slice A3 4 c3, .slice B3 4 d3] 27)) A n c g w3.heap.size w2.heap.size (.slice A3 4 c3) (.slice B3 4 d3) (newK 4) A3 B3 4 4 from
    ⟨hlt, hs0, hc3.alloc _, gtr hG3 (grown_new w3 _ _), Two.new w3 _ _ 27, ht3.alloc _, (hk3.below hnA (Nat.le_refl _)).wide (Nat.le_refl _) (by simp), ⟨fun b hb => by have := blks_in hk3.o1 hb; omega, fun b hb => by have := blks_in hk3.o2 hb; omega⟩, by omega, hx3⟩)
  have HT1 := Lib.hid (show TabIn w (w3.alloc (.cells #[.slice A3 4 c3, .slice B3 4 d3] 27)) w2.heap.size ⟨b1, 0, none⟩ 4 4 l1 from
    ⟨Nat.le_refl _, hl1, wl1, W0.heap.size, w1.heap.size, by omega, by simp; omega, by omega, (hi1.below hb3 (by omega)).below hnA (by omega)⟩)
  have HT2 := Lib.hid (show TabIn w (w3.alloc (.cells #[.slice A3 4 c3, .slice B3 4 d3] 27)) w2.heap.size ⟨b2, 0, none⟩ 8 8 l2 from
    ⟨Nat.le_refl _, hl2, wl2, w1.heap.size, w2.heap.size, by omega, by simp; omega, by omega, (hi2.below hb3 (by omega)).below hnA (by omega)⟩)
  have HL1 := Lib.hid hl1
  have HL2 := Lib.hid hl2
  have HW1 := Lib.hid wl1
  have HW2 := Lib.hid wl2
  have hkb : w.heap.size < w3.heap.size := by omega
  have hw : wfL (newK 4).2 := fun s hs => by have := List.eq_of_mem_replicate hs; rw [this]; exact wfS_no
  have HW := Lib.hid hw
  clear hl1 hl2 wl1 wl2 hi1 hi2 hk3 hb3 ht2 ht3 hG2 hG3 hc3 hnA HU2 hw
  go_wp2_with fail
  generalize w3.alloc (.cells #[.slice A3 4 c3, .slice B3 4 d3] 27) = W3 at HS HT1 HT2 ⊢
  have hzkb : w2.heap.size ≤ w3.heap.size := hx3
  clear hx3 hx2
  generalize hkk : w3.heap.size = kb at HS HT1 HT2 hkb hzkb ⊢
  generalize w2.heap.size = zz at HS HT1 HT2 hzkb
  go_loopw [8] (fun i wr => ∃ (j : Nat) (k : KD) (A' B' : Option Addr) (c' d' : Nat), j ≤ 5 ∧ i = .int .i64 j ∧ wfL k.2 ∧ 4 ≤ c' ∧ Cs w0 w wr A n c g kb zz (.slice A' 4 c') (.slice B' 4 d') k A' B' 4 4 ∧ TabIn w wr zz ⟨b1, 0, none⟩ 4 4 l1 ∧ TabIn w wr zz ⟨b2, 0, none⟩ 8 8 l2) (fun i _ => 6 - (intOf i).toNat)
  case atStart => exact ⟨0, newK 4, A3, B3, c3, d3, by omega, rfl, HW.out, hcap3, HS.out, HT1.out, HT2.out⟩
  case round =>
    obtain ⟨j, k, A', B', c', d', hj, rfl, hw, hcap, hS, hT1, hT2⟩ := hrel
    have HS := Lib.hid hS
    have HT1 := Lib.hid hT1
    have HT2 := Lib.hid hT2
    have hwk := Lib.hid hw
    clear hS hT1 hT2
    go_wp2_with fail
    refine (below_any w0 A n c g _ 5 (by omega) (by omega) hn HC.out HS.out.cur).mono ?_
    rintro e w5 ⟨z, rfl, hz0, hz1, hc5, hg5⟩
    have HS5 := Lib.hid (HS.out.grown hg5 hc5)
    have HT15 := Lib.hid (HT1.out.grown hg5 hlt)
    have HT25 := Lib.hid (HT2.out.grown hg5 hlt)
    clear hc5 hg5 HS HT1 HT2
    by_cases hjz : (j : Int) < z
    · have hj0 : (0 : Int) ≤ (j : Int) := Int.natCast_nonneg _
      go_wp2_with fail
      refine Ord.wp_region_tree (fun _ => True) (.take 1 (.take 2 (.take 3 (.two 0 (.alone 4 (.alone 5 (.alone 6 .nil))) 4 (.alone 0 (.alone 5 (.alone 6 .nil))))))) (by kernel_rfl) (by kernel_rfl) (by kernel_rfl) trivial ?_
      have HS6 := Lib.hid (HS5.out.below ((Below.refl _ _).drew))
      have HT16 := Lib.hid (HT15.out.below ((Below.refl _ _).drew))
      have HT26 := Lib.hid (HT25.out.below ((Below.refl _ _).drew))
      generalize w5.drew = V at HS6 HT16 HT26 ⊢
      clear HS5 HT15 HT25
      (refine Ord.ot_take (v := ?_) rfl (by rfl) (fun w' hS => ?_) ?_; rotate_left; (focus (go_simp; first | done | with_reducible rfl)); simp only [Act.put, List.setIfInBounds_toArray, List.set_cons_zero, List.set_cons_succ])
      (refine Ord.ot_take (v := ?_) rfl (by rfl) (fun w' hS => ?_) ?_; rotate_left; (focus (go_simp; first | done | with_reducible rfl)); simp only [Act.put, List.setIfInBounds_toArray, List.set_cons_zero, List.set_cons_succ])
      (refine Ord.ot_take (v := ?_) rfl (by rfl) (fun w' hS => ?_) ?_; rotate_left; (focus (go_simp; first | done | with_reducible rfl)); simp only [Act.put, List.setIfInBounds_toArray, List.set_cons_zero, List.set_cons_succ])
      refine Ord.ot_two rfl rfl (fun K hK => ?_) (fun K hK => ?_)
      · obtain ⟨i0, i1, _, _, _⟩ := HS6.out.kv
        go_simp
        refine hK.out _ _ trivial ?_
        clear hK K i0 i1
        (try simp only [Act.put, List.setIfInBounds_toArray, List.set_cons_zero, List.set_cons_succ])
        refine Ord.ot_alone rfl (fun K hK => ?_)
        go_simp
        refine (below_any w0 A n c g _ 4 (by omega) (by omega) hn HC.out HS6.out.cur).mono ?_
        rintro e w7 ⟨q, rfl, hq0, hq1, hc7, hg7⟩
        have HS7 := Lib.hid (HS6.out.grown hg7 hc7)
        have HT17 := Lib.hid (HT16.out.grown hg7 hlt)
        have HT27 := Lib.hid (HT26.out.grown hg7 hlt)
        clear hc7 hg7 HS6 HT16 HT26
        refine hK.out _ _ trivial ?_
        clear hK K
        (try simp only [Act.put, List.setIfInBounds_toArray, List.set_cons_zero, List.set_cons_succ])
        refine Ord.ot_alone rfl (fun K hK => ?_)
        go_simp
        refine (spec_fillc A' B' 4 4 c' d' k w7 (some ⟨b1, 0, none⟩) (some ⟨b2, 0, none⟩) 4 8 cap1 cap2 q l1 l2 (by omega) (by omega) (by omega) (by omega) HL1.out HL2.out (HS7.out.ko.reads.wide (Nat.zero_le _) (Nat.le_refl _)) HT17.out.lies HT27.out.lies).mono ?_
        rintro e w8 ⟨A8, c8, B8, d8, rfl, hcap8, hk8, hb8⟩
        obtain ⟨y0, y1, p0, p1, _⟩ := HS7.out.kv.below hb8
        have HN8 := Lib.hid (HS7.out.next (u' := .slice A8 4 c8) (v' := .slice B8 4 d8) hk8 hb8)
        have HT18 := Lib.hid (((HT17.out.below hb8).set hzkb 0 (.slice A8 4 c8)).set hzkb 1 (.slice B8 4 d8))
        have HT28 := Lib.hid (((HT27.out.below hb8).set hzkb 0 (.slice A8 4 c8)).set hzkb 1 (.slice B8 4 d8))
        clear hk8 hb8 HS7 HT17 HT27
        refine hK.out _ _ trivial ?_
        clear hK K
        (try simp only [Act.put, List.setIfInBounds_toArray, List.set_cons_zero, List.set_cons_succ])
        refine Ord.ot_alone rfl (fun K hK => ?_)
        go_simp
        refine hK.out _ _ trivial ?_
        clear hK K y0 y1 p0 p1
        (try simp only [Act.put, List.setIfInBounds_toArray, List.set_cons_zero, List.set_cons_succ])
        refine Ord.ot_nil ?_
        go_wp2_with fail
        go_roundw
        case rel => exact ⟨j + 1, _, A8, B8, c8, d8, by omega, by go_num, wf_fillK hw HW2.out, hcap8, HN8.out, HT18.out, HT28.out⟩
        case measure => simp [intOf]; omega
      · go_simp
        refine (below_any w0 A n c g _ 4 (by omega) (by omega) hn HC.out HS6.out.cur).mono ?_
        rintro e w7 ⟨q, rfl, hq0, hq1, hc7, hg7⟩
        have HS7 := Lib.hid (HS6.out.grown hg7 hc7)
        have HT17 := Lib.hid (HT16.out.grown hg7 hlt)
        have HT27 := Lib.hid (HT26.out.grown hg7 hlt)
        clear hc7 hg7 HS6 HT16 HT26
        refine hK.out _ _ trivial ?_
        clear hK K
        (try simp only [Act.put, List.setIfInBounds_toArray, List.set_cons_zero, List.set_cons_succ])
        refine Ord.ot_alone rfl (fun K hK => ?_)
        obtain ⟨i0, i1, _, _, _⟩ := HS7.out.kv
        go_simp
        refine hK.out _ _ trivial ?_
        clear hK K i0 i1
        (try simp only [Act.put, List.setIfInBounds_toArray, List.set_cons_zero, List.set_cons_succ])
        refine Ord.ot_alone rfl (fun K hK => ?_)
        go_simp
        refine (spec_fillc A' B' 4 4 c' d' k w7 (some ⟨b1, 0, none⟩) (some ⟨b2, 0, none⟩) 4 8 cap1 cap2 q l1 l2 (by omega) (by omega) (by omega) (by omega) HL1.out HL2.out (HS7.out.ko.reads.wide (Nat.zero_le _) (Nat.le_refl _)) HT17.out.lies HT27.out.lies).mono ?_
        rintro e w8 ⟨A8, c8, B8, d8, rfl, hcap8, hk8, hb8⟩
        obtain ⟨y0, y1, p0, p1, _⟩ := HS7.out.kv.below hb8
        have HN8 := Lib.hid (HS7.out.next (u' := .slice A8 4 c8) (v' := .slice B8 4 d8) hk8 hb8)
        have HT18 := Lib.hid (((HT17.out.below hb8).set hzkb 0 (.slice A8 4 c8)).set hzkb 1 (.slice B8 4 d8))
        have HT28 := Lib.hid (((HT27.out.below hb8).set hzkb 0 (.slice A8 4 c8)).set hzkb 1 (.slice B8 4 d8))
        clear hk8 hb8 HS7 HT17 HT27
        refine hK.out _ _ trivial ?_
        clear hK K
        (try simp only [Act.put, List.setIfInBounds_toArray, List.set_cons_zero, List.set_cons_succ])
        refine Ord.ot_alone rfl (fun K hK => ?_)
        go_simp
        refine hK.out _ _ trivial ?_
        clear hK K y0 y1 p0 p1
        (try simp only [Act.put, List.setIfInBounds_toArray, List.set_cons_zero, List.set_cons_succ])
        refine Ord.ot_nil ?_
        go_wp2_with fail
        go_roundw
        case rel => exact ⟨j + 1, _, A8, B8, c8, d8, by omega, by go_num, wf_fillK hw HW2.out, hcap8, HN8.out, HT18.out, HT28.out⟩
        case measure => simp [intOf]; omega
    · clear hw
      go_wp2_with fail
      refine (below_any w0 A n c g _ 10 (by omega) (by omega) hn HC.out HS5.out.cur).mono ?_
      rintro e w6 ⟨y, rfl, hy0, hy1, hc6, hg6⟩
      have HS6 := Lib.hid (HS5.out.grown hg6 hc6)
      have HT16 := Lib.hid (HT15.out.grown hg6 hlt)
      have HT26 := Lib.hid (HT25.out.grown hg6 hlt)
      clear hc6 hg6 HS5 HT15 HT25
      by_cases hy : y = 0
      · subst hy
        obtain ⟨b', off', e0, _, _, x0, x1⟩ := slot_at HS6.out.ko.o2.1 0 (by rw [HS6.out.ko.l2]; omega)
        clear x0 x1
        subst e0
        have HSd := Lib.hid (HS6.out.below ((Below.refl _ _).drew))
        have HT1d := Lib.hid (HT16.out.below ((Below.refl _ _).drew))
        have HT2d := Lib.hid (HT26.out.below ((Below.refl _ _).drew))
        clear HS6 HT16 HT26
        go_wp2_with fail
        refine Ord.wp_region_ord (fun w' => w'.cell? ⟨kb, 0, none⟩ = some (.slice A' 4 c') ∧ w'.cell? ⟨kb, 1, none⟩ = some (.slice (some ⟨b', off', none⟩) 4 d')) [(0, true), (1, true), (2, true), (4, true), (3, false), (5, false), (6, true), (7, false)] (by kernel_rfl) (by kernel_rfl) rfl (by kernel_rfl) (⟨HSd.out.kv.1, HSd.out.kv.2.1⟩) ?_
        simp only [Ord.ordOps, List.getElem?_toArray, List.getElem?_cons_zero, List.getElem?_cons_succ]
        repeat (first
          | (refine Ord.ord_plain (v := ?_) rfl (fun w' hS => ?_) ?_; rotate_left; (focus ((try dsimp only at hS); go_simp; first | done | with_reducible rfl)); simp only [Act.put, List.setIfInBounds_toArray, List.set_cons_zero, List.set_cons_succ])
          | (refine Ord.ord_skip (by rfl) ?_; simp only [Act.put, List.setIfInBounds_toArray, List.set_cons_zero, List.set_cons_succ])
          | (refine Ord.ord_take (v := ?_) (by rfl) (fun w' hS => ?_) ?_; rotate_left; (focus ((try dsimp only at hS); go_simp; first | done | with_reducible rfl)); simp only [Act.put, List.setIfInBounds_toArray, List.set_cons_zero, List.set_cons_succ]))
        refine Ord.ord_call (fun K hK => ?_)
        go_simp
        refine (below_any w0 A n c g _ 4 (by omega) (by omega) hn HC.out HSd.out.cur).mono ?_
        rintro e w7 ⟨q, rfl, hq0, hq1, hc7, hg7⟩
        obtain ⟨qn, rfl⟩ := Int.eq_ofNat_of_zero_le hq0
        have hqn : qn < 4 := by omega
        have HS7 := Lib.hid (HSd.out.grown hg7 hc7)
        have HT17 := Lib.hid (HT1d.out.grown hg7 hlt)
        have HT27 := Lib.hid (HT2d.out.grown hg7 hlt)
        clear hc7 hg7 HSd HT1d HT2d
        refine hK.out _ _ (⟨HS7.out.kv.1, HS7.out.kv.2.1⟩) ?_
        clear hK K
        repeat (first
          | (refine Ord.ord_plain (v := ?_) rfl (fun w' hS => ?_) ?_; rotate_left; (focus ((try dsimp only at hS); go_simp; first | done | with_reducible rfl)); simp only [Act.put, List.setIfInBounds_toArray, List.set_cons_zero, List.set_cons_succ])
          | (refine Ord.ord_skip (by rfl) ?_; simp only [Act.put, List.setIfInBounds_toArray, List.set_cons_zero, List.set_cons_succ])
          | (refine Ord.ord_take (v := ?_) (by rfl) (fun w' hS => ?_) ?_; rotate_left; (focus ((try dsimp only at hS); go_simp; first | done | with_reducible rfl)); simp only [Act.put, List.setIfInBounds_toArray, List.set_cons_zero, List.set_cons_succ]))
        refine Ord.ord_call (fun K hK => ?_)
        go_simp
        refine (any_any w0 A n c g _ 24 (by omega) (by omega) hn HC.out HS7.out.cur).mono ?_
        rintro e w8 ⟨sx, sy, rfl, hxy, hc8, hg8⟩
        have HX := Lib.hid hxy
        have HS8 := Lib.hid (HS7.out.grown hg8 hc8)
        have HT18 := Lib.hid (HT17.out.grown hg8 hlt)
        have HT28 := Lib.hid (HT27.out.grown hg8 hlt)
        have hbz : zz ≤ b' := HS8.out.bz (by omega)
        obtain ⟨b9, off9, e9, _, _, x2, x3⟩ := slot_at HS8.out.ko.o2.1 qn (by rw [HS8.out.ko.l2]; exact hqn)
        cases e9
        obtain ⟨v2, y2⟩ : ∃ u, w8.cell? ⟨b', off' + qn * 2, none⟩ = some u := ⟨_, x2⟩
        obtain ⟨v3, y3⟩ : ∃ u, w8.cell? ⟨b', off' + qn * 2 + 1, none⟩ = some u := ⟨_, x3⟩
        have p2 : w8.frozen? ⟨b', off' + qn * 2, none⟩ = false := HS8.out.ko.o2.2 b' off' rfl (by rw [scells_len, HS8.out.ko.l2]; omega) _
        have p3 : w8.frozen? ⟨b', off' + qn * 2 + 1, none⟩ = false := HS8.out.ko.o2.2 b' off' rfl (by rw [scells_len, HS8.out.ko.l2]; omega) _
        have HS9 := Lib.hid (HS8.out.put (x := sx) (y := sy) hqn)
        have HT19 := Lib.hid ((HT18.out.set hbz (off' + qn * 2) (.int .i64 sx)).set hbz (off' + qn * 2 + 1) (.int .i64 sy))
        have HT29 := Lib.hid ((HT28.out.set hbz (off' + qn * 2) (.int .i64 sx)).set hbz (off' + qn * 2 + 1) (.int .i64 sy))
        clear hxy hc8 hg8 HS7 HT17 HT27 x2 x3 HT18 HT28
        refine hK.out _ _ (⟨HS8.out.kv.1, HS8.out.kv.2.1⟩) ?_
        clear hK K
        repeat (first
          | (refine Ord.ord_plain (v := ?_) rfl (fun w' hS => ?_) ?_; rotate_left; (focus ((try dsimp only at hS); go_simp; first | done | with_reducible rfl)); simp only [Act.put, List.setIfInBounds_toArray, List.set_cons_zero, List.set_cons_succ])
          | (refine Ord.ord_skip (by rfl) ?_; simp only [Act.put, List.setIfInBounds_toArray, List.set_cons_zero, List.set_cons_succ])
          | (refine Ord.ord_take (v := ?_) (by rfl) (fun w' hS => ?_) ?_; rotate_left; (focus ((try dsimp only at hS); go_simp; first | done | with_reducible rfl)); simp only [Act.put, List.setIfInBounds_toArray, List.set_cons_zero, List.set_cons_succ]))
        refine Ord.ord_call (fun K hK => ?_)
        go_simp
        refine hK.out _ _ (⟨HS9.out.kv.1, HS9.out.kv.2.1⟩) ?_
        clear hK K
        refine Ord.ord_nil ?_
        clear y2 y3 p2 p3 HS8
        generalize (w8.setCell ⟨b', off' + qn * 2, none⟩ (.int .i64 sx)).setCell ⟨b', off' + qn * 2 + 1, none⟩ (.int .i64 sy) = W9 at HS9 HT19 HT29 ⊢
        obtain ⟨i0, i1, _, _, _⟩ := HS9.out.kv
        obtain ⟨q0, q1, f0, f1, _⟩ := HS9.out.rs
        have HF := Lib.hid (HS9.out.fin (u' := .slice A' 4 c') (v' := .slice (some ⟨b', off', none⟩) 4 d') HT19.out.e HT29.out.e)
        go_wp2_with fail
        exact bodyPost_ret (v := .tuple #[.agg #[.slice A' 4 c', .slice (some ⟨b', off', none⟩) 4 d'], .slice (some ⟨b1, 0, none⟩) 4 cap1, .slice (some ⟨b2, 0, none⟩) 8 cap2]) (by simp [results, Try.results58, go_sem, q0, q1]) rfl
          ⟨_, _, _, _, _, _, (k.1, k.2.set qn (sx, sy)), _, _, _, l1, _, _, _, l2, rfl, Nat.le_refl _, Nat.le_refl _, Nat.le_refl _, Nat.le_refl _, (wfL_set hwk.out HX.out), HW1.out, HW2.out, HL1.out, HL2.out, HF.out.1, HF.out.2.1, HF.out.2.2.1, HF.out.2.2.2.1, HF.out.2.2.2.2⟩
      have hyb : (y == 0) = false := by simpa using hy
      by_cases hy2 : y = 1
      · subst hy2
        have hcap' : (4 : Int) ≤ (c' : Int) := by omega
        go_wp2_with fail
        refine Ord.wp_region_tree (fun _ => True) (.take 0 (.take 2 (.two 1 (.alone 3 (.alone 4 (.take 5 (.alone 6 .nil)))) 3 (.alone 1 (.alone 4 (.take 5 (.alone 6 .nil))))))) (by kernel_rfl) (by kernel_rfl) (by kernel_rfl) trivial ?_
        have HS7 := Lib.hid (HS6.out.below ((Below.refl _ _).drew))
        have HT17 := Lib.hid (HT16.out.below ((Below.refl _ _).drew))
        have HT27 := Lib.hid (HT26.out.below ((Below.refl _ _).drew))
        generalize w6.drew = V at HS7 HT17 HT27 ⊢
        clear HS6 HT16 HT26
        (refine Ord.ot_take (v := ?_) rfl (by rfl) (fun w' hS => ?_) ?_; rotate_left; (focus (go_simp; first | done | with_reducible rfl)); simp only [Act.put, List.setIfInBounds_toArray, List.set_cons_zero, List.set_cons_succ])
        (refine Ord.ot_take (v := ?_) rfl (by rfl) (fun w' hS => ?_) ?_; rotate_left; (focus (go_simp; first | done | with_reducible rfl)); simp only [Act.put, List.setIfInBounds_toArray, List.set_cons_zero, List.set_cons_succ])
        refine Ord.ot_two rfl rfl (fun K hK => ?_) (fun K hK => ?_)
        · obtain ⟨i0, i1, _, _, _⟩ := HS7.out.kv
          go_simp
          refine hK.out _ _ trivial ?_
          clear hK K i0 i1
          (try simp only [Act.put, List.setIfInBounds_toArray, List.set_cons_zero, List.set_cons_succ])
          refine Ord.ot_alone rfl (fun K hK => ?_)
          go_simp
          refine (below_any w0 A n c g _ 4 (by omega) (by omega) hn HC.out HS7.out.cur).mono ?_
          rintro e w7 ⟨q, rfl, hq0, hq1, hc7, hg7⟩
          obtain ⟨qn, rfl⟩ := Int.eq_ofNat_of_zero_le hq0
          have hqn : qn ≤ 4 := by omega
          have hqc : (qn : Int) ≤ (c' : Int) := by omega
          have HS8 := Lib.hid (HS7.out.grown hg7 hc7)
          have HT18 := Lib.hid (HT17.out.grown hg7 hlt)
          have HT28 := Lib.hid (HT27.out.grown hg7 hlt)
          clear hc7 hg7 HS7 HT17 HT27
          refine hK.out _ _ trivial ?_
          clear hK K
          (try simp only [Act.put, List.setIfInBounds_toArray, List.set_cons_zero, List.set_cons_succ])
          refine Ord.ot_alone rfl (fun K hK => ?_)
          go_simp
          refine hK.out _ _ trivial ?_
          clear hK K
          (try simp only [Act.put, List.setIfInBounds_toArray, List.set_cons_zero, List.set_cons_succ])
          (refine Ord.ot_take (v := ?_) rfl (by rfl) (fun w' hS => ?_) ?_; rotate_left; (focus (go_simp; first | done | with_reducible rfl)); simp only [Act.put, List.setIfInBounds_toArray, List.set_cons_zero, List.set_cons_succ])
          obtain ⟨i0, i1, p0, p1, _⟩ := HS8.out.kv
          have HS9 := Lib.hid (HS8.out.cut (u' := .slice A' qn c') hqn)
          have HT19 := Lib.hid (HT18.out.set hzkb 0 (.slice A' qn c'))
          have HT29 := Lib.hid (HT28.out.set hzkb 0 (.slice A' qn c'))
          refine Ord.ot_alone rfl (fun K hK => ?_)
          go_simp
          refine hK.out _ _ trivial ?_
          clear hK K i0 i1 p0 p1 HS8 HT18 HT28
          (try simp only [Act.put, List.setIfInBounds_toArray, List.set_cons_zero, List.set_cons_succ])
          refine Ord.ot_nil ?_
          generalize w7.setCell ⟨kb, 0, none⟩ (.slice A' qn c') = W9 at HS9 HT19 HT29 ⊢
          obtain ⟨i0, i1, _, _, _⟩ := HS9.out.kv
          obtain ⟨q0, q1, f0, f1, _⟩ := HS9.out.rs
          have HF := Lib.hid (HS9.out.fin (u' := .slice A' qn c') (v' := .slice B' 4 d') HT19.out.e HT29.out.e)
          go_wp2_with fail
          exact bodyPost_ret (v := .tuple #[.agg #[.slice A' qn c', .slice B' 4 d'], .slice (some ⟨b1, 0, none⟩) 4 cap1, .slice (some ⟨b2, 0, none⟩) 8 cap2]) (by simp [results, Try.results58, go_sem, q0, q1]) rfl
            ⟨_, _, _, _, _, _, (k.1.take qn, k.2), _, _, _, l1, _, _, _, l2, rfl, hqn, Nat.le_refl _, Nat.le_refl _, Nat.le_refl _, hwk.out, HW1.out, HW2.out, HL1.out, HL2.out, HF.out.1, HF.out.2.1, HF.out.2.2.1, HF.out.2.2.2.1, HF.out.2.2.2.2⟩
        · go_simp
          refine (below_any w0 A n c g _ 4 (by omega) (by omega) hn HC.out HS7.out.cur).mono ?_
          rintro e w7 ⟨q, rfl, hq0, hq1, hc7, hg7⟩
          obtain ⟨qn, rfl⟩ := Int.eq_ofNat_of_zero_le hq0
          have hqn : qn ≤ 4 := by omega
          have hqc : (qn : Int) ≤ (c' : Int) := by omega
          have HS8 := Lib.hid (HS7.out.grown hg7 hc7)
          have HT18 := Lib.hid (HT17.out.grown hg7 hlt)
          have HT28 := Lib.hid (HT27.out.grown hg7 hlt)
          clear hc7 hg7 HS7 HT17 HT27
          refine hK.out _ _ trivial ?_
          clear hK K
          (try simp only [Act.put, List.setIfInBounds_toArray, List.set_cons_zero, List.set_cons_succ])
          refine Ord.ot_alone rfl (fun K hK => ?_)
          obtain ⟨i0, i1, _, _, _⟩ := HS8.out.kv
          go_simp
          refine hK.out _ _ trivial ?_
          clear hK K i0 i1
          (try simp only [Act.put, List.setIfInBounds_toArray, List.set_cons_zero, List.set_cons_succ])
          refine Ord.ot_alone rfl (fun K hK => ?_)
          go_simp
          refine hK.out _ _ trivial ?_
          clear hK K
          (try simp only [Act.put, List.setIfInBounds_toArray, List.set_cons_zero, List.set_cons_succ])
          (refine Ord.ot_take (v := ?_) rfl (by rfl) (fun w' hS => ?_) ?_; rotate_left; (focus (go_simp; first | done | with_reducible rfl)); simp only [Act.put, List.setIfInBounds_toArray, List.set_cons_zero, List.set_cons_succ])
          obtain ⟨i0, i1, p0, p1, _⟩ := HS8.out.kv
          have HS9 := Lib.hid (HS8.out.cut (u' := .slice A' qn c') hqn)
          have HT19 := Lib.hid (HT18.out.set hzkb 0 (.slice A' qn c'))
          have HT29 := Lib.hid (HT28.out.set hzkb 0 (.slice A' qn c'))
          refine Ord.ot_alone rfl (fun K hK => ?_)
          go_simp
          refine hK.out _ _ trivial ?_
          clear hK K i0 i1 p0 p1 HS8 HT18 HT28
          (try simp only [Act.put, List.setIfInBounds_toArray, List.set_cons_zero, List.set_cons_succ])
          refine Ord.ot_nil ?_
          generalize w7.setCell ⟨kb, 0, none⟩ (.slice A' qn c') = W9 at HS9 HT19 HT29 ⊢
          obtain ⟨i0, i1, _, _, _⟩ := HS9.out.kv
          obtain ⟨q0, q1, f0, f1, _⟩ := HS9.out.rs
          have HF := Lib.hid (HS9.out.fin (u' := .slice A' qn c') (v' := .slice B' 4 d') HT19.out.e HT29.out.e)
          go_wp2_with fail
          exact bodyPost_ret (v := .tuple #[.agg #[.slice A' qn c', .slice B' 4 d'], .slice (some ⟨b1, 0, none⟩) 4 cap1, .slice (some ⟨b2, 0, none⟩) 8 cap2]) (by simp [results, Try.results58, go_sem, q0, q1]) rfl
            ⟨_, _, _, _, _, _, (k.1.take qn, k.2), _, _, _, l1, _, _, _, l2, rfl, hqn, Nat.le_refl _, Nat.le_refl _, Nat.le_refl _, hwk.out, HW1.out, HW2.out, HL1.out, HL2.out, HF.out.1, HF.out.2.1, HF.out.2.2.1, HF.out.2.2.2.1, HF.out.2.2.2.2⟩
      have hyb2 : (y == 1) = false := by simpa using hy2
      by_cases hy3 : y = 2
      · subst hy3
        go_wp2_with fail
        refine (below_any w0 A n c g _ 4 (by omega) (by omega) hn HC.out HS6.out.cur).mono ?_
        rintro e w7 ⟨q, rfl, hq0, hq1, hc7, hg7⟩
        obtain ⟨qn, rfl⟩ := Int.eq_ofNat_of_zero_le hq0
        have hqn : qn ≤ 4 := by omega
        have hqc : (qn : Int) ≤ (cap1 : Int) := by omega
        have HS7 := Lib.hid (HS6.out.grown hg7 hc7)
        have HT17 := Lib.hid (HT16.out.grown hg7 hlt)
        have HT27 := Lib.hid (HT26.out.grown hg7 hlt)
        clear hc7 hg7 HS6 HT16 HT26
        have HE := Lib.hid (show TabE w w7 ⟨b1, 0, none⟩ (l1.take qn) from by obtain ⟨lo, h1, h2⟩ := HT17.out.e; exact ⟨lo, h1, lies_take qn h2⟩)
        obtain ⟨i0, i1, _, _, _⟩ := HS7.out.kv
        obtain ⟨q0, q1, f0, f1, _⟩ := HS7.out.rs
        have HF := Lib.hid (HS7.out.fin (u' := .slice A' 4 c') (v' := .slice B' 4 d') HE.out HT27.out.e)
        go_wp2_with fail
        exact bodyPost_ret (v := .tuple #[.agg #[.slice A' 4 c', .slice B' 4 d'], .slice (some ⟨b1, 0, none⟩) qn cap1, .slice (some ⟨b2, 0, none⟩) 8 cap2]) (by simp [results, Try.results58, go_sem, q0, q1]) rfl
          ⟨_, _, _, _, _, _, k, _, _, _, (l1.take qn), _, _, _, l2, rfl, Nat.le_refl _, Nat.le_refl _, hqn, Nat.le_refl _, hwk.out, (wfL_take qn HW1.out), HW2.out, (by rw [List.length_take, HL1.out]; omega), HL2.out, HF.out.1, HF.out.2.1, HF.out.2.2.1, HF.out.2.2.2.1, HF.out.2.2.2.2⟩
      have hyb3 : (y == 2) = false := by simpa using hy3
      by_cases hy4 : y = 3
      · subst hy4
        go_wp2_with fail
        refine (anyTable_any w0 A n c g 8 _ 24 (by omega) (by omega) (by omega) (by omega) hn HC.out HS6.out.cur).mono ?_
        rintro e w7 ⟨ad7, m7, cap7, l7, rfl, hm7, hl7, hwf7, hli7, hc7, hg7⟩
        have hx6 := HS6.out.rs.2.2.2.2
        have HS7 := Lib.hid (HS6.out.grown hg7 hc7)
        have HT17 := Lib.hid (HT16.out.grown hg7 hlt)
        have HE := Lib.hid (show TabE w w7 ad7 l7 from ⟨w6.heap.size, hx6, hli7⟩)
        have HL7 := Lib.hid hl7
        have HW7 := Lib.hid hwf7
        clear hc7 hg7 HS6 HT16 HT26 hli7 hl7 hwf7
        obtain ⟨i0, i1, _, _, _⟩ := HS7.out.kv
        obtain ⟨q0, q1, f0, f1, _⟩ := HS7.out.rs
        have HF := Lib.hid (HS7.out.fin (u' := .slice A' 4 c') (v' := .slice B' 4 d') HT17.out.e HE.out)
        go_wp2_with fail
        exact bodyPost_ret (v := .tuple #[.agg #[.slice A' 4 c', .slice B' 4 d'], .slice (some ⟨b1, 0, none⟩) 4 cap1, .slice (some ad7) m7 cap7]) (by simp [results, Try.results58, go_sem, q0, q1]) rfl
          ⟨_, _, _, _, _, _, k, _, _, _, l1, _, _, _, l7, rfl, Nat.le_refl _, Nat.le_refl _, Nat.le_refl _, hm7, hwk.out, HW1.out, HW7.out, HL1.out, HL7.out, HF.out.1, HF.out.2.1, HF.out.2.2.1, HF.out.2.2.2.1, HF.out.2.2.2.2⟩
      have hyb4 : (y == 3) = false := by simpa using hy4
      obtain ⟨i0, i1, _, _, _⟩ := HS6.out.kv
      obtain ⟨q0, q1, f0, f1, _⟩ := HS6.out.rs
      have HF := Lib.hid (HS6.out.fin (u' := .slice A' 4 c') (v' := .slice B' 4 d') HT16.out.e HT26.out.e)
      go_wp2_with fail
      exact bodyPost_ret (v := .tuple #[.agg #[.slice A' 4 c', .slice B' 4 d'], .slice (some ⟨b1, 0, none⟩) 4 cap1, .slice (some ⟨b2, 0, none⟩) 8 cap2]) (by simp [results, Try.results58, go_sem, q0, q1]) rfl
        ⟨_, _, _, _, _, _, k, _, _, _, l1, _, _, _, l2, rfl, Nat.le_refl _, Nat.le_refl _, Nat.le_refl _, Nat.le_refl _, hwk.out, HW1.out, HW2.out, HL1.out, HL2.out, HF.out.1, HF.out.2.1, HF.out.2.2.1, HF.out.2.2.2.1, HF.out.2.2.2.2⟩
end Go.Proofs.Ytfgckkgakghenaa.KDraw
