/-
  Shadow tables (a slice of booleans beside a slice of slots) in memory, and the law package's helpers over them (conversion, equality, marking, looking the marks up, size); no statement about the project's code stands here. No condition.
-/
import Derived.Test.YtfgckkgakghenaaBoolH
import Derived.Test.YtfgckkgakghenaaSlotArgs
import Derived.Test.YtfgckkgakghenaaTwoImpl
import Derived.Test.YtfgckkgakghenaaDataO
namespace Go.Proofs.Ytfgckkgakghenaa.Kepts
set_option maxRecDepth 100000
open Go.ChangeShapes Go.WideShapes Go.ChangeAt Go.RowKit
open Go.Proofs.Ytfgckkgakghenaa.Base Go.Proofs.Ytfgckkgakghenaa.Mem Go.Proofs.Ytfgckkgakghenaa.Slots Go.Proofs.Ytfgckkgakghenaa.Bools Go.Proofs.Ytfgckkgakghenaa.Data
set_option linter.unusedVariables false
set_option linter.unusedSimpArgs false

abbrev KD := List Bool × List Sl
/-- A shadow table that is read only. -/
structure KR (w : World) (lo hi : Nat) (k : KD) (A B : Option Addr) (n m : Nat) : Prop where
  l1 : k.1.length = n
  l2 : k.2.length = m
  r1 : Lies w lo hi A (tcells k.1)
  r2 : Lies w lo hi B (scells k.2)
/-- .. in memory of its own: its two slices share no block. -/
structure KO (w : World) (lo hi : Nat) (k : KD) (A B : Option Addr) (n m : Nat) : Prop where
  l1 : k.1.length = n
  l2 : k.2.length = m
  o1 : Owned w lo hi A (tcells k.1)
  o2 : Owned w lo hi B (scells k.2)
  dj : ∀ b ∈ blks A (tcells k.1), b ∉ blks B (scells k.2)
section
variable {w w' : World} {lo hi lo' hi' : Nat} {k : KD} {A B : Option Addr} {n m : Nat}
theorem KO.reads (h : KO w lo hi k A B n m) : KR w lo hi k A B n m := ⟨h.l1, h.l2, h.o1.1, h.o2.1⟩
theorem KR.kept (h : KR w lo hi k A B n m) (hb : ∀ k, lo ≤ k → k < hi → w'.heap[k]? = w.heap[k]?) : KR w' lo hi k A B n m := ⟨h.l1, h.l2, h.r1.kept hb, h.r2.kept hb⟩
theorem KO.kept (h : KO w lo hi k A B n m) (hb : ∀ k, lo ≤ k → k < hi → w'.heap[k]? = w.heap[k]?) : KO w' lo hi k A B n m := ⟨h.l1, h.l2, h.o1.kept hb, h.o2.kept hb, h.dj⟩
theorem KR.wide (h : KR w lo hi k A B n m) (a : lo' ≤ lo) (b : hi ≤ hi') : KR w lo' hi' k A B n m := ⟨h.l1, h.l2, h.r1.wide a b, h.r2.wide a b⟩
theorem KO.wide (h : KO w lo hi k A B n m) (a : lo' ≤ lo) (b : hi ≤ hi') : KO w lo' hi' k A B n m := ⟨h.l1, h.l2, h.o1.wide a b, h.o2.wide a b, h.dj⟩
theorem KR.below {C : Nat} (h : KR w lo hi k A B n m) (hb : Below C w w') (hC : hi ≤ C) : KR w' lo hi k A B n m := h.kept fun k _ h2 => hb.block k (by omega)
theorem KO.below {C : Nat} (h : KO w lo hi k A B n m) (hb : Below C w w') (hC : hi ≤ C) : KO w' lo hi k A B n m := h.kept fun k _ h2 => hb.block k (by omega)
theorem KR.turned {lo2 hi2 : Nat} (h : KR w lo hi k A B n m) (hb : ∀ k, k < w.heap.size → (k < lo2 ∨ hi2 ≤ k) → w'.heap[k]? = w.heap[k]?) (hh : hi ≤ w.heap.size) (hd : hi ≤ lo2 ∨ hi2 ≤ lo) : KR w' lo hi k A B n m :=
  h.kept fun k h1 h2 => hb k (by omega) (by omega)
theorem KO.turned {lo2 hi2 : Nat} (h : KO w lo hi k A B n m) (hb : ∀ k, k < w.heap.size → (k < lo2 ∨ hi2 ≤ k) → w'.heap[k]? = w.heap[k]?) (hh : hi ≤ w.heap.size) (hd : hi ≤ lo2 ∨ hi2 ≤ lo) : KO w' lo hi k A B n m :=
  h.kept fun k h1 h2 => hb k (by omega) (by omega)
/-- Two slices made one behind the other share no block. -/
theorem KO.made {mid : Nat} (l1 : k.1.length = n) (l2 : k.2.length = m) (h1 : Owned w lo mid A (tcells k.1)) (h2 : Owned w mid hi B (scells k.2)) (a : lo ≤ mid) (b : mid ≤ hi) : KO w lo hi k A B n m :=
  ⟨l1, l2, h1.wide (Nat.le_refl _) b, h2.wide a (Nat.le_refl _), fun x hx hy => by have := blks_in h1 hx; have := blks_in h2 hy; omega⟩
end
theorem kept3 {w : World} {lo hi z : Nat} {k : KD} {A B : Option Addr} {n m : Nat} {u v x : Value} (h : KO w lo hi k A B n m) (hz : z + 1 + 1 < lo) :
    KO (((w.setCell ⟨z + 1 + 1, 1, none⟩ x).setCell ⟨z + 1, 0, none⟩ u).setCell ⟨z + 1, 1, none⟩ v) lo hi k A B n m :=
  h.kept fun q h1 _ => (Below.heap_setCell _ ⟨z + 1, 1, none⟩ v q (by show q ≠ z + 1; omega)).trans ((Below.heap_setCell _ ⟨z + 1, 0, none⟩ u q (by show q ≠ z + 1; omega)).trans (Below.heap_setCell _ ⟨z + 1 + 1, 1, none⟩ x q (by show q ≠ z + 1 + 1; omega)))
theorem below3 {a w : World} {C z : Nat} {u v x : Value} (h : Below C a w) (hz : C ≤ z) : Below C a (((w.setCell ⟨z + 1 + 1, 1, none⟩ x).setCell ⟨z + 1, 0, none⟩ u).setCell ⟨z + 1, 1, none⟩ v) :=
  ((h.setCell (p := ⟨z + 1 + 1, 1, none⟩) (show C ≤ z + 1 + 1 by omega) _).setCell (p := ⟨z + 1, 0, none⟩) (show C ≤ z + 1 by omega) _).setCell (p := ⟨z + 1, 1, none⟩) (show C ≤ z + 1 by omega) _
/-- The blocks of a slice alone. -/
theorem tight {w : World} {lo hi : Nat} {A : Option Addr} {cs : List Value} (h : Owned w lo hi A cs) :
    ∃ p q, Owned w p q A cs ∧ (∀ k, (k < lo ∨ hi ≤ k) → (k < p ∨ q ≤ k)) ∧ ∀ k, k ∉ blks A cs → (k < p ∨ q ≤ k) := by
  by_cases hc : cs = []
  · subst hc
    exact ⟨0, 0, ⟨Lies.nil, fun b off e h => by simp at h⟩, fun k _ => .inr (Nat.zero_le _), fun k _ => .inr (Nat.zero_le _)⟩
  · obtain ⟨b, off, rfl, x, y, hx⟩ := h.1.at_ (List.length_pos_iff.2 hc)
    refine ⟨b, b + 1, ⟨fun j u hu => ⟨b, off, rfl, Nat.le_refl _, by omega, hx j u hu⟩, h.2⟩, fun k hk => by omega, fun k hk => ?_⟩
    have : k ≠ b := fun e => hk (by simp [blks, hc, e])
    omega
theorem owned_in {w : World} {p q lo hi : Nat} {A : Option Addr} {cs : List Value} (h : Owned w p q A cs) (hb : ∀ b ∈ blks A cs, lo ≤ b ∧ b < hi) : Owned w lo hi A cs := by
  by_cases hc : cs = []
  · subst hc
    exact ⟨Lies.nil, fun b off e h => by simp at h⟩
  · obtain ⟨b, off, rfl, x, y, hx⟩ := h.1.at_ (List.length_pos_iff.2 hc)
    obtain ⟨u, v⟩ := hb b (by simp [blks, hc])
    exact ⟨fun j z hz => ⟨b, off, rfl, u, v, hx j z hz⟩, h.2⟩
theorem blks_len {A : Option Addr} {cs ds : List Value} (h : cs.length = ds.length) : blks A cs = blks A ds := by
  unfold blks
  by_cases hc : cs = []
  · subst hc
    rw [if_pos rfl, if_pos (List.eq_nil_of_length_eq_zero (by simpa using h.symm))]
  · rw [if_neg hc, if_neg (fun e => hc (List.eq_nil_of_length_eq_zero (by rw [h, e]; rfl)))]
/-- A shadow table is handed back. -/
def KP (w : World) (n m : Nat) (k : KD) (e : Ending) (w' : World) : Prop :=
  ∃ A c B d, e = .returned (.agg #[.slice A n c, .slice B m d]) ∧ KO w' w.heap.size w'.heap.size k A B n m ∧ Below w.heap.size w w'

/-- .. whose Known has room for its length. -/
def KPc (w : World) (n m : Nat) (k : KD) (e : Ending) (w' : World) : Prop :=
  ∃ A c B d, e = .returned (.agg #[.slice A n c, .slice B m d]) ∧ n ≤ c ∧ KO w' w.heap.size w'.heap.size k A B n m ∧ Below w.heap.size w w'
theorem KPc.kp {w : World} {n m : Nat} {k : KD} (e : Ending) (w' : World) (h : KPc w n m k e w') : KP w n m k e w' := by
  obtain ⟨A, c, B, d, h1, _, h2, h3⟩ := h
  exact ⟨A, c, B, d, h1, h2, h3⟩
section
variable {w : World} {b b' : Nat} {u v x : Value}
theorem Two.set0 (h : Two w b u v) : Two (w.setCell ⟨b, 0, none⟩ x) b x v := by
  obtain ⟨h0, h1, f0, f1, hl⟩ := h
  have e0 := World.cell?_setCell_same w ⟨b, 0, none⟩ x h0
  refine ⟨e0, ?_, ?_, ?_, by simpa using hl⟩
  · rw [World.cell?_setCell_other _ _ _ x (by intro e; injection e; omega)]; exact h1
  · rw [World.frozen?_setCell]; exact f0
  · rw [World.frozen?_setCell]; exact f1
theorem Two.set1 (h : Two w b u v) : Two (w.setCell ⟨b, 1, none⟩ x) b u x := by
  obtain ⟨h0, h1, f0, f1, hl⟩ := h
  have e1 := World.cell?_setCell_same w ⟨b, 1, none⟩ x h1
  refine ⟨?_, e1, ?_, ?_, by simpa using hl⟩
  · rw [World.cell?_setCell_other _ _ _ x (by intro e; injection e; omega)]; exact h0
  · rw [World.frozen?_setCell]; exact f0
  · rw [World.frozen?_setCell]; exact f1
theorem Two.other (h : Two w b u v) (hb : b ≠ b') (i : Nat) : Two (w.setCell ⟨b', i, none⟩ x) b u v := by
  obtain ⟨h0, h1, f0, f1, hl⟩ := h
  refine ⟨?_, ?_, ?_, ?_, by simpa using hl⟩
  · rw [World.cell?_setCell_other _ _ _ x (by intro e; injection e; omega)]; exact h0
  · rw [World.cell?_setCell_other _ _ _ x (by intro e; injection e; omega)]; exact h1
  · rw [World.frozen?_setCell]; exact f0
  · rw [World.frozen?_setCell]; exact f1
end
section
variable (A B : Option Addr) (n m c d lo : Nat) (k : KD) (w : World)

theorem three (u v : Value) (u' v' u'' v'' : Value) (T T' T'' : TypeId) :
    let W := ((w.alloc (.cells #[u, v] T)).alloc (.cells #[u', v'] T')).alloc (.cells #[u'', v''] T'')
    Two W w.heap.size u v ∧ Two W (w.heap.size + 1) u' v' ∧ Two W (w.heap.size + 1 + 1) u'' v'' ∧ Below w.heap.size w W ∧ W.heap.size = w.heap.size + 3 := by
  intro W
  obtain ⟨t1, t2, hb⟩ := two_two w u v u' v' T T'
  have t3 := Two.new ((w.alloc (.cells #[u, v] T)).alloc (.cells #[u', v'] T')) u'' v'' T''
  have hz : ((w.alloc (.cells #[u, v] T)).alloc (.cells #[u', v'] T')).heap.size = w.heap.size + 1 + 1 := by simp
  rw [hz] at t3
  exact ⟨t1.alloc _, t2.alloc _, t3, hb.alloc (by omega) _, by simp [W]⟩

set_option maxRecDepth 100000 in
set_option maxHeartbeats 2000000 in
theorem toKept_any (hn : n ≤ 1048576) (hm : m ≤ 1048576) (h : KR w lo w.heap.size k A B n m) :
    Calls Try.prog 52 #[.agg #[.slice A n c, .slice B m d]] w (KP w n m k) := by
  obtain ⟨t1, t2, t3, hb3, hz3⟩ := three w (.slice A n c) (.slice B m d) (.slice none 0 0) (.slice none 0 0) (.slice none 0 0) (.slice none 0 0) 64 27 27
  have HH := Lib.hid h
  clear h
  go_enter Try.func52, Try.ntmps52
  go_wp2_with fail
  generalize ((w.alloc (.cells #[.slice A n c, .slice B m d] 64)).alloc (.cells #[.slice none 0 0, .slice none 0 0] 27)).alloc (.cells #[.slice none 0 0, .slice none 0 0] 27) = W at t1 t2 t3 hb3 hz3 ⊢
  have HW := Lib.hid hb3
  have hx := hb3.size
  refine (toBoolS_any A n c lo k.1 W hn HH.out.l1 ((HH.out.r1.below hb3 (Nat.le_refl _)).wide (Nat.le_refl _) hx)).mono ?_
  rintro e w1 ⟨A1, n1, c1, rfl, hl1, ho1, hb1⟩
  obtain rfl : n = n1 := HH.out.l1.symm.trans hl1
  have s1 := t1.below hb1
  have s2 := t2.below hb1
  have s3 := t3.below hb1
  have hz1 := hb1.size
  clear t1 t2 t3 hl1
  have u1 : Two (w1.setCell ⟨w.heap.size + 1 + 1, 0, none⟩ (.slice A1 n c1)) w.heap.size (.slice A n c) (.slice B m d) := Two.other s1 (by omega) 0
  have u2 : Two (w1.setCell ⟨w.heap.size + 1 + 1, 0, none⟩ (.slice A1 n c1)) (w.heap.size + 1) (.slice none 0 0) (.slice none 0 0) := Two.other s2 (by omega) 0
  have u3 : Two (w1.setCell ⟨w.heap.size + 1 + 1, 0, none⟩ (.slice A1 n c1)) (w.heap.size + 1 + 1) (.slice A1 n c1) (.slice none 0 0) := Two.set0 s3
  have hbW : Below w.heap.size w (w1.setCell ⟨w.heap.size + 1 + 1, 0, none⟩ (.slice A1 n c1)) := (hb3.trans (hb1.mono hx)).setCell (p := ⟨w.heap.size + 1 + 1, 0, none⟩) (show w.heap.size ≤ w.heap.size + 1 + 1 by omega) _
  have hoW : Owned (w1.setCell ⟨w.heap.size + 1 + 1, 0, none⟩ (.slice A1 n c1)) W.heap.size w1.heap.size A1 (tcells k.1) := ho1.kept fun q h1 _ => Below.heap_setCell w1 ⟨w.heap.size + 1 + 1, 0, none⟩ _ q (by show q ≠ w.heap.size + 1 + 1; omega)
  have hzW : (w1.setCell ⟨w.heap.size + 1 + 1, 0, none⟩ (.slice A1 n c1)).heap.size = w1.heap.size := by simp
  obtain ⟨j10, j11, _, _, _⟩ := s1
  obtain ⟨j30, j31, f30, f31, _⟩ := s3
  go_wp2_with fail
  generalize w1.setCell ⟨w.heap.size + 1 + 1, 0, none⟩ (.slice A1 n c1) = W2 at u1 u2 u3 hbW hoW hzW ⊢
  clear j10 j11 j30 j31 f30 f31 hb1 ho1
  refine (toSlotS_any B m d lo k.2 W2 hm HH.out.l2 ((HH.out.r2.below hbW (Nat.le_refl _)).wide (Nat.le_refl _) (by omega))).mono ?_
  rintro e w2 ⟨ad, c2, rfl, hc2, ho2, hb2⟩
  obtain ⟨r0, r1, g0, g1, _⟩ := u2.below hb2
  obtain ⟨q0, q1, p0, p1, _⟩ := u3.below hb2
  have hz2 := hb2.size
  have HO := Lib.hid (show KO w2 W.heap.size w2.heap.size k A1 (some ad) n m from KO.made (mid := w1.heap.size) HH.out.l1 HH.out.l2 (hoW.below hb2 (by omega)) (ho2.wide (by omega) (Nat.le_refl _)) (by omega) (by omega))
  have HB := Lib.hid (show Below w.heap.size w w2 from hbW.trans (hb2.mono (by omega)))
  clear u1 u2 u3 hbW hoW ho2 hb2 hb3 hc2
  go_wp2_with fail
  exact bodyPost_ret (v := .agg #[.slice A1 n c1, .slice (some ad) m c2]) (by simp [results, Try.results52, go_sem, r0, r1]) rfl
    ⟨A1, c1, some ad, c2, rfl, (kept3 HO.out (by omega)).wide (by omega) (by simp), below3 HB.out (Nat.le_refl _)⟩

set_option maxHeartbeats 2000000 in
theorem eqKept_same (A' B' : Option Addr) (c' d' lo' hi hi' : Nat) (hn : n ≤ 1048576) (hm : m ≤ 1048576) (hh : hi ≤ w.heap.size) (hh' : hi' ≤ w.heap.size) (h : KR w lo hi k A B n m) (h' : KR w lo' hi' k A' B' n m) :
    Calls Try.prog 47 #[.agg #[.slice A n c, .slice B m d], .agg #[.slice A' n c', .slice B' m d']] w fun e w' => e = .returned (.bool true) ∧ Below w.heap.size w w' := by
  obtain ⟨t1, t2, hb2⟩ := two_two w (.slice A n c) (.slice B m d) (.slice A' n c') (.slice B' m d') 27 27
  have H1 := Lib.hid h
  have H2 := Lib.hid h'
  clear h h'
  go_enter Try.func47, Try.ntmps47
  go_wp2_with fail
  generalize (w.alloc (.cells #[.slice A n c, .slice B m d] 27)).alloc (.cells #[.slice A' n c', .slice B' m d'] 27) = W at t1 t2 hb2 ⊢
  have hx := hb2.size
  refine (eqBoolS_same A A' n c c' lo lo' hi hi' k.1 W (by omega) H1.out.l1 (H1.out.r1.below hb2 hh) (H2.out.r1.below hb2 hh')).mono ?_
  rintro e w1 ⟨rfl, hb1⟩
  obtain ⟨j10, j11, _, _, _⟩ := t1.below hb1
  obtain ⟨j20, j21, _, _, _⟩ := t2.below hb1
  have hx1 := hb1.size
  have HB1 := Lib.hid (show Below w.heap.size w w1 from hb2.trans (hb1.mono hx))
  clear hb1 hb2 t1 t2
  go_wp2_with fail
  refine (eqSlotS_same B B' m d d' lo lo' hi hi' k.2 w1 (by omega) H1.out.l2 (by omega) (by omega) (H1.out.r2.below HB1.out hh) (H2.out.r2.below HB1.out hh')).mono ?_
  rintro e w2 ⟨rfl, hb3⟩
  have HB2 := Lib.hid (btr HB1.out hb3)
  clear hb3
  go_wp2_with fail
  go_ret
  exact ⟨rfl, HB2.out⟩

theorem turned_wide {p q lo hi : Nat} {w w' : World} (h : Turned p q w w') (hpq : ∀ k, (k < lo ∨ hi ≤ k) → (k < p ∨ q ≤ k)) : Turned lo hi w w' := ⟨h.os, h.tape, h.output, h.size, fun k hk hd => h.block k hk (hpq k hd)⟩
theorem turned_alloc {lo hi : Nat} {w w' : World} (o : Obj) (h : Turned lo hi (w.alloc o) w') (hh : hi ≤ w.heap.size) : Turned lo hi w w' :=
  ⟨h.os, h.tape, h.output, by have := h.size; simp at this; omega, fun k hk hd => (h.block k (by simp; omega) hd).trans (by show (w.heap.push o)[k]? = _; rw [Array.getElem?_push, if_neg (by omega)])⟩

set_option maxHeartbeats 2000000 in
theorem markKept_any (hi k0 : Nat) (hn : n ≤ 1048576) (hm : m ≤ 1048576) (hk1 : k0 ≤ 1048576) (hh : hi ≤ w.heap.size) (h : KO w lo hi k A B n m) :
    Calls Try.prog 48 #[.agg #[.slice A n c, .slice B m d], .int .i64 k0] w fun e w' => e = .returned (.int .i64 ((k0 : Int) + n + 2 * m)) ∧ KO w' lo hi (tmarks k0 n, smarks (k0 + n) m) A B n m ∧ Turned lo hi w w' := by
  have hb0 : Below w.heap.size w (w.alloc (.cells #[.slice A n c, .slice B m d] 27)) := (Below.refl _ _).alloc (Nat.le_refl _) _
  have ht := Two.new w (.slice A n c) (.slice B m d) 27
  have hTA := fun w' (x : Turned lo hi (w.alloc (.cells #[.slice A n c, .slice B m d] 27)) w') => turned_alloc _ x hh
  have H := Lib.hid (h.below hb0 hh)
  have HT := Lib.hid hTA
  clear h hTA
  go_enter Try.func48, Try.ntmps48
  go_wp2_with fail
  generalize w.alloc (.cells #[.slice A n c, .slice B m d] 27) = W at ht H HT hb0 ⊢
  have hx := hb0.size
  obtain ⟨p, q, hp1, hp2, hp3⟩ := tight H.out.o1
  refine (markBoolS_any A n c p q k0 k.1 W hn (by omega) H.out.l1 hp1).mono ?_
  rintro e w1 ⟨rfl, ho1, ht1⟩
  have hB1 : ∀ b, b ∉ blks A (tcells k.1) → b < W.heap.size → w1.heap[b]? = W.heap[b]? := fun b hb hlt => ht1.block b hlt (hp3 b hb)
  have hlen : blks A (tcells (tmarks k0 n)) = blks A (tcells k.1) := blks_len (by rw [tcells_len, tcells_len, tmarks_len, H.out.l1])
  have ho2 := owned_agree H.out.o2 (w' := w1) fun b hb => hB1 b (fun hb' => H.out.dj b hb' hb) (by have := blks_in H.out.o2 hb; omega)
  have hT1 := turned_wide ht1 hp2
  obtain ⟨j0, j1, _, _, hj⟩ := ht
  have hj' : w1.heap[w.heap.size]? = W.heap[w.heap.size]? := hT1.block _ hj (.inr hh)
  have i1 : w1.cell? ⟨w.heap.size, 1, none⟩ = some (.slice B m d) := (World.cell?_of_block (w := W) (a := ⟨w.heap.size, 1, none⟩) hj').trans j1
  have HO2 := Lib.hid ho2
  have HO1 := Lib.hid ho1
  have HT1 := Lib.hid hT1
  have HL := Lib.hid hlen
  have HW := Lib.hid (tight ho1)
  have hx1 := hT1.size
  clear hj' ho1 ho2 ht1 hT1 hB1 hp1 hp2 hp3 j0 hlen
  go_wp2_with fail
  obtain ⟨p', q', hq1, hq2, hq3⟩ := tight HO2.out
  rw [show ((k0 : Int) + n) = ((k0 + n : Nat) : Int) by omega]
  refine (markSlotS_any B m d p' q' (k0 + n) k.2 w1 hm (by omega) H.out.l2 hq1).mono ?_
  rintro e w2 ⟨rfl, ho3, ht2⟩
  have hlen2 : blks B (scells (smarks (k0 + n) m)) = blks B (scells k.2) := blks_len (by rw [scells_len, scells_len, smarks_len, H.out.l2])
  have hA : ∀ b ∈ blks A (tcells (tmarks k0 n)), lo ≤ b ∧ b < hi := fun b hb => blks_in H.out.o1 (by rw [← HL.out]; exact hb)
  have hB : ∀ b ∈ blks B (scells (smarks (k0 + n) m)), lo ≤ b ∧ b < hi := fun b hb => blks_in H.out.o2 (by rw [← hlen2]; exact hb)
  have ho4 := owned_agree HO1.out (w' := w2) fun b hb => ht2.block b (by have := hA b hb; omega) (hq3 b (fun hb' => H.out.dj b (by rw [← HL.out]; exact hb) hb'))
  have HF := Lib.hid (show KO w2 lo hi (tmarks k0 n, smarks (k0 + n) m) A B n m from ⟨tmarks_len _ _, smarks_len _ _, owned_in ho4 hA, owned_in ho3 hB, fun b h1 h2 => H.out.dj b (by rw [← HL.out]; exact h1) (by rw [← hlen2]; exact h2)⟩)
  have HT2 := Lib.hid (HT.out _ (HT1.out.trans (turned_wide ht2 hq2)))
  clear ho3 ho4 ht2 hlen2 hq1 hq2 hq3 hA hB
  go_wp2_with fail
  go_ret
  exact ⟨by congr 2, HF.out, HT2.out⟩

set_option maxHeartbeats 2000000 in
theorem heldKept_any (hi k0 : Nat) (hn : n ≤ 1048576) (hm : m ≤ 1048576) (hk1 : k0 ≤ 1048576) (hh : hi ≤ w.heap.size) (h : KR w lo hi (tmarks k0 n, smarks (k0 + n) m) A B n m) :
    Calls Try.prog 49 #[.agg #[.slice A n c, .slice B m d], .int .i64 k0] w fun e w' => e = .returned (.int .i64 ((k0 : Int) + n + 2 * m)) ∧ Below w.heap.size w w' := by
  have hb0 : Below w.heap.size w (w.alloc (.cells #[.slice A n c, .slice B m d] 27)) := (Below.refl _ _).alloc (Nat.le_refl _) _
  obtain ⟨j0, j1, _, _, _⟩ := Two.new w (.slice A n c) (.slice B m d) 27
  have H := Lib.hid (h.below hb0 hh)
  have HB := Lib.hid hb0
  clear h hb0
  have hp : ¬ ((k0 : Int) + n < 0) := by omega
  have hq : ¬ ((k0 : Int) + n + 2 * m < 0) := by omega
  have hq' : ¬ (((k0 + n : Nat) : Int) + 2 * m < 0) := by omega
  go_enter Try.func49, Try.ntmps49
  go_wp2_with fail
  refine (heldBoolS_any A n c lo hi k0 _ hn (by omega) H.out.r1).mono ?_
  rintro e w' ⟨rfl, rfl⟩
  go_wp2_with fail
  rw [show ((k0 : Int) + n) = ((k0 + n : Nat) : Int) by omega]
  refine (heldSlotS_any B m d lo hi (k0 + n) _ hm (by omega) H.out.r2).mono ?_
  rintro e w' ⟨rfl, rfl⟩
  go_wp2_with fail
  go_ret
  exact ⟨by congr 2, HB.out⟩

set_option maxHeartbeats 2000000 in
theorem szKept_yes (left : Int) (hk1 : left ≤ 1048576) (h : (n : Int) + m ≤ left) :
    Calls Try.prog 50 #[.agg #[.slice A n c, .slice B m d], .int .i64 left] w fun e w' => e = .returned (.int .i64 (left - n - m)) ∧ Below w.heap.size w w' := by
  have HB := Lib.hid (show Below w.heap.size w (w.alloc (.cells #[.slice A n c, .slice B m d] 64)) from (Below.refl _ _).alloc (Nat.le_refl _) _)
  have h1 : ¬ left - n < 0 := by omega
  have h2 : ¬ left - n - m < 0 := by omega
  go_enter Try.func50, Try.ntmps50
  go_wp2_with fail
  refine (szBoolS_yes A n c left _ hk1 (by omega)).mono ?_
  rintro e w' ⟨rfl, rfl⟩
  go_wp2_with fail
  refine (szSlotS_yes B m d (left - n) _ (by omega) (by omega)).mono ?_
  rintro e w' ⟨rfl, rfl⟩
  go_wp2_with fail
  go_ret
  exact ⟨rfl, HB.out⟩
set_option maxHeartbeats 2000000 in
theorem szKept_no (left : Int) (hk0 : 0 ≤ left) (hk1 : left ≤ 1048576) (hn : n ≤ 9223372036854775807) (hm : m ≤ 9223372036854775807) (h : left < (n : Int) + m) :
    Calls Try.prog 50 #[.agg #[.slice A n c, .slice B m d], .int .i64 left] w fun e w' => e = .returned (.int .i64 (-1)) ∧ Below w.heap.size w w' := by
  have HB := Lib.hid (show Below w.heap.size w (w.alloc (.cells #[.slice A n c, .slice B m d] 64)) from (Below.refl _ _).alloc (Nat.le_refl _) _)
  by_cases hx : left < n
  · go_enter Try.func50, Try.ntmps50
    go_wp2_with fail
    refine (szBoolS_no A n c left _ hk0 hk1 hn hx).mono ?_
    rintro e w' ⟨rfl, rfl⟩
    go_wp2_with fail
    go_ret
    exact ⟨rfl, HB.out⟩
  · have h1 : ¬ left - n < 0 := by omega
    go_enter Try.func50, Try.ntmps50
    go_wp2_with fail
    refine (szBoolS_yes A n c left _ hk1 (by omega)).mono ?_
    rintro e w' ⟨rfl, rfl⟩
    go_wp2_with fail
    refine (szSlotS_no B m d (left - n) _ (by omega) (by omega) hm (by omega)).mono ?_
    rintro e w' ⟨rfl, rfl⟩
    go_wp2_with fail
    go_ret
    exact ⟨rfl, HB.out⟩
end

/-! ### An argument opened -/
def rSl : Rp Sl := rPair rInt rInt
def rTab : Rp (List Sl) := rList rSl
def rBools : Rp (List Bool) := rList rBool
def rKept : Rp KD := rPair rBools rTab
section
variable {w : World} {lo hi : Nat}
theorem slots_cells : ∀ {l : List Sl} {ds : List Value}, rdAll rSl w lo hi l ds → ds = scells l
  | [], ds, h => h
  | s :: l, ds, h => by
    obtain ⟨c1, c2, rfl, ⟨a, b, rfl, ha, hb⟩, h2⟩ := h
    rw [show a = _ from ha, show b = _ from hb, slots_cells h2]
    rfl
theorem bools_cells : ∀ {l : List Bool} {ds : List Value}, rdAll rBool w lo hi l ds → ds = tcells l
  | [], ds, h => h
  | s :: l, ds, h => by
    obtain ⟨c1, c2, rfl, h1, h2⟩ := h
    rw [show c1 = _ from h1, bools_cells h2]
    rfl
theorem tab_rd {l : List Sl} {cs : List Value} (h : rTab.rd w lo hi l cs) : ∃ A c, cs = [.slice A l.length c] ∧ Lies w lo hi A (scells l) := by
  obtain ⟨A, c, ds, e, h1, h2⟩ := h
  exact ⟨A, c, e, slots_cells h1 ▸ h2⟩
theorem bools_rd {l : List Bool} {cs : List Value} (h : rBools.rd w lo hi l cs) : ∃ A c, cs = [.slice A l.length c] ∧ Lies w lo hi A (tcells l) := by
  obtain ⟨A, c, ds, e, h1, h2⟩ := h
  exact ⟨A, c, e, bools_cells h1 ▸ h2⟩
theorem kept_rd {k : KD} {cs : List Value} (h : rKept.rd w lo hi k cs) : ∃ A n c B m d, cs = [.slice A n c, .slice B m d] ∧ KR w lo hi k A B n m := by
  obtain ⟨c1, c2, rfl, h1, h2⟩ := h
  obtain ⟨A, c, rfl, l1⟩ := bools_rd h1
  obtain ⟨B, d, rfl, l2⟩ := tab_rd h2
  exact ⟨A, _, c, B, _, d, rfl, rfl, rfl, l1, l2⟩
end
theorem boolCells : Try.prog.cellsOf 4 = 1 := by kernel_rfl
theorem keptCells : Try.prog.cellsOf 64 = 2 := by kernel_rfl
theorem opens_slots : Opens Try.prog rTab 62 :=
  opens_list (by decide) Try.underlying62 slotCells (opens_struct Try.underlying101 slotCells (fields_cons (opens_int Try.underlying3) rfl intCells (fields_one (opens_int Try.underlying3) rfl intCells)))
theorem opens_bools : Opens Try.prog rBools 24 := opens_list (by decide) Try.underlying24 boolCells (opens_bool Try.underlying4)
theorem opens_kept : Opens Try.prog rKept 64 :=
  opens_struct Try.underlying64 keptCells (fields_cons opens_bools rfl (by kernel_rfl) (fields_one opens_slots rfl (by kernel_rfl)))
section
variable {H : Type} {enc : TypeId × Value → H}
theorem open_kept {W : World} {base : Nat} {v : Value} {d : DataW H} {p : List MemPlace} (hval : Value.okWide Try.prog W .any base 64 v) (h : DataW.Trod enc Try.prog W 0 (fun _ => true) true 64 v d p) :
    ∃ A n c B m e k, v = .agg #[.slice A n c, .slice B m e] ∧ n ≤ 9223372036854775807 ∧ m ≤ 9223372036854775807 ∧ wfL k.2 ∧ KR W 0 W.heap.size k A B n m := by
  obtain ⟨fuel, hf⟩ := h
  obtain ⟨k, hk, wk⟩ := opens_kept H enc W fuel _ _ hf
  obtain ⟨A, n, c, B, m, e, hcs, hR⟩ := kept_rd hk
  have hv : ∃ cs, v = .agg cs := by
    unfold Value.okWide at hval
    rw [Try.underlying64] at hval
    obtain ⟨cs, e, _⟩ := hval
    exact ⟨cs, e⟩
  obtain ⟨cs, rfl⟩ := hv
  simp [Value.cells] at hcs
  obtain ⟨⟨w1, _⟩, w2, w3⟩ := wk
  have hlm : maxLen ≤ 9223372036854775807 := by decide
  refine ⟨A, n, c, B, m, e, k, ?_, ?_, ?_, fun s hs => w3 s hs, hR⟩
  · rw [← Array.toArray_toList (xs := cs), hcs]
  · rw [← hR.l1]; exact Nat.le_trans w1 hlm
  · rw [← hR.l2]; exact Nat.le_trans w2 hlm
end
theorem Two.turned {w w' : World} {b lo hi : Nat} {u v : Value} (h : Two w b u v) (ht : Turned lo hi w w') (hd : b < lo ∨ hi ≤ b) : Two w' b u v := by
  obtain ⟨h0, h1, f0, f1, hl⟩ := h
  have hk := ht.block b hl hd
  exact ⟨(World.cell?_of_block (w := w) (a := ⟨b, 0, none⟩) hk).trans h0, (World.cell?_of_block (w := w) (a := ⟨b, 1, none⟩) hk).trans h1, (World.frozen?_of_block (w := w) (a := ⟨b, 0, none⟩) hk).trans f0, (World.frozen?_of_block (w := w) (a := ⟨b, 1, none⟩) hk).trans f1, Nat.lt_of_lt_of_le hl ht.size⟩
end Go.Proofs.Ytfgckkgakghenaa.Kepts
