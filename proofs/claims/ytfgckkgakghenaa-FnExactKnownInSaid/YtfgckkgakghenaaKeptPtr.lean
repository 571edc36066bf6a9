/-
  Shadow tables: the project's methods on a pointer to a shadow table (a variable of two cells), and slices.Clone at both of its slices. No condition beyond a table's length and its numbers being of an int's range.
-/
import Derived.Test.YtfgckkgakghenaaKeptS3
import Derived.Lib.SliceRun
namespace Go.Proofs.Ytfgckkgakghenaa.Kepts
set_option maxRecDepth 100000
open Go.ChangeShapes Go.WideShapes Go.ChangeAt Go.RowKit
open Go.Proofs.Ytfgckkgakghenaa.Base Go.Proofs.Ytfgckkgakghenaa.Mem Go.Proofs.Ytfgckkgakghenaa.Slots Go.Proofs.Ytfgckkgakghenaa.Bools Go.Proofs.Ytfgckkgakghenaa.Data
set_option linter.unusedVariables false
set_option linter.unusedSimpArgs false

/-- A slice of its own is handed back. -/
def ClP (w : World) (n : Nat) (cs : List Value) (e : Ending) (w' : World) : Prop :=
  ∃ A c, e = .returned (.slice A n c) ∧ Owned w' w.heap.size w'.heap.size A cs ∧ Below w.heap.size w w'
theorem fresh_row {w w1 : World} {T : TypeId} {s : Nat} {cs : List Value} {g cap n : Nat} (hown : w1.ownsRow w.heap.size T s (.slice (some ⟨g, 0, none⟩) n cap) n cs) (hg : (w.alloc (.cells #[] T)).grownBy w1 (some w.heap.size)) :
    Owned w1 w.heap.size w1.heap.size (some ⟨g, 0, none⟩) cs ∧ Below w.heap.size w w1 :=
  ⟨Owned.of_row hown, ((Below.refl _ _).alloc (Nat.le_refl _) _).grown hg (by simp) (fun j hj => by cases hj; exact Nat.le_refl _)⟩
theorem row_src {w : World} {lo : Nat} {A : Option Addr} {cs : List Value} (h : Lies w lo w.heap.size A cs) (o : Obj) : ∀ j u, cs[j]? = some u → ∃ ad, A = some ad ∧ (w.alloc o).cell? (ad.add j) = some u :=
  App.Lies.src (h.below ((Below.refl w.heap.size w).alloc (Nat.le_refl _) o) (Nat.le_refl _))
theorem lies_none {w : World} {lo hi : Nat} {cs : List Value} (h : Lies w lo hi none cs) : cs = [] := by
  rcases cs with _ | ⟨u, r⟩
  · rfl
  · obtain ⟨b, off, e, _⟩ := h 0 u rfl
    cases e
section
variable (A B : Option Addr) (n m c d lo : Nat) (k : KD) (w : World)
set_option maxHeartbeats 1000000 in
theorem lib_cloneB (l : List Bool) (hn : n ≤ 1048576) (hl : l.length = n) (h : Lies w lo w.heap.size A (tcells l)) :
    Calls Try.prog 91 #[.slice A n c] w (ClP w n (tcells l)) := by
  obtain ⟨i0, hi0, hz0, hz1, hz2⟩ := info_parts Try.infoBool
  have qn : ∀ (w : World) (a : Option Addr) (n c n' c' : Nat), (binOp .eql 24 (.slice a n c) (.slice none n' c')).run Try.prog w = .ok (.bool a.isNone) w := fun w a n c n' c' => Lib.run_eql_slice_nil w _ _ a n c n' c' Try.underlying24
  rcases A with _ | ad
  · have h0 := lies_none h
    have hn0 : n = 0 := by rw [← hl, ← tcells_len l, h0]; rfl
    subst hn0
    rw [h0]
    clear h h0 hl
    go_enter Try.func91, Try.ntmps91
    go_wp2
    go_ret
    exact ⟨none, 0, rfl, ⟨Lies.nil, fun _ _ _ hh => absurd hh (by simp)⟩, Below.refl _ _⟩
  · have HS := Lib.hid (row_src h (.cells #[] 4))
    have HE := Lib.hid (show (tcells l).length = n * 1 by rw [tcells_len, hl, Nat.mul_one])
    have HM := Lib.hid (World.ownsRow_made (e := 4) (size := 1) w #[] 0 (Nat.le_refl _) (Nat.zero_le _) rfl)
    clear h hl
    go_enter Try.func91, Try.ntmps91
    go_wp2_with (at_builtin; refine App.wpList_append_fresh _ rfl (.tmp 5) (.tmp 6) 24 rfl w.heap.size 4 i0 _ 1 1 Try.underlying24 hi0 hz0 hz1 hz2 rfl (by omega) w.heap.size rfl HM.out (some ad) n c (tcells l) rfl HE.out HS.out (tcells_one l) (by simp only [maxLen]; omega) (by omega) (by simp) ?_; intro g1 cap1 w1 hown1 hg1; obtain ⟨ho1, hb1⟩ := fresh_row hown1 hg1; have HF := Lib.hid (And.intro ho1 hb1); clear hown1 hg1 ho1 hb1)
    go_ret
    exact ⟨_, _, rfl, HF.out.1, HF.out.2⟩
set_option maxHeartbeats 1000000 in
theorem lib_cloneS (l : List Sl) (hn : n ≤ 1048576) (hl : l.length = n) (h : Lies w lo w.heap.size A (scells l)) :
    Calls Try.prog 92 #[.slice A n c] w (ClP w n (scells l)) := by
  obtain ⟨i0, hi0, hz0, hz1, hz2⟩ := info_parts Try.infoSlotK
  have qn : ∀ (w : World) (a : Option Addr) (n c n' c' : Nat), (binOp .eql 25 (.slice a n c) (.slice none n' c')).run Try.prog w = .ok (.bool a.isNone) w := fun w a n c n' c' => Lib.run_eql_slice_nil w _ _ a n c n' c' Try.underlying25
  rcases A with _ | ad
  · have h0 := lies_none h
    have hn0 : n = 0 := by have := scells_len l; rw [h0] at this; simp at this; omega
    subst hn0
    rw [h0]
    clear h h0 hl
    go_enter Try.func92, Try.ntmps92
    go_wp2
    go_ret
    exact ⟨none, 0, rfl, ⟨Lies.nil, fun _ _ _ hh => absurd hh (by simp)⟩, Below.refl _ _⟩
  · have HS := Lib.hid (row_src h (.cells #[] 36))
    have HE := Lib.hid (show (scells l).length = n * 2 by rw [scells_len, hl, Nat.mul_comm])
    have HM := Lib.hid (World.ownsRow_made (e := 36) (size := 2) w #[] 0 (Nat.le_refl _) (Nat.zero_le _) rfl)
    clear h hl
    go_enter Try.func92, Try.ntmps92
    go_wp2_with (at_builtin; refine App.wpList_append_fresh _ rfl (.tmp 5) (.tmp 6) 25 rfl w.heap.size 36 i0 _ 2 16 Try.underlying25 hi0 hz0 hz1 hz2 rfl (by omega) w.heap.size rfl HM.out (some ad) n c (scells l) rfl HE.out HS.out (scells_one l) (by simp only [maxLen]; omega) (by omega) (by simp) ?_; intro g1 cap1 w1 hown1 hg1; obtain ⟨ho1, hb1⟩ := fresh_row hown1 hg1; have HF := Lib.hid (And.intro ho1 hb1); clear hown1 hg1 ho1 hb1)
    go_ret
    exact ⟨_, _, rfl, HF.out.1, HF.out.2⟩

/-- A variable at z holds a shadow table whose slices are its own, made behind w. -/
structure Pt (w V : World) (z n m c d : Nat) (A B : Option Addr) (k : KD) : Prop where
  bx : Two V z (.slice A n c) (.slice B m d)
  ko : KO V w.heap.size z k A B n m
  bw : Below w.heap.size w V
  lo : w.heap.size ≤ z
end
section
variable {w V V' : World} {z n m c d : Nat} {A B : Option Addr} {k : KD}
theorem Pt.lt (h : Pt w V z n m c d A B k) : z < V.heap.size := h.bx.2.2.2.2
theorem Pt.below (h : Pt w V z n m c d A B k) (hb : Below V.heap.size V V') : Pt w V' z n m c d A B k := by
  have hz := h.lt
  exact ⟨h.bx.below hb, h.ko.below hb (by omega), h.bw.trans (hb.mono (by have := h.lo; omega)), h.lo⟩
theorem Pt.put1 {b off i : Nat} {x : Bool} (h : Pt w V z n m c d (some ⟨b, off, none⟩) B k) (hi : i < n) : Pt w (V.setCell ⟨b, off + i, none⟩ (.bool x)) z n m c d (some ⟨b, off, none⟩) B (k.1.set i x, k.2) := by
  obtain ⟨b', off', e, h1, h2, _⟩ := bool_at h.ko.o1.1 i (by rw [h.ko.l1]; exact hi)
  cases e
  exact ⟨Two.other h.bx (by omega) _, h.ko.set1 hi, h.bw.setCell (p := ⟨b, off + i, none⟩) h1 _, h.lo⟩
theorem Pt.put2 {b off i : Nat} {x y : Int} (h : Pt w V z n m c d A (some ⟨b, off, none⟩) k) (hi : i < m) :
    Pt w ((V.setCell ⟨b, off + i * 2, none⟩ (.int .i64 x)).setCell ⟨b, off + i * 2 + 1, none⟩ (.int .i64 y)) z n m c d A (some ⟨b, off, none⟩) (k.1, k.2.set i (x, y)) := by
  obtain ⟨b', off', e, h1, h2, _⟩ := slot_at h.ko.o2.1 i (by rw [h.ko.l2]; exact hi)
  cases e
  exact ⟨Two.other (Two.other h.bx (by omega) _) (by omega) _, h.ko.set2 hi, (h.bw.setCell (p := ⟨b, off + i * 2, none⟩) h1 _).setCell (p := ⟨b, off + i * 2 + 1, none⟩) h1 _, h.lo⟩
end
theorem keep_at {w : World} {b c i o o' : Nat} {u v x : Value} (h : w.cell? ⟨c, i, none⟩ = some x) (hne : c ≠ b) : ((w.setCell ⟨b, o, none⟩ u).setCell ⟨b, o', none⟩ v).cell? ⟨c, i, none⟩ = some x := by
  rw [World.cell?_setCell_other _ _ _ v (by intro e; injection e; omega), World.cell?_setCell_other _ _ _ u (by intro e; injection e; omega)]
  exact h
def setK (k : KD) (page : Int) (b : Bool) (s : Sl) : KD := if hasK k page = true then putK k page.toNat b s else k
def PtP (w V : World) (z n m c d : Nat) (A B : Option Addr) (k : KD) (e : Ending) (w' : World) : Prop := e = .returned (.tuple #[]) ∧ Pt w w' z n m c d A B k ∧ Turned w.heap.size z V w'
theorem turned_of {lo hi : Nat} {V W : World} (h : Below V.heap.size V W) : Turned lo hi V W := ⟨h.os, h.tape, h.output, h.size, fun k hk _ => h.block k hk⟩
theorem turned_drew {lo hi : Nat} {V W : World} (h : Turned lo hi V W) : Turned lo hi V W.drew := ⟨h.os, h.tape, h.output, h.size, h.block⟩
def CopyP (w : World) (n m : Nat) (k : KD) (e : Ending) (w' : World) : Prop := ∃ z A B c d, e = .returned (.pointer (some ⟨z, 0, none⟩)) ∧ Pt w w' z n m c d A B k
section
variable (A B : Option Addr) (n m c d lo z : Nat) (k : KD) (w V : World)
set_option maxHeartbeats 1000000 in
theorem impl_hasK (page : Int) (hn : n ≤ 1048576) (hm : m ≤ 1048576) (l1 : k.1.length = n) (l2 : k.2.length = m) (h : Two V z (.slice A n c) (.slice B m d)) :
    Calls Try.prog 67 #[.pointer (some ⟨z, 0, none⟩), .int .i64 page] V fun e w' => e = .returned (.bool (hasK k page)) ∧ V = w' := by
  obtain ⟨j0, j1, _, _, _⟩ := h
  by_cases h1 : 0 ≤ page ∧ page < m
  · have HI := Lib.hid (fun V : World => impl_has_yes B m d page V hm h1.1 h1.2)
    have HK := Lib.hid (show hasK k page = decide (page < n) by unfold hasK; rw [l1, l2]; simp [h1.1, h1.2])
    clear h1 l1 l2
    go_enter Try.func67, Try.ntmps67
    go_wp2_with (go_at_call 93; refine (HI.out _).mono ?_; rintro e w' ⟨rfl, rfl⟩)
    go_ret
    exact ⟨by rw [HK.out]; rfl, rfl⟩
  · have HI := Lib.hid (fun V : World => impl_has_no B m d page V hm h1)
    have HK := Lib.hid (show hasK k page = false by unfold hasK; rw [l2]; simp; omega)
    clear h1 l1 l2
    go_enter Try.func67, Try.ntmps67
    go_wp2_with (go_at_call 93; refine (HI.out _).mono ?_; rintro e w' ⟨rfl, rfl⟩)
    go_ret
    exact ⟨by rw [HK.out]; rfl, rfl⟩

set_option maxRecDepth 100000 in
set_option maxHeartbeats 4000000 in
theorem impl_copyK (hn : n ≤ 1048576) (hm : m ≤ 1048576) (h : KR w 0 w.heap.size k A B n m) :
    Calls Try.prog 60 #[.agg #[.slice A n c, .slice B m d]] w (CopyP w n m k) := by
  have H := Lib.hid h
  have t0 := Two.new w (.slice A n c) (.slice B m d) 27
  have hb0 : Below w.heap.size w (w.alloc (.cells #[.slice A n c, .slice B m d] 27)) := (Below.refl _ _).alloc (Nat.le_refl _) _
  clear h
  go_enter Try.func60, Try.ntmps60
  go_wp2_with fail
  generalize w.alloc (.cells #[.slice A n c, .slice B m d] 27) = W at t0 hb0 ⊢
  refine Ord.wp_region_ord (fun w' => w'.cell? ⟨w.heap.size, 0, none⟩ = some (.slice A n c) ∧ w'.cell? ⟨w.heap.size, 1, none⟩ = some (.slice B m d)) [(0, true), (1, true), (3, true), (4, true), (2, false), (5, false), (6, true), (7, false), (8, true)] (by kernel_rfl) (by kernel_rfl) rfl (by kernel_rfl) (⟨t0.1, t0.2.1⟩) ?_
  simp only [Ord.ordOps, List.getElem?_toArray, List.getElem?_cons_zero, List.getElem?_cons_succ]
  have T0 := Lib.hid (show Two W.drew w.heap.size (.slice A n c) (.slice B m d) from t0)
  have HB0 := Lib.hid (show Below w.heap.size w W.drew from hb0.drew)
  have hz : w.heap.size < W.drew.heap.size := t0.2.2.2.2
  clear t0 hb0
  generalize W.drew = V0 at T0 HB0 hz ⊢
  repeat (first
    | (refine Ord.ord_plain (v := ?_) rfl (fun w' hS => ?_) ?_; rotate_left; (focus ((try dsimp only at hS); go_simp; first | done | with_reducible rfl)); simp only [Act.put, List.setIfInBounds_toArray, List.set_cons_zero, List.set_cons_succ])
    | (refine Ord.ord_skip (by rfl) ?_; simp only [Act.put, List.setIfInBounds_toArray, List.set_cons_zero, List.set_cons_succ])
    | (refine Ord.ord_take (v := ?_) (by rfl) (fun w' hS => ?_) ?_; rotate_left; (focus ((try dsimp only at hS); go_simp; first | done | with_reducible rfl)); simp only [Act.put, List.setIfInBounds_toArray, List.set_cons_zero, List.set_cons_succ]))
  refine Ord.ord_call (fun K hK => ?_)
  go_simp
  refine (lib_cloneB A n c 0 V0 k.1 hn H.out.l1 ((H.out.r1.below HB0.out (Nat.le_refl _)).wide (Nat.le_refl _) (Below.size HB0.out))).mono ?_
  rintro e w1 ⟨A1, c1, rfl, ho1, hb1⟩
  refine hK.out _ _ ⟨(Below.cell (p := ⟨w.heap.size, 0, none⟩) hb1 hz).trans T0.out.1, (Below.cell (p := ⟨w.heap.size, 1, none⟩) hb1 hz).trans T0.out.2.1⟩ ?_
  clear hK K
  repeat (first
    | (refine Ord.ord_plain (v := ?_) rfl (fun w' hS => ?_) ?_; rotate_left; (focus ((try dsimp only at hS); go_simp; first | done | with_reducible rfl)); simp only [Act.put, List.setIfInBounds_toArray, List.set_cons_zero, List.set_cons_succ])
    | (refine Ord.ord_skip (by rfl) ?_; simp only [Act.put, List.setIfInBounds_toArray, List.set_cons_zero, List.set_cons_succ])
    | (refine Ord.ord_take (v := ?_) (by rfl) (fun w' hS => ?_) ?_; rotate_left; (focus ((try dsimp only at hS); go_simp; first | done | with_reducible rfl)); simp only [Act.put, List.setIfInBounds_toArray, List.set_cons_zero, List.set_cons_succ]))
  refine Ord.ord_call (fun K hK => ?_)
  go_simp
  refine (lib_cloneS B m d 0 w1 k.2 hm H.out.l2 ((H.out.r2.below (btr HB0.out hb1) (Nat.le_refl _)).wide (Nat.le_refl _) (Below.size (btr HB0.out hb1)))).mono ?_
  rintro e w2 ⟨B1, d1, rfl, ho2, hb2⟩
  refine hK.out _ _ ⟨(Below.cell (p := ⟨w.heap.size, 0, none⟩) (btr hb1 hb2) hz).trans T0.out.1, (Below.cell (p := ⟨w.heap.size, 1, none⟩) (btr hb1 hb2) hz).trans T0.out.2.1⟩ ?_
  clear hK K
  repeat (first
    | (refine Ord.ord_plain (v := ?_) rfl (fun w' hS => ?_) ?_; rotate_left; (focus ((try dsimp only at hS); go_simp; first | done | with_reducible rfl)); simp only [Act.put, List.setIfInBounds_toArray, List.set_cons_zero, List.set_cons_succ])
    | (refine Ord.ord_skip (by rfl) ?_; simp only [Act.put, List.setIfInBounds_toArray, List.set_cons_zero, List.set_cons_succ])
    | (refine Ord.ord_take (v := ?_) (by rfl) (fun w' hS => ?_) ?_; rotate_left; (focus ((try dsimp only at hS); go_simp; first | done | with_reducible rfl)); simp only [Act.put, List.setIfInBounds_toArray, List.set_cons_zero, List.set_cons_succ]))
  refine Ord.ord_call (fun K hK => ?_)
  go_simp
  have hx1 := hb1.size
  have hx2 := hb2.size
  have hx0 := HB0.out.size
  have hk : KO w2 w.heap.size w2.heap.size k A1 B1 n m := ⟨H.out.l1, H.out.l2, (ho1.below hb2 (Nat.le_refl _)).wide (by omega) hx2, ho2.wide (by omega) (Nat.le_refl _), fun b h1 h2 => by have a1 := blks_in ho1 h1; have a2 := blks_in ho2 h2; omega⟩
  have hbA := (Below.refl w2.heap.size w2).alloc (Nat.le_refl _) (.cells #[.slice A1 n c1, .slice B1 m d1] 27)
  have hbw := btr HB0.out (btr hb1 hb2)
  have HP := Lib.hid (show Pt w (w2.alloc (.cells #[.slice A1 n c1, .slice B1 m d1] 27)) w2.heap.size n m c1 d1 A1 B1 k from ⟨Two.new w2 _ _ _, hk.below hbA (Nat.le_refl _), btr hbw hbA, by omega⟩)
  refine hK.out _ _ ⟨(Below.cell (p := ⟨w.heap.size, 0, none⟩) (btr hb1 (btr hb2 hbA)) hz).trans T0.out.1, (Below.cell (p := ⟨w.heap.size, 1, none⟩) (btr hb1 (btr hb2 hbA)) hz).trans T0.out.2.1⟩ ?_
  clear hK K hk hbA hbw hb1 hb2 ho1 ho2
  repeat (first
    | (refine Ord.ord_plain (v := ?_) rfl (fun w' hS => ?_) ?_; rotate_left; (focus ((try dsimp only at hS); go_simp; first | done | with_reducible rfl)); simp only [Act.put, List.setIfInBounds_toArray, List.set_cons_zero, List.set_cons_succ])
    | (refine Ord.ord_skip (by rfl) ?_; simp only [Act.put, List.setIfInBounds_toArray, List.set_cons_zero, List.set_cons_succ])
    | (refine Ord.ord_take (v := ?_) (by rfl) (fun w' hS => ?_) ?_; rotate_left; (focus ((try dsimp only at hS); go_simp; first | done | with_reducible rfl)); simp only [Act.put, List.setIfInBounds_toArray, List.set_cons_zero, List.set_cons_succ]))
  refine Ord.ord_nil ?_
  go_wp2_with fail
  go_ret
  exact ⟨_, _, _, _, _, rfl, HP.out⟩

theorem setK_no {page : Int} {b : Bool} {s : Sl} (h : hasK k page = false) : setK k page b s = k := by unfold setK; rw [h]; rfl
set_option maxRecDepth 100000 in
set_option maxHeartbeats 4000000 in
theorem impl_setK (page x y : Int) (b : Bool) (hn : n ≤ 1048576) (hm : m ≤ 1048576) (h : Pt w V z n m c d A B k) :
    Calls Try.prog 94 #[.pointer (some ⟨z, 0, none⟩), .int .i64 page, .agg #[.int .i64 x, .int .i64 y], .bool b] V (PtP w V z n m c d A B (setK k page b (x, y))) := by
  have t0 := Two.new V (.int .i64 x) (.int .i64 y) 36
  have hp := h.below ((Below.refl V.heap.size V).alloc (Nat.le_refl _) (.cells #[.int .i64 x, .int .i64 y] 36))
  have ht : Turned w.heap.size z V (V.alloc (.cells #[.int .i64 x, .int .i64 y] 36)) := turned_of ((Below.refl V.heap.size V).alloc (Nat.le_refl _) _)
  have l1 := h.ko.l1
  have l2 := h.ko.l2
  have hzV := h.lt
  clear h
  go_enter Try.func94, Try.ntmps94
  go_wp2_with fail
  generalize V.alloc (.cells #[.int .i64 x, .int .i64 y] 36) = W at t0 hp ht ⊢
  have hH := impl_hasK A B n m c d z k W page hn hm l1 l2 hp.bx
  cases hk : hasK k page
  · rw [hk] at hH
    have HP := Lib.hid hp
    have HT := Lib.hid ht
    have HE := Lib.hid (setK_no (b := b) (s := (x, y)) k hk)
    clear t0 hp hk ht
    refine hH.mono ?_
    clear hH
    rintro e w' ⟨rfl, rfl⟩
    go_wp2_with fail
    exact bodyPost_ret (v := .tuple #[]) (by simp [results, Try.results94, go_sem]) rfl ⟨rfl, by rw [HE.out]; exact HP.out, HT.out⟩
  · obtain ⟨h0, h1, h2⟩ := hasK_yes hk
    obtain ⟨j, rfl⟩ := Int.eq_ofNat_of_zero_le h0
    have hj1 : j < n := by omega
    have hj2 : j < m := by omega
    have hi0 : (0 : Int) ≤ (j : Int) := Int.natCast_nonneg _
    have hi1 : (j : Int) < (n : Int) := by omega
    have hi2 : (j : Int) < (m : Int) := by omega
    have HE := Lib.hid (show setK k (j : Int) b (x, y) = (k.1.set j b, k.2.set j (x, y)) by unfold setK; rw [hk]; rfl)
    rw [hk] at hH
    have HH := Lib.hid hH
    clear hH hk h0 h1 h2 l1 l2
    obtain ⟨b1, off, rfl, g1, hb1, g2⟩ := bool_at hp.ko.o1.1 j (by rw [hp.ko.l1]; exact hj1)
    obtain ⟨b2, off', rfl, g3, hb2, g4, g5⟩ := slot_at hp.ko.o2.1 j (by rw [hp.ko.l2]; exact hj2)
    have HP := Lib.hid (hp.below (Below.refl _ _).drew)
    have HT := Lib.hid (turned_drew ht)
    have hzz := hzV
    obtain ⟨q0, q1, g6, g7, g8⟩ := t0
    clear g2 g4 g5 g6 g7 hp ht
    refine HH.out.mono ?_
    rintro e w' ⟨rfl, rfl⟩
    go_wp2_with fail
    refine Ord.wp_region_ord (fun w' => w'.cell? ⟨z, 0, none⟩ = some (.slice (some ⟨b1, off, none⟩) n c) ∧ w'.cell? ⟨z, 1, none⟩ = some (.slice (some ⟨b2, off', none⟩) m d) ∧ w'.cell? ⟨V.heap.size, 0, none⟩ = some (.int .i64 x) ∧ w'.cell? ⟨V.heap.size, 1, none⟩ = some (.int .i64 y)) [(0, true), (1, true), (2, true), (3, true), (4, true), (5, true), (6, true), (7, false)] (by kernel_rfl) (by kernel_rfl) rfl (by kernel_rfl) (⟨HP.out.bx.1, HP.out.bx.2.1, q0, q1⟩) ?_
    simp only [Ord.ordOps, List.getElem?_toArray, List.getElem?_cons_zero, List.getElem?_cons_succ]
    generalize hWd : W.drew = V1 at HP HT ⊢
    have q0' : V1.cell? ⟨V.heap.size, 0, none⟩ = some (.int .i64 x) := by rw [← hWd]; exact q0
    have q1' : V1.cell? ⟨V.heap.size, 1, none⟩ = some (.int .i64 y) := by rw [← hWd]; exact q1
    clear q0 q1 hWd
    repeat (first
      | (refine Ord.ord_plain (v := ?_) rfl (fun w' hS => ?_) ?_; rotate_left; (focus ((try dsimp only at hS); go_simp; first | done | with_reducible rfl)); simp only [Act.put, List.setIfInBounds_toArray, List.set_cons_zero, List.set_cons_succ])
      | (refine Ord.ord_skip (by rfl) ?_; simp only [Act.put, List.setIfInBounds_toArray, List.set_cons_zero, List.set_cons_succ])
      | (refine Ord.ord_take (v := ?_) (by rfl) (fun w' hS => ?_) ?_; rotate_left; (focus ((try dsimp only at hS); go_simp; first | done | with_reducible rfl)); simp only [Act.put, List.setIfInBounds_toArray, List.set_cons_zero, List.set_cons_succ]))
    refine Ord.ord_call (fun K hK => ?_)
    go_simp
    obtain ⟨_, _, e, _, _, e2, e3⟩ := slot_at HP.out.ko.o2.1 j (by rw [HP.out.ko.l2]; exact hj2)
    cases e
    obtain ⟨v2, y2⟩ : ∃ u, V1.cell? ⟨b2, off' + j * 2, none⟩ = some u := ⟨_, e2⟩
    obtain ⟨v3, y3⟩ : ∃ u, V1.cell? ⟨b2, off' + j * 2 + 1, none⟩ = some u := ⟨_, e3⟩
    clear e2 e3
    have p2 : V1.frozen? ⟨b2, off' + j * 2, none⟩ = false := HP.out.ko.o2.2 b2 off' rfl (by rw [scells_len, HP.out.ko.l2]; omega) _
    have p3 : V1.frozen? ⟨b2, off' + j * 2 + 1, none⟩ = false := HP.out.ko.o2.2 b2 off' rfl (by rw [scells_len, HP.out.ko.l2]; omega) _
    go_simp
    have HP2 := Lib.hid (HP.out.put2 (x := x) (y := y) hj2)
    have HT2 := Lib.hid ((HT.out.setCell (off := off' + j * 2) g3 hb2 (.int .i64 x)).setCell (off := off' + j * 2 + 1) g3 hb2 (.int .i64 y))
    refine hK.out _ _ (⟨HP2.out.bx.1, HP2.out.bx.2.1, keep_at q0' (by omega), keep_at q1' (by omega)⟩) ?_
    clear hK K
    refine Ord.ord_nil ?_
    clear y2 y3 p2 p3 HP HT q0' q1'
    generalize (V1.setCell ⟨b2, off' + j * 2, none⟩ (.int .i64 x)).setCell ⟨b2, off' + j * 2 + 1, none⟩ (.int .i64 y) = V2 at HP2 HT2 ⊢
    obtain ⟨_, _, e, _, _, e1⟩ := bool_at HP2.out.ko.o1.1 j (by rw [HP2.out.ko.l1]; exact hj1)
    cases e
    obtain ⟨v1, y1⟩ : ∃ u, V2.cell? ⟨b1, off + j, none⟩ = some u := ⟨_, e1⟩
    clear e1
    have p1 : V2.frozen? ⟨b1, off + j, none⟩ = false := HP2.out.ko.o1.2 b1 off rfl (by rw [tcells_len, HP2.out.ko.l1]; omega) _
    obtain ⟨i0, i1, _, _, _⟩ := HP2.out.bx
    have HP3 := Lib.hid (HP2.out.put1 (x := b) hj1)
    have HT3 := Lib.hid (HT2.out.setCell (off := off + j) g1 hb1 (.bool b))
    go_wp2_with fail
    exact bodyPost_ret (v := .tuple #[]) (by simp [results, Try.results94, go_sem]) rfl ⟨rfl, by rw [HE.out]; exact HP3.out, HT3.out⟩
end
end Go.Proofs.Ytfgckkgakghenaa.Kepts
