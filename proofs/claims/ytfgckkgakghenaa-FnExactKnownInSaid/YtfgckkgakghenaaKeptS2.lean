/-
  Shadow tables: the given model's functions of chapter 7. No condition beyond a table's length.
-/
import Derived.Test.YtfgckkgakghenaaKeptSpec
namespace Go.Proofs.Ytfgckkgakghenaa.Kepts
set_option maxRecDepth 100000
open Go.ChangeShapes Go.WideShapes Go.ChangeAt Go.RowKit
open Go.Proofs.Ytfgckkgakghenaa.Base Go.Proofs.Ytfgckkgakghenaa.Mem Go.Proofs.Ytfgckkgakghenaa.Slots Go.Proofs.Ytfgckkgakghenaa.Bools Go.Proofs.Ytfgckkgakghenaa.Data
set_option linter.unusedVariables false
set_option linter.unusedSimpArgs false

theorem tcells_set (l : List Bool) (i : Nat) (b : Bool) : (tcells l).set i (.bool b) = tcells (l.set i b) := by simp [tcells, List.map_set]
section
variable {w : World} {lo hi n m : Nat} {A B : Option Addr} {k : KD}
/-- The one slice is written at an index, the other stays. -/
theorem KO.set1 {b off i : Nat} {x : Bool} (h : KO w lo hi k (some ⟨b, off, none⟩) B n m) (hin : i < n) : KO (w.setCell ⟨b, off + i, none⟩ (.bool x)) lo hi (k.1.set i x, k.2) (some ⟨b, off, none⟩) B n m := by
  have hne : tcells k.1 ≠ [] := fun e => by have := congrArg List.length e; rw [tcells_len, h.l1] at this; simp at this; omega
  have hb : b ∈ blks (some ⟨b, off, none⟩) (tcells k.1) := by simp [blks, hne]
  refine ⟨by simpa using h.l1, h.l2, ?_, ?_, ?_⟩
  · have := h.o1.set i (.bool x)
    rwa [tcells_set] at this
  · exact owned_agree h.o2 fun q hq => Below.heap_setCell w ⟨b, off + i, none⟩ _ q (by show q ≠ b; rintro rfl; exact h.dj _ hb hq)
  · intro q hq
    exact h.dj q (by rw [← blks_len (A := some ⟨b, off, none⟩) (cs := tcells (k.1.set i x)) (by rw [tcells_len, tcells_len, List.length_set])]; exact hq)
theorem KO.set2 {b off i : Nat} {x y : Int} (h : KO w lo hi k A (some ⟨b, off, none⟩) n m) (hin : i < m) :
    KO ((w.setCell ⟨b, off + i * 2, none⟩ (.int .i64 x)).setCell ⟨b, off + i * 2 + 1, none⟩ (.int .i64 y)) lo hi (k.1, k.2.set i (x, y)) A (some ⟨b, off, none⟩) n m := by
  have hne : scells k.2 ≠ [] := fun e => by have := congrArg List.length e; rw [scells_len, h.l2] at this; simp at this; omega
  have hb : b ∈ blks (some ⟨b, off, none⟩) (scells k.2) := by simp [blks, hne]
  refine ⟨h.l1, by simpa using h.l2, ?_, ?_, ?_⟩
  · exact owned_agree h.o1 fun q hq => (Below.heap_setCell _ ⟨b, off + i * 2 + 1, none⟩ _ q (by show q ≠ b; rintro rfl; exact h.dj _ hq hb)).trans (Below.heap_setCell w ⟨b, off + i * 2, none⟩ _ q (by show q ≠ b; rintro rfl; exact h.dj _ hq hb))
  · have := (h.o2.set (i * 2) (.int .i64 x)).set (i * 2 + 1) (.int .i64 y)
    rwa [← scells_set _ _ (by rw [h.l2]; exact hin), ← Nat.add_assoc] at this
  · intro q hq
    rw [blks_len (A := some ⟨b, off, none⟩) (cs := scells (k.2.set i (x, y))) (ds := scells k.2) (by rw [scells_len, scells_len, List.length_set])]
    exact h.dj q hq
end

section
variable (A B : Option Addr) (n m c d lo : Nat) (k : KD) (w : World)
set_option maxHeartbeats 1000000 in
theorem spec_has (page : Int) (hn : n ≤ 1048576) (hm : m ≤ 1048576) (l1 : k.1.length = n) (l2 : k.2.length = m) :
    Calls Try.prog 64 #[.agg #[.slice A n c, .slice B m d], .int .i64 page] w fun e w' => e = .returned (.bool (hasK k page)) ∧ Below w.heap.size w w' := by
  have HB := Lib.hid (show Below w.heap.size w (w.alloc (.cells #[.slice A n c, .slice B m d] 27)) from (Below.refl _ _).alloc (Nat.le_refl _) _)
  have hI := fun V : World => spec_in page 0 ((n : Int) - 1) V
  by_cases h : 0 ≤ page ∧ page < n
  · rw [show inB page 0 ((n : Int) - 1) = true from inB_iff.2 ⟨h.1, by omega⟩] at hI
    have HK := Lib.hid (show hasK k page = decide (page < m) by unfold hasK; rw [l1, l2]; simp [h.1, h.2])
    have HI := Lib.hid hI
    clear hI h l1 l2
    go_enter Try.func64, Try.ntmps64
    go_wp2_with (go_at_call 75; refine (HI.out _).mono ?_; rintro e w' ⟨rfl, rfl⟩)
    go_ret
    exact ⟨by rw [HK.out]; rfl, HB.out⟩
  · rw [show inB page 0 ((n : Int) - 1) = false from inB_false.2 (by omega)] at hI
    have HK := Lib.hid (show hasK k page = false by unfold hasK; rw [l1]; simp; omega)
    have HI := Lib.hid hI
    clear hI h l1 l2
    go_enter Try.func64, Try.ntmps64
    go_wp2_with (go_at_call 75; refine (HI.out _).mono ?_; rintro e w' ⟨rfl, rfl⟩)
    go_ret
    exact ⟨by rw [HK.out]; rfl, HB.out⟩

theorem known_snoc (l : List Bool) (i : Nat) (h : i < l.length) : (l.take (i + 1)).countP id = (l.take i).countP id + if l[i] = true then 1 else 0 := by
  rw [List.take_succ_eq_append_getElem h, List.countP_append]
  cases l[i] <;> simp
set_option maxHeartbeats 1000000 in
theorem spec_known (hn : n ≤ 1048576) (h : KR w lo w.heap.size k A B n m) :
    Calls Try.prog 35 #[.agg #[.slice A n c, .slice B m d]] w fun e w' => e = .returned (.int .i64 (knownK k)) ∧ Below w.heap.size w w' := by
  have hb0 : Below w.heap.size w (w.alloc (.cells #[.slice A n c, .slice B m d] 27)) := (Below.refl _ _).alloc (Nat.le_refl _) _
  obtain ⟨j0, j1, _, _, _⟩ := Two.new w (.slice A n c) (.slice B m d) 27
  have H := Lib.hid (h.below hb0 (Nat.le_refl _))
  have HB := Lib.hid hb0
  clear h hb0
  go_enter Try.func35, Try.ntmps35
  go_wp2_with fail
  generalize w.alloc (.cells #[.slice A n c, .slice B m d] 27) = W at j0 j1 H HB ⊢
  go_loop [3, 4] (fun q i => ∃ (j : Nat), j ≤ n ∧ i = .int .i64 j ∧ q = .int .i64 ((k.1.take j).countP id : Nat)) (fun _ i => n - (intOf i).toNat)
  case atStart => exact ⟨0, Nat.zero_le _, rfl, rfl⟩
  case round =>
    obtain ⟨j, hj, rfl, rfl⟩ := hrel
    by_cases hlt : j < n
    · have hjl : j < k.1.length := by have := H.out.l1; omega
      obtain ⟨b, off, rfl, _, hbw, c1⟩ := bool_at H.out.r1 j hjl
      have hi0 : (0 : Int) ≤ (j : Int) := Int.natCast_nonneg _
      have hi1 : (j : Int) < (n : Int) := by omega
      have hm : (k.1.take j).countP id ≤ 1048576 := by
        have := List.countP_le_length (p := id) (l := k.1.take j)
        simp at this; omega
      have HS := Lib.hid (known_snoc k.1 j hjl)
      cases hx : k.1[j]
      · rw [hx] at c1
        rw [hx] at HS
        go_wp2
        go_round
        case rel => exact ⟨j + 1, by omega, by go_num, by rw [HS.out]; simp⟩
        case measure => simp [intOf]; omega
      · rw [hx] at c1
        rw [hx] at HS
        go_wp2
        go_round
        case rel => exact ⟨j + 1, by omega, by go_num, by rw [HS.out, if_pos rfl]; go_num⟩
        case measure => simp [intOf]; omega
    · obtain rfl : j = n := by omega
      go_wp2
      go_ret
      exact ⟨by rw [List.take_of_length_le (by have := H.out.l1; omega)]; rfl, HB.out⟩

theorem made_bools (q : Nat) : (madeCells (Value.bool false).cells (q * 1)).toList = tcells (List.replicate q false) := by
  rw [Nat.mul_one]
  apply List.ext_getElem
  · simp [size_madeCells, tcells]
  · intro i h1 h2
    simp [madeCells, tcells, Value.cells, Nat.mod_one]
set_option maxHeartbeats 1000000 in
theorem spec_newKc (x : Int) : Calls Try.prog 37 #[.int .i64 x] w (KPc w (newN x) (newN x) (newK (newN x))) := by
  obtain ⟨i0, hi0, hz0, hz1, hz2⟩ := info_parts Try.infoBool
  have hb0 : Below w.heap.size w (w.alloc (.cells #[.slice none 0 0, .slice none 0 0] 27)) := (Below.refl _ _).alloc (Nat.le_refl _) _
  have t0 := Two.new w (.slice none 0 0) (.slice none 0 0) 27
  have hz : (w.alloc (.cells #[.slice none 0 0, .slice none 0 0] 27)).heap.size = w.heap.size + 1 := by simp
  have hq : newN x ≤ 24 := newN_le x
  have HQ := Lib.hid (show ∀ V, Calls Try.prog 73 #[.int .i64 x] V (RowPost V (newN x) (nosL (newN x))) from fun V => spec_new x V)
  generalize newN x = q at HQ hq ⊢
  go_enter Try.func37, Try.ntmps37
  go_wp2_with fail
  generalize w.alloc (.cells #[.slice none 0 0, .slice none 0 0] 27) = W at t0 hb0 hz ⊢
  refine (HQ.out _).mono ?_
  rintro e w1 ⟨ad, c1, rfl, hc1, ho1, hb1⟩
  have t1 := t0.below hb1
  have hx1 := hb1.size
  obtain ⟨wm, hmk, hown, hgm⟩ := run_make_full w1 w1.heap.size 24 4 i0 _ 1 Try.underlying24 hi0 hz0 hz1 .i64 .i64 q (by rw [hz2]; omega) (by simp only [maxLen]; omega) (Nat.le_refl _)
  rw [made_bools] at hown
  have hb2 : Below w1.heap.size w1 wm := (Below.refl _ _).grown hgm (Nat.le_refl _) (fun _ h => by cases h)
  obtain ⟨q0, q1, f0, f1, _⟩ := t1.below hb2
  have hx2 := hb2.size
  have hK : KO wm W.heap.size wm.heap.size (newK q) (some ⟨w1.heap.size, 0, none⟩) (some ad) q q :=
    ⟨by simp [newK], by simp [newK], (Owned.of_row hown).wide hx1 (Nat.le_refl _), (ho1.below hb2 (Nat.le_refl _)).wide (Nat.le_refl _) hx2, fun b h1 h2 => by
        have a1 := blks_in (Owned.of_row hown) (k := b) h1
        have a2 := blks_in ho1 h2
        omega⟩
  have HK := Lib.hid hK
  have HB := Lib.hid (show Below w.heap.size w wm from (hb0.trans (hb1.mono hb0.size)).trans (hb2.mono (by omega)))
  clear t0 t1 hb0 hb1 hb2 ho1 hown hgm hK hc1
  go_wp2_with fail
  exact bodyPost_ret (v := .agg #[.slice (some ⟨w1.heap.size, 0, none⟩) q q, .slice (some ad) q c1]) (by simp [results, Try.results37, go_sem, q0, q1]) rfl ⟨_, _, _, _, rfl, Nat.le_refl _, (copy_end HK.out (by omega)).wide (by omega) (by simp), set_two HB.out (by omega) _ _⟩
theorem spec_newK (x : Int) : Calls Try.prog 37 #[.int .i64 x] w (KP w (newN x) (newN x) (newK (newN x))) := (spec_newKc w x).mono KPc.kp

/-- What the law's frame knows of a box, a result's cell and a copy, in a world behind. -/
structure Fr (w : World) (z : Nat) (V : World) (u v : Value) (k : KD) (A B : Option Addr) (n m : Nat) : Prop where
  bx : Two V z u v
  rs : Two V (z + 1) (.slice none 0 0) (.slice none 0 0)
  ko : KO V (z + 2) V.heap.size k A B n m
  bw : Below z w V
theorem Fr.below {w V V' : World} {z : Nat} {u v : Value} {k : KD} {A B : Option Addr} {n m : Nat} (h : Fr w z V u v k A B n m) (hb : Below V.heap.size V V') : Fr w z V' u v k A B n m := by
  have hz := h.bx.2.2.2.2
  exact ⟨h.bx.below hb, h.rs.below hb, (h.ko.below hb (Nat.le_refl _)).wide (Nat.le_refl _) hb.size, h.bw.trans (hb.mono (by omega))⟩
theorem Fr.put1 {w V : World} {z : Nat} {u v : Value} {k : KD} {B : Option Addr} {n m b off i : Nat} {x : Bool} (h : Fr w z V u v k (some ⟨b, off, none⟩) B n m) (hi : i < n) : Fr w z (V.setCell ⟨b, off + i, none⟩ (.bool x)) u v (k.1.set i x, k.2) (some ⟨b, off, none⟩) B n m := by
  obtain ⟨b', off', e, h1, h2, _⟩ := bool_at h.ko.o1.1 i (by rw [h.ko.l1]; exact hi)
  cases e
  exact ⟨Two.other h.bx (by omega) _, Two.other h.rs (by omega) _, by simpa using h.ko.set1 hi, h.bw.setCell (p := ⟨b, off + i, none⟩) (show z ≤ b by omega) _⟩
theorem Fr.put2 {w V : World} {z : Nat} {u v : Value} {k : KD} {A : Option Addr} {n m b off i : Nat} {x y : Int} (h : Fr w z V u v k A (some ⟨b, off, none⟩) n m) (hi : i < m) :
    Fr w z ((V.setCell ⟨b, off + i * 2, none⟩ (.int .i64 x)).setCell ⟨b, off + i * 2 + 1, none⟩ (.int .i64 y)) u v (k.1, k.2.set i (x, y)) A (some ⟨b, off, none⟩) n m := by
  obtain ⟨b', off', e, h1, h2, _⟩ := slot_at h.ko.o2.1 i (by rw [h.ko.l2]; exact hi)
  cases e
  refine ⟨Two.other (Two.other h.bx (by omega) _) (by omega) _, Two.other (Two.other h.rs (by omega) _) (by omega) _, by simpa using h.ko.set2 hi, (h.bw.setCell (p := ⟨b, off + i * 2, none⟩) (show z ≤ b by omega) _).setCell (p := ⟨b, off + i * 2 + 1, none⟩) (show z ≤ b by omega) _⟩
/-- The copy is kept in the box. -/
theorem Fr.keep {w V : World} {z : Nat} {u v u' v' : Value} {k : KD} {A B : Option Addr} {n m : Nat} (h : Fr w z V u v k A B n m) : Fr w z ((V.setCell ⟨z, 0, none⟩ u').setCell ⟨z, 1, none⟩ v') u' v' k A B n m :=
  ⟨Two.set1 (Two.set0 h.bx), Two.other (Two.other h.rs (by omega) _) (by omega) _, by have := copy_end (u := u') (v := v') h.ko (show z < z + 2 by omega); simpa using this, set_two h.bw (Nat.le_refl _) _ _⟩
/-- The result's cells are set and it is handed back. -/
theorem Fr.done {w V : World} {u v u' v' : Value} {k : KD} {A B : Option Addr} {n m : Nat} (h : Fr w w.heap.size V u v k A B n m) :
    KO ((V.setCell ⟨w.heap.size + 1, 0, none⟩ u').setCell ⟨w.heap.size + 1, 1, none⟩ v') w.heap.size ((V.setCell ⟨w.heap.size + 1, 0, none⟩ u').setCell ⟨w.heap.size + 1, 1, none⟩ v').heap.size k A B n m ∧
    Below w.heap.size w ((V.setCell ⟨w.heap.size + 1, 0, none⟩ u').setCell ⟨w.heap.size + 1, 1, none⟩ v') :=
  ⟨(copy_end h.ko (by omega)).wide (by omega) (by simp), set_two h.bw (by omega) _ _⟩

set_option maxRecDepth 100000 in
set_option maxHeartbeats 4000000 in
theorem spec_forget (page : Int) (hn : n ≤ 1048576) (hm : m ≤ 1048576) (h : KR w 0 w.heap.size k A B n m) :
    Calls Try.prog 29 #[.agg #[.slice A n c, .slice B m d], .int .i64 page] w (KP w n m (forgetK k page)) := by
  obtain ⟨t1, t2, hb2⟩ := two_two w (.slice A n c) (.slice B m d) (.slice none 0 0) (.slice none 0 0) 27 27
  have hsz : ((w.alloc (.cells #[.slice A n c, .slice B m d] 27)).alloc (.cells #[.slice none 0 0, .slice none 0 0] 27)).heap.size = w.heap.size + 2 := by simp
  have H := Lib.hid h
  clear h
  go_enter Try.func29, Try.ntmps29
  go_wp2_with fail
  generalize (w.alloc (.cells #[.slice A n c, .slice B m d] 27)).alloc (.cells #[.slice none 0 0, .slice none 0 0] 27) = W at t1 t2 hb2 hsz ⊢
  refine (spec_copy A B n m c d k W hn hm ((H.out.below hb2 (Nat.le_refl _)).wide (Nat.le_refl _) hb2.size)).mono ?_
  rintro e w1 ⟨A1, c1, B1, d1, rfl, hk1, hb1⟩
  have F1 : Fr w w.heap.size w1 (.slice A n c) (.slice B m d) k A1 B1 n m := ⟨t1.below hb1, t2.below hb1, hk1.wide (by omega) (Nat.le_refl _), hb2.trans (hb1.mono hb2.size)⟩
  have F2 := F1.keep (u' := .slice A1 n c1) (v' := .slice B1 m d1)
  obtain ⟨j0, j1, f0, f1, _⟩ := F1.bx
  obtain ⟨i0, i1, _, _, _⟩ := F2.bx
  have HF := Lib.hid F2
  clear t1 t2 hb2 hb1 hk1 F1 F2
  go_wp2_with fail
  generalize ((w1.setCell ⟨w.heap.size, 0, none⟩ (.slice A1 n c1)).setCell ⟨w.heap.size, 1, none⟩ (.slice B1 m d1)) = W2 at i0 i1 HF ⊢
  have hH := fun V : World => spec_has A1 B1 n m c1 d1 k V page hn hm H.out.l1 H.out.l2
  cases hp : hasK k page
  · rw [hp] at hH
    have HH := Lib.hid hH
    have HE := Lib.hid (show forgetK k page = k by unfold forgetK; rw [hp]; rfl)
    clear hH hp
    refine (HH.out _).mono ?_
    rintro e w2 ⟨rfl, hb2⟩
    have F3 := HF.out.below hb2
    obtain ⟨i0, i1, _, _, _⟩ := F3.bx
    obtain ⟨q0, q1, g0, g1, _⟩ := F3.rs
    have HF3 := Lib.hid F3
    clear hb2 F3
    go_wp2_with fail
    exact bodyPost_ret (v := .agg #[.slice A1 n c1, .slice B1 m d1]) (by simp [results, Try.results29, go_sem, q0, q1]) rfl ⟨_, _, _, _, rfl, by rw [HE.out]; exact HF3.out.done.1, HF3.out.done.2⟩
  · obtain ⟨h0, h1, h2⟩ := hasK_yes hp
    obtain ⟨j, rfl⟩ := Int.eq_ofNat_of_zero_le h0
    have hj1 : j < n := by have := H.out.l1; omega
    have hj2 : j < m := by have := H.out.l2; omega
    have hi0 : (0 : Int) ≤ (j : Int) := Int.natCast_nonneg _
    have hi1 : (j : Int) < (n : Int) := by omega
    have hi2 : (j : Int) < (m : Int) := by omega
    rw [hp] at hH
    have HH := Lib.hid hH
    have HE := Lib.hid (show forgetK k (j : Int) = (k.1.set j false, k.2.set j (-1, 0)) by unfold forgetK; rw [hp]; rfl)
    clear hH hp h0 h1 h2
    refine (HH.out _).mono ?_
    rintro e w2 ⟨rfl, hb2⟩
    have F3 := HF.out.below hb2
    obtain ⟨b, off, rfl, _, _, y1⟩ := bool_at F3.ko.o1.1 j (by rw [F3.ko.l1]; exact hj1)
    obtain ⟨v1, e1⟩ : ∃ u, w2.cell? ⟨b, off + j, none⟩ = some u := ⟨_, y1⟩
    clear y1
    obtain ⟨b', off', rfl, _, _, e2, e3⟩ := slot_at F3.ko.o2.1 j (by rw [F3.ko.l2]; exact hj2)
    have p1 : w2.frozen? ⟨b, off + j, none⟩ = false := F3.ko.o1.2 b off rfl (by rw [tcells_len, F3.ko.l1]; omega) _
    have F4 := F3.put1 (x := false) hj1
    obtain ⟨i0, i1, _, _, _⟩ := F3.bx
    have HF4 := Lib.hid F4
    clear hb2 F3 F4 HF e2 e3
    go_wp2_with fail
    generalize w2.setCell ⟨b, off + j, none⟩ (.bool false) = W4 at HF4 ⊢
    have s0 := HF4.out.bx.1
    have s1 := HF4.out.bx.2.1
    clear i0 i1 e1 p1
    refine Ord.wp_region_ord (fun w' => w'.cell? ⟨w.heap.size, 0, none⟩ = some (.slice (some ⟨b, off, none⟩) n c1) ∧ w'.cell? ⟨w.heap.size, 1, none⟩ = some (.slice (some ⟨b', off', none⟩) m d1)) [(0, true), (1, true), (2, true), (3, false), (4, true), (5, false)] (by kernel_rfl) (by kernel_rfl) rfl (by kernel_rfl) (⟨s0, s1⟩) ?_
    simp only [Ord.ordOps, List.getElem?_toArray, List.getElem?_cons_zero, List.getElem?_cons_succ]
    repeat (first
      | (refine Ord.ord_plain (v := ?_) rfl (fun w' hS => ?_) ?_; rotate_left; (focus ((try dsimp only at hS); go_simp; first | done | with_reducible rfl)); simp only [Act.put, List.setIfInBounds_toArray, List.set_cons_zero, List.set_cons_succ])
      | (refine Ord.ord_skip (by rfl) ?_; simp only [Act.put, List.setIfInBounds_toArray, List.set_cons_zero, List.set_cons_succ])
      | (refine Ord.ord_take (v := ?_) (by rfl) (fun w' hS => ?_) ?_; rotate_left; (focus ((try dsimp only at hS); go_simp; first | done | with_reducible rfl)); simp only [Act.put, List.setIfInBounds_toArray, List.set_cons_zero, List.set_cons_succ]))
    refine Ord.ord_call (fun K hK => ?_)
    go_simp
    refine (spec_no _).mono ?_
    rintro e w5 ⟨rfl, hb5⟩
    have F5 := (HF4.out.below ((Below.refl _ _).drew)).below hb5
    obtain ⟨b2, off2, e, _, _, e2, e3⟩ := slot_at F5.ko.o2.1 j (by rw [F5.ko.l2]; exact hj2)
    cases e
    obtain ⟨v2, y2⟩ : ∃ u, w5.cell? ⟨b', off' + j * 2, none⟩ = some u := ⟨_, e2⟩
    obtain ⟨v3, y3⟩ : ∃ u, w5.cell? ⟨b', off' + j * 2 + 1, none⟩ = some u := ⟨_, e3⟩
    clear e2 e3
    have p2 : w5.frozen? ⟨b', off' + j * 2, none⟩ = false := F5.ko.o2.2 b' off' rfl (by rw [scells_len, F5.ko.l2]; omega) _
    have p3 : w5.frozen? ⟨b', off' + j * 2 + 1, none⟩ = false := F5.ko.o2.2 b' off' rfl (by rw [scells_len, F5.ko.l2]; omega) _
    have F6 := F5.put2 (x := (-1)) (y := 0) hj2
    have HF5 := Lib.hid F5
    have HF6 := Lib.hid F6
    clear hb5 F5 F6 HF4
    refine hK.out _ _ (⟨HF5.out.bx.1, HF5.out.bx.2.1⟩) ?_
    clear hK K
    repeat (first
      | (refine Ord.ord_plain (v := ?_) rfl (fun w' hS => ?_) ?_; rotate_left; (focus ((try dsimp only at hS); go_simp; first | done | with_reducible rfl)); simp only [Act.put, List.setIfInBounds_toArray, List.set_cons_zero, List.set_cons_succ])
      | (refine Ord.ord_skip (by rfl) ?_; simp only [Act.put, List.setIfInBounds_toArray, List.set_cons_zero, List.set_cons_succ])
      | (refine Ord.ord_take (v := ?_) (by rfl) (fun w' hS => ?_) ?_; rotate_left; (focus ((try dsimp only at hS); go_simp; first | done | with_reducible rfl)); simp only [Act.put, List.setIfInBounds_toArray, List.set_cons_zero, List.set_cons_succ]))
    refine Ord.ord_call (fun K hK => ?_)
    go_simp
    refine hK.out _ _ (⟨HF6.out.bx.1, HF6.out.bx.2.1⟩) ?_
    clear hK K
    refine Ord.ord_nil ?_
    clear y2 y3 p2 p3 s0 s1 HF5
    generalize (w5.setCell ⟨b', off' + j * 2, none⟩ (.int .i64 (-1))).setCell ⟨b', off' + j * 2 + 1, none⟩ (.int .i64 0) = W6 at HF6 ⊢
    obtain ⟨i0, i1, _, _, _⟩ := HF6.out.bx
    obtain ⟨q0, q1, g0, g1, _⟩ := HF6.out.rs
    go_wp2_with fail
    exact bodyPost_ret (v := .agg #[.slice (some ⟨b, off, none⟩) n c1, .slice (some ⟨b', off', none⟩) m d1]) (by simp [results, Try.results29, go_sem, q0, q1]) rfl ⟨_, _, _, _, rfl, by rw [HE.out]; exact HF6.out.done.1, HF6.out.done.2⟩

set_option maxRecDepth 100000 in
set_option maxHeartbeats 4000000 in
theorem spec_fillc (C D : Option Addr) (n2 m2 c2 d2 : Nat) (page : Int) (l o : List Sl) (hn : n ≤ 1048576) (hm : m ≤ 1048576) (hn2 : n2 ≤ 1048576) (hm2 : m2 ≤ 1048576) (hl : l.length = n2) (ho : o.length = m2)
    (h : KR w 0 w.heap.size k A B n m) (hC : Lies w 0 w.heap.size C (scells l)) (hD : Lies w 0 w.heap.size D (scells o)) :
    Calls Try.prog 18 #[.agg #[.slice A n c, .slice B m d], .slice C n2 c2, .slice D m2 d2, .int .i64 page] w (KPc w n m (fillK k l o page)) := by
  obtain ⟨t1, t2, hb2⟩ := two_two w (.slice A n c) (.slice B m d) (.slice none 0 0) (.slice none 0 0) 27 27
  have hsz : ((w.alloc (.cells #[.slice A n c, .slice B m d] 27)).alloc (.cells #[.slice none 0 0, .slice none 0 0] 27)).heap.size = w.heap.size + 2 := by simp
  have H := Lib.hid h
  have HC := Lib.hid hC
  have HL := Lib.hid hl
  have HD := Lib.hid (show ∀ V, Below w.heap.size w V → Lies V 0 V.heap.size D (scells o) from fun V hb => (hD.below hb (Nat.le_refl _)).wide (Nat.le_refl _) hb.size)
  have HO := Lib.hid ho
  clear h hC hD hl ho
  go_enter Try.func18, Try.ntmps18
  go_wp2_with fail
  generalize (w.alloc (.cells #[.slice A n c, .slice B m d] 27)).alloc (.cells #[.slice none 0 0, .slice none 0 0] 27) = W at t1 t2 hb2 hsz ⊢
  refine (spec_copyc A B n m c d k W hn hm ((H.out.below hb2 (Nat.le_refl _)).wide (Nat.le_refl _) hb2.size)).mono ?_
  rintro e w1 ⟨A1, c1, B1, d1, rfl, hcap, hk1, hb1⟩
  have F1 : Fr w w.heap.size w1 (.slice A n c) (.slice B m d) k A1 B1 n m := ⟨t1.below hb1, t2.below hb1, hk1.wide (by omega) (Nat.le_refl _), hb2.trans (hb1.mono hb2.size)⟩
  have F2 := F1.keep (u' := .slice A1 n c1) (v' := .slice B1 m d1)
  obtain ⟨j0, j1, f0, f1, _⟩ := F1.bx
  obtain ⟨i0, i1, _, _, _⟩ := F2.bx
  have HF := Lib.hid F2
  clear t1 t2 hb2 hb1 hk1 F1 F2
  go_wp2_with fail
  generalize ((w1.setCell ⟨w.heap.size, 0, none⟩ (.slice A1 n c1)).setCell ⟨w.heap.size, 1, none⟩ (.slice B1 m d1)) = W2 at i0 i1 HF ⊢
  have hH := fun V : World => spec_has A1 B1 n m c1 d1 k V page hn hm H.out.l1 H.out.l2
  by_cases hpl : hasK k page = true ∧ page < n2
  · obtain ⟨hp, hpn⟩ := hpl
    obtain ⟨h0, h1, h2⟩ := hasK_yes hp
    obtain ⟨j, rfl⟩ := Int.eq_ofNat_of_zero_le h0
    have hj1 : j < n := by have := H.out.l1; omega
    have hj2 : j < m := by have := H.out.l2; omega
    have hi0 : (0 : Int) ≤ (j : Int) := Int.natCast_nonneg _
    have hi1 : (j : Int) < (n : Int) := by omega
    have hi2 : (j : Int) < (m : Int) := by omega
    rw [hp] at hH
    have HH := Lib.hid hH
    have hjn : j < n2 := by omega
    have hjl : j < l.length := by rw [HL.out]; exact hjn
    obtain ⟨bi, oi, e0, _, hbi, ci0, ci1⟩ := slot_at HC.out j hjl
    subst e0
    have he := show fillK k l o (j : Int) = (k.1.set j true, k.2.set j (compS l[j] o)) by unfold fillK; rw [if_pos ⟨hp, by omega⟩, atS_at hjl]; rfl
    obtain ⟨⟨x, y⟩, hxy⟩ : ∃ s, s = l[j] := ⟨_, rfl⟩
    rw [← hxy] at ci0 ci1 he
    dsimp only at ci0 ci1
    clear hxy
    have HI := Lib.hid (show ∀ V, Below w.heap.size w V → V.cell? ⟨bi, oi + j * 2, none⟩ = some (.int .i64 x) ∧ V.cell? ⟨bi, oi + j * 2 + 1, none⟩ = some (.int .i64 y) from fun V hb => ⟨(hb.cell hbi).trans ci0, (hb.cell hbi).trans ci1⟩)
    have hK := fun V (h : Lies V 0 V.heap.size D (scells o)) => spec_compSlot D m2 d2 x y o V hm2 HO.out h
    generalize compS (x, y) o = s at hK he
    obtain ⟨cx, cy⟩ := s
    have HK := Lib.hid hK
    have HE := Lib.hid he
    clear hK he ci0 ci1
    clear hH hp h0 h1 h2
    refine (HH.out _).mono ?_
    rintro e w2 ⟨rfl, hb2⟩
    have F3 := HF.out.below hb2
    obtain ⟨b, off, rfl, _, _, y1⟩ := bool_at F3.ko.o1.1 j (by rw [F3.ko.l1]; exact hj1)
    obtain ⟨v1, e1⟩ : ∃ u, w2.cell? ⟨b, off + j, none⟩ = some u := ⟨_, y1⟩
    clear y1
    obtain ⟨b', off', rfl, _, _, e2, e3⟩ := slot_at F3.ko.o2.1 j (by rw [F3.ko.l2]; exact hj2)
    have p1 : w2.frozen? ⟨b, off + j, none⟩ = false := F3.ko.o1.2 b off rfl (by rw [tcells_len, F3.ko.l1]; omega) _
    have F4 := F3.put1 (x := true) hj1
    obtain ⟨i0, i1, _, _, _⟩ := F3.bx
    have HF4 := Lib.hid F4
    clear hb2 F3 F4 HF e2 e3
    go_wp2_with fail
    generalize w2.setCell ⟨b, off + j, none⟩ (.bool true) = W4 at HF4 ⊢
    have s0 := HF4.out.bx.1
    have s1 := HF4.out.bx.2.1
    clear i0 i1 e1 p1
    refine Ord.wp_region_ord (fun w' => w'.cell? ⟨w.heap.size, 0, none⟩ = some (.slice (some ⟨b, off, none⟩) n c1) ∧ w'.cell? ⟨w.heap.size, 1, none⟩ = some (.slice (some ⟨b', off', none⟩) m d1) ∧ w'.cell? ⟨bi, oi + j * 2, none⟩ = some (.int .i64 x) ∧ w'.cell? ⟨bi, oi + j * 2 + 1, none⟩ = some (.int .i64 y)) [(0, true), (1, true), (2, true), (3, true), (4, true), (5, true), (6, true), (7, true), (8, false), (9, true), (10, false)] (by kernel_rfl) (by kernel_rfl) rfl (by kernel_rfl) (⟨s0, s1, (HI.out _ HF4.out.bw).1, (HI.out _ HF4.out.bw).2⟩) ?_
    simp only [Ord.ordOps, List.getElem?_toArray, List.getElem?_cons_zero, List.getElem?_cons_succ]
    repeat (first
      | (refine Ord.ord_plain (v := ?_) rfl (fun w' hS => ?_) ?_; rotate_left; (focus ((try dsimp only at hS); go_simp; first | done | with_reducible rfl)); simp only [Act.put, List.setIfInBounds_toArray, List.set_cons_zero, List.set_cons_succ])
      | (refine Ord.ord_skip (by rfl) ?_; simp only [Act.put, List.setIfInBounds_toArray, List.set_cons_zero, List.set_cons_succ])
      | (refine Ord.ord_take (v := ?_) (by rfl) (fun w' hS => ?_) ?_; rotate_left; (focus ((try dsimp only at hS); go_simp; first | done | with_reducible rfl)); simp only [Act.put, List.setIfInBounds_toArray, List.set_cons_zero, List.set_cons_succ]))
    refine Ord.ord_call (fun K hK => ?_)
    go_simp
    refine (HK.out _ (HD.out _ (HF4.out.below ((Below.refl _ _).drew)).bw)).mono ?_
    rintro e w5 ⟨rfl, hb5⟩
    have F5 := (HF4.out.below ((Below.refl _ _).drew)).below hb5
    obtain ⟨b2, off2, e, _, _, e2, e3⟩ := slot_at F5.ko.o2.1 j (by rw [F5.ko.l2]; exact hj2)
    cases e
    obtain ⟨v2, y2⟩ : ∃ u, w5.cell? ⟨b', off' + j * 2, none⟩ = some u := ⟨_, e2⟩
    obtain ⟨v3, y3⟩ : ∃ u, w5.cell? ⟨b', off' + j * 2 + 1, none⟩ = some u := ⟨_, e3⟩
    clear e2 e3
    have p2 : w5.frozen? ⟨b', off' + j * 2, none⟩ = false := F5.ko.o2.2 b' off' rfl (by rw [scells_len, F5.ko.l2]; omega) _
    have p3 : w5.frozen? ⟨b', off' + j * 2 + 1, none⟩ = false := F5.ko.o2.2 b' off' rfl (by rw [scells_len, F5.ko.l2]; omega) _
    have F6 := F5.put2 (x := cx) (y := cy) hj2
    have HF5 := Lib.hid F5
    have HF6 := Lib.hid F6
    clear hb5 F5 F6 HF4
    refine hK.out _ _ (⟨HF5.out.bx.1, HF5.out.bx.2.1, (HI.out _ HF5.out.bw).1, (HI.out _ HF5.out.bw).2⟩) ?_
    clear hK K
    repeat (first
      | (refine Ord.ord_plain (v := ?_) rfl (fun w' hS => ?_) ?_; rotate_left; (focus ((try dsimp only at hS); go_simp; first | done | with_reducible rfl)); simp only [Act.put, List.setIfInBounds_toArray, List.set_cons_zero, List.set_cons_succ])
      | (refine Ord.ord_skip (by rfl) ?_; simp only [Act.put, List.setIfInBounds_toArray, List.set_cons_zero, List.set_cons_succ])
      | (refine Ord.ord_take (v := ?_) (by rfl) (fun w' hS => ?_) ?_; rotate_left; (focus ((try dsimp only at hS); go_simp; first | done | with_reducible rfl)); simp only [Act.put, List.setIfInBounds_toArray, List.set_cons_zero, List.set_cons_succ]))
    refine Ord.ord_call (fun K hK => ?_)
    go_simp
    refine hK.out _ _ (⟨HF6.out.bx.1, HF6.out.bx.2.1, (HI.out _ HF6.out.bw).1, (HI.out _ HF6.out.bw).2⟩) ?_
    clear hK K
    refine Ord.ord_nil ?_
    clear y2 y3 p2 p3 s0 s1 HF5
    generalize (w5.setCell ⟨b', off' + j * 2, none⟩ (.int .i64 cx)).setCell ⟨b', off' + j * 2 + 1, none⟩ (.int .i64 cy) = W6 at HF6 ⊢
    obtain ⟨i0, i1, _, _, _⟩ := HF6.out.bx
    obtain ⟨q0, q1, g0, g1, _⟩ := HF6.out.rs
    go_wp2_with fail
    exact bodyPost_ret (v := .agg #[.slice (some ⟨b, off, none⟩) n c1, .slice (some ⟨b', off', none⟩) m d1]) (by simp [results, Try.results18, go_sem, q0, q1]) rfl ⟨_, _, _, _, rfl, hcap, by rw [HE.out]; exact HF6.out.done.1, HF6.out.done.2⟩
  · have HE := Lib.hid (show fillK k l o page = k by unfold fillK; rw [if_neg (by rw [HL.out]; exact hpl)])
    cases hp : hasK k page
    · rw [hp] at hH
      have HH := Lib.hid hH
      clear hH hp hpl
      refine (HH.out _).mono ?_
      rintro e w2 ⟨rfl, hb2⟩
      have F3 := HF.out.below hb2
      obtain ⟨i0, i1, _, _, _⟩ := F3.bx
      obtain ⟨q0, q1, g0, g1, _⟩ := F3.rs
      have HF3 := Lib.hid F3
      clear hb2 F3
      go_wp2_with fail
      exact bodyPost_ret (v := .agg #[.slice A1 n c1, .slice B1 m d1]) (by simp [results, Try.results18, go_sem, q0, q1]) rfl ⟨_, _, _, _, rfl, hcap, by rw [HE.out]; exact HF3.out.done.1, HF3.out.done.2⟩
    · have hpn : ¬ page < n2 := fun x => hpl ⟨hp, x⟩
      rw [hp] at hH
      have HH := Lib.hid hH
      clear hH hp hpl
      refine (HH.out _).mono ?_
      rintro e w2 ⟨rfl, hb2⟩
      have F3 := HF.out.below hb2
      obtain ⟨i0, i1, _, _, _⟩ := F3.bx
      obtain ⟨q0, q1, g0, g1, _⟩ := F3.rs
      have HF3 := Lib.hid F3
      clear hb2 F3
      go_wp2_with fail
      exact bodyPost_ret (v := .agg #[.slice A1 n c1, .slice B1 m d1]) (by simp [results, Try.results18, go_sem, q0, q1]) rfl ⟨_, _, _, _, rfl, hcap, by rw [HE.out]; exact HF3.out.done.1, HF3.out.done.2⟩
theorem spec_fill (C D : Option Addr) (n2 m2 c2 d2 : Nat) (page : Int) (l o : List Sl) (hn : n ≤ 1048576) (hm : m ≤ 1048576) (hn2 : n2 ≤ 1048576) (hm2 : m2 ≤ 1048576) (hl : l.length = n2) (ho : o.length = m2)
    (h : KR w 0 w.heap.size k A B n m) (hC : Lies w 0 w.heap.size C (scells l)) (hD : Lies w 0 w.heap.size D (scells o)) :
    Calls Try.prog 18 #[.agg #[.slice A n c, .slice B m d], .slice C n2 c2, .slice D m2 d2, .int .i64 page] w (KP w n m (fillK k l o page)) := (spec_fillc A B n m c d k w C D n2 m2 c2 d2 page l o hn hm hn2 hm2 hl ho h hC hD).mono KPc.kp
end
end Go.Proofs.Ytfgckkgakghenaa.Kepts
