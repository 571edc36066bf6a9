/-
  The buffer of entries: the project's comparison of an entry, FindEntry and BufferOk. No condition beyond a buffer's length and its numbers being of an int's range.
-/
import Derived.Test.YtmfileflmpmkpaaEntPut
import Derived.Test.YtmfileflmpmkpaaEntOk
namespace Go.Proofs.Ytmfileflmpmkpaa.Ents
set_option maxRecDepth 100000
open Go.ChangeShapes Go.WideShapes Go.ChangeAt Go.RowKit
open Go.Proofs.Ytmfileflmpmkpaa.Base Go.Proofs.Ytmfileflmpmkpaa.Mem Go.Proofs.Ytmfileflmpmkpaa.Data
set_option linter.unusedVariables false
set_option linter.unusedSimpArgs false

def YesP (w : World) (b : Bool) (e : Ending) (w' : World) : Prop := e = .returned (.bool b) ∧ Below w.heap.size w w'
set_option maxHeartbeats 2000000 in
theorem impl_translates (x0 x1 x2 x3 t p : Int) (w : World) :
    Calls Try.prog 50 #[.agg #[.int .i64 x0, .int .i64 x1, .int .i64 x2, .int .i64 x3], .int .i64 t, .int .i64 p] w (YesP w (isE (x0, x1, x2, x3) t p)) := by
  have hb0 : Below w.heap.size w (w.alloc (.cells #[.int .i64 x0, .int .i64 x1, .int .i64 x2, .int .i64 x3] 26)) := (Below.refl _ _).alloc (Nat.le_refl _) _
  obtain ⟨q0, q1, _⟩ := Four.new w (x0, x1, x2, x3) 26
  by_cases hx : x0 = t
  · subst hx
    by_cases hy : x1 = p
    · subst hy
      rw [show isE (x0, x1, x2, x3) x0 x1 = true by simp [isE]]
      go_enter Try.func50, Try.ntmps50
      go_wp2
      go_ret
      exact ⟨rfl, hb0⟩
    · have hy' : (x1 == p) = false := by simpa using hy
      rw [show isE (x0, x1, x2, x3) x0 p = false by simpa [isE] using hy]
      clear hy
      go_enter Try.func50, Try.ntmps50
      go_wp2
      go_ret
      exact ⟨rfl, hb0⟩
  · have hx' : (x0 == t) = false := by simpa using hx
    rw [show isE (x0, x1, x2, x3) t p = false by simp [isE, hx]]
    clear hx
    go_enter Try.func50, Try.ntmps50
    go_wp2
    go_ret
    exact ⟨rfl, hb0⟩

/-- A variable of four cells made behind what was. -/
theorem four_made {w V : World} (h : Below w.heap.size w V) (s : ET) (T : TypeId) :
    Four (V.alloc (.cells #[.int .i64 s.1, .int .i64 s.2.1, .int .i64 s.2.2.1, .int .i64 s.2.2.2] T)) V.heap.size s ∧ Below w.heap.size w (V.alloc (.cells #[.int .i64 s.1, .int .i64 s.2.1, .int .i64 s.2.2.1, .int .i64 s.2.2.2] T)) :=
  ⟨Four.new V s T, h.alloc h.size _⟩

set_option maxHeartbeats 4000000 in
theorem impl_findE (A : Option Addr) (n c : Nat) (l : List ET) (w : World) (t p : Int) (hn : n ≤ 1048576) (hl : l.length = n) (h1 : Lies w 0 w.heap.size A (ecells l)) :
    Calls Try.prog 21 #[.slice A n c, .int .i64 t, .int .i64 p] w (EntP w (findE l t p)) := by
  have hb0 : Below w.heap.size w (w.alloc (.cells #[.int .i64 0, .int .i64 0, .int .i64 0, .int .i64 0] 26)) := (Below.refl _ _).alloc (Nat.le_refl _) _
  have t0 := Four.new w noE 26
  have hz : (w.alloc (.cells #[.int .i64 0, .int .i64 0, .int .i64 0, .int .i64 0] 26)).heap.size = w.heap.size + 1 := by simp
  have H1 := Lib.hid ((h1.below hb0 (Nat.le_refl _)).wide (Nat.le_refl _) hb0.size)
  have HL := Lib.hid hl
  have HB := Lib.hid hb0
  clear h1 hl hb0
  go_enter Try.func21, Try.ntmps21
  go_wp2_with fail
  change Four (w.alloc (.cells #[.int .i64 0, .int .i64 0, .int .i64 0, .int .i64 0] 26)) w.heap.size noE at t0
  generalize w.alloc (.cells #[.int .i64 0, .int .i64 0, .int .i64 0, .int .i64 0] 26) = W at t0 H1 HB hz ⊢
  have HT := Lib.hid t0
  clear t0
  go_loopw [12] (fun i wr => ∃ (k : Nat), k ≤ n ∧ i = .int .i64 k ∧ (l.take k).find? (fun e => isE e t p) = none ∧ Below W.heap.size W wr) (fun i _ => n - (intOf i).toNat)
  case atStart => exact ⟨0, Nat.zero_le _, rfl, by simp, Below.refl _ _⟩
  case round =>
    obtain ⟨k, hk, rfl, hf, hb⟩ := hrel
    have HF := Lib.hid hf
    clear hf
    by_cases hlt : k < n
    · have hkl : k < l.length := by have := HL.out; omega
      obtain ⟨b, off, rfl, _, hbw, c0, c1, c2, c3⟩ := e_at H1.out k hkl
      have d0 := (hb.cell (p := ⟨b, off + k * 4, none⟩) hbw).trans c0
      have d1 := (hb.cell (p := ⟨b, off + k * 4 + 1, none⟩) hbw).trans c1
      have d2 := (hb.cell (p := ⟨b, off + k * 4 + 2, none⟩) hbw).trans c2
      have d3 := (hb.cell (p := ⟨b, off + k * 4 + 3, none⟩) hbw).trans c3
      have hj0 : (0 : Int) ≤ (k : Int) := Int.natCast_nonneg _
      have hj1 : (k : Int) < (n : Int) := by omega
      have hno := fun h => find_take_none hkl HF.out h
      have hyes := fun h => find_take_some hkl HF.out h
      clear c0 c1 c2 c3
      obtain ⟨⟨x0, x1, x2, x3⟩, hxy⟩ : ∃ s, s = l[k] := ⟨_, rfl⟩
      rw [← hxy] at d0 d1 d2 d3 hno hyes
      dsimp only at d0 d1 d2 d3
      clear hxy
      obtain ⟨t1, hb1⟩ := four_made hb (x0, x1, x2, x3) 26
      have hsz := hb.size
      have HK := Lib.hid (fun V : World => impl_translates x0 x1 x2 x3 t p V)
      have HB1 := Lib.hid hb1
      have HT1 := Lib.hid t1
      clear hb1 t1
      go_wp2_with fail
      have hb1 := HB1.out
      have t1 := HT1.out
      (try dsimp only at hb1 t1)
      clear HB1 HT1
      generalize wr.alloc (.cells #[.int .i64 x0, .int .i64 x1, .int .i64 x2, .int .i64 x3] 26) = W1 at t1 hb1 ⊢
      refine (HK.out W1).mono ?_
      rintro e w2 ⟨rfl, hb2⟩
      have hs1 := hb1.size
      have t2 := t1.below hb2 (by have := t1.2.2.2.2.2.2.2.2; omega)
      have hb3 := hb1.trans (hb2.mono hs1)
      have T := HT.out.below hb3 (by omega)
      clear t1 hb1 hb2 HK
      obtain ⟨j0, j1, j2, j3, _, _, _, _, _⟩ := t2
      obtain ⟨_, _, _, _, f0, f1, f2, f3, _⟩ := T
      (try dsimp only at j0 j1 j2 j3)
      have HB3 := Lib.hid hb3
      clear hb3
      cases hE : isE (x0, x1, x2, x3) t p
      · have HE := Lib.hid (hno hE)
        clear hno hyes
        go_wp2_with fail
        go_roundw
        case rel => exact ⟨k + 1, by omega, by go_num, HE.out, HB3.out⟩
        case measure => simp [intOf]; omega
      · have HE := Lib.hid (hyes hE)
        clear hno hyes
        go_wp2_with fail
        obtain ⟨q0, q1, q2, q3, _⟩ := HT.out.below HB3.out (by omega)
        exact bodyPost_ret (v := .tuple #[.agg #[.int .i64 x0, .int .i64 x1, .int .i64 x2, .int .i64 x3], .bool true]) (by simp [results, Try.results21, go_sem, q0, q1, q2, q3]) rfl ⟨by rw [HE.out], set_four (HB.out.trans (HB3.out.mono (by omega))) (Nat.le_refl _) _ _ _ _⟩
    · have hkn : k = n := by omega
      subst hkn
      have hf := HF.out
      rw [List.take_of_length_le (by have := HL.out; omega)] at hf
      have HE := Lib.hid (findE_none hf)
      have HBB := Lib.hid hb
      obtain ⟨q0, q1, q2, q3, f0, f1, f2, f3, _⟩ := HT.out.below hb (by omega)
      clear hf hb
      go_wp2_with fail
      exact bodyPost_ret (v := .tuple #[.agg #[.int .i64 0, .int .i64 0, .int .i64 0, .int .i64 0], .bool false]) (by simp [results, Try.results21, go_sem, q0, q1, q2, q3]) rfl ⟨by rw [HE.out]; rfl, set_four (HB.out.trans (HBB.out.mono (by omega))) (Nat.le_refl _) _ _ _ _⟩
theorem bufOk_big {l : List ET} (h : l.length > 6) : bufOk l = false := by
  unfold bufOk
  rw [Bool.and_eq_false_iff]
  right
  rw [decide_eq_false_iff_not]
  omega
theorem found_take {l : List ET} {k : Nat} (hk : k < l.length) (h : (findE (l.take k) l[k].1 l[k].2.1).2 = true) : bufOk l = false := by
  rw [show (findE (l.take k) l[k].1 l[k].2.1).2 = (l.take k).any fun e => isE e l[k].1 l[k].2.1 by
    unfold findE
    cases h : (l.take k).find? fun e => isE e l[k].1 l[k].2.1 with
    | none => rw [List.find?_eq_none] at h; symm; rw [List.any_eq_false]; exact h
    | some e => symm; rw [List.any_eq_true]; exact ⟨e, List.mem_of_find?_eq_some h, List.find?_some (p := fun e => isE e l[k].1 l[k].2.1) h⟩, List.any_eq_true] at h
  obtain ⟨e, he, hx⟩ := h
  obtain ⟨i, hi, rfl⟩ := List.mem_iff_getElem.1 he
  have hik : i < k := by rw [List.length_take] at hi; omega
  rw [List.getElem_take] at hx
  refine bufOk_pair hk hik ?_
  unfold apart
  obtain ⟨h1, h2⟩ := isE_yes hx
  rw [h1, h2]
  simp
theorem found_not {l : List ET} {k : Nat} (hk : k < l.length) (hp : (l.take k).Pairwise apart) (h : (findE (l.take k) l[k].1 l[k].2.1).2 = false) : (l.take (k + 1)).Pairwise apart := by
  rw [show (findE (l.take k) l[k].1 l[k].2.1).2 = (l.take k).any fun e => isE e l[k].1 l[k].2.1 by
    unfold findE
    cases h : (l.take k).find? fun e => isE e l[k].1 l[k].2.1 with
    | none => rw [List.find?_eq_none] at h; symm; rw [List.any_eq_false]; exact h
    | some e => symm; rw [List.any_eq_true]; exact ⟨e, List.mem_of_find?_eq_some h, List.find?_some (p := fun e => isE e l[k].1 l[k].2.1) h⟩, List.any_eq_false] at h
  refine pair_snoc hk hp fun i hi => ?_
  have h1 := h l[i] (by rw [List.mem_iff_getElem]; exact ⟨i, by rw [List.length_take]; omega, by rw [List.getElem_take]⟩)
  have h2 := isE_no (by simpa using h1)
  unfold apart
  rintro ⟨h3, h4⟩
  exact h2 ⟨h3.symm, h4.symm⟩
theorem e_take {w : World} {lo hi : Nat} {A : Option Addr} {l : List ET} (h : Lies w lo hi A (ecells l)) (k : Nat) : Lies w lo hi A (ecells (l.take k)) := fun j u hu => by
  refine h j u ?_
  have hl : ecells l = ecells (l.take k) ++ ecells (l.drop k) := by rw [← ecells_append, List.take_append_drop]
  rw [hl, List.getElem?_append_left (by have := (List.getElem?_eq_some_iff.1 hu).1; exact this)]
  exact hu

set_option maxRecDepth 100000 in
set_option maxHeartbeats 8000000 in
theorem impl_bufOk (A : Option Addr) (n c : Nat) (l : List ET) (w : World) (hn : n ≤ 1048576) (hc : n ≤ c) (hl : l.length = n) (h1 : Lies w 0 w.heap.size A (ecells l)) :
    Calls Try.prog 18 #[.slice A n c] w (YesP w (bufOk l)) := by
  by_cases h6 : n > 6
  · have h6' : ((n : Int) > 6) := by omega
    rw [bufOk_big (by omega)]
    clear h1 hl
    go_enter Try.func18, Try.ntmps18
    go_wp2
    go_ret
    exact ⟨rfl, Below.refl _ _⟩
  have h6' : ¬ ((n : Int) > 6) := by omega
  have H1 := Lib.hid h1
  have HL := Lib.hid hl
  clear h1 hl
  go_enter Try.func18, Try.ntmps18
  go_wp2
  go_loopw [12] (fun i wr => ∃ (k : Nat), k ≤ n ∧ i = .int .i64 k ∧ (l.take k).Pairwise apart ∧ Below w.heap.size w wr) (fun i _ => n - (intOf i).toNat)
  case atStart => exact ⟨0, Nat.zero_le _, rfl, by simp, Below.refl _ _⟩
  case round =>
    obtain ⟨k, hk, rfl, hp, hb⟩ := hrel
    have HP := Lib.hid hp
    clear hp
    by_cases hlt : k < n
    · have hkl : k < l.length := by have := HL.out; omega
      obtain ⟨b, off, rfl, _, hbw, c0, c1, c2, c3⟩ := e_at H1.out k hkl
      have d0 := (hb.cell (p := ⟨b, off + k * 4, none⟩) hbw).trans c0
      have d1 := (hb.cell (p := ⟨b, off + k * 4 + 1, none⟩) hbw).trans c1
      have d2 := (hb.cell (p := ⟨b, off + k * 4 + 2, none⟩) hbw).trans c2
      have d3 := (hb.cell (p := ⟨b, off + k * 4 + 3, none⟩) hbw).trans c3
      have hi0 : (0 : Int) ≤ (k : Int) := Int.natCast_nonneg _
      have hi1 : (k : Int) < (n : Int) := by omega
      have hi2 : (k : Int) ≤ (c : Int) := by omega
      have hyes := found_take hkl
      have hno := found_not hkl HP.out
      have hK := fun V (h : Lies V 0 V.heap.size (some ⟨b, off, none⟩) (ecells (l.take k))) => impl_findE (some ⟨b, off, none⟩) k c (l.take k) V l[k].1 l[k].2.1 (by omega) (by rw [List.length_take]; omega) h
      unfold EntP at hK
      clear c0 c1 c2 c3
      obtain ⟨⟨x0, x1, x2, x3⟩, hxy⟩ : ∃ s, s = l[k] := ⟨_, rfl⟩
      rw [← hxy] at d0 d1 d2 d3 hno hyes hK
      dsimp only at d0 d1 d2 d3 hno hyes hK
      clear hxy
      generalize findE (l.take k) x0 x1 = z at hyes hno hK
      obtain ⟨⟨f0, f1, f2, f3⟩, fo⟩ := z
      dsimp only at hyes hno hK
      obtain ⟨t1, hb1⟩ := four_made hb (x0, x1, x2, x3) 26
      have HK := Lib.hid hK
      have hsz := hb.size
      have HB1 := Lib.hid hb1
      have HT1 := Lib.hid t1
      have HY := Lib.hid hyes
      have HN := Lib.hid hno
      clear hb1 t1 hK hyes hno
      go_wp2_with fail
      have hB1 := HB1.out
      have hT1 := HT1.out
      clear HB1 HT1
      (try dsimp only at hT1 hB1)
      have hz1 : wr.heap.size < (wr.alloc (.cells #[.int .i64 x0, .int .i64 x1, .int .i64 x2, .int .i64 x3] 26)).heap.size := by simp
      generalize wr.alloc (.cells #[.int .i64 x0, .int .i64 x1, .int .i64 x2, .int .i64 x3] 26) = W1 at hB1 hT1 hz1 ⊢
      have HT := Lib.hid (show Four W1.drew wr.heap.size (x0, x1, x2, x3) from hT1)
      have HB := Lib.hid (show Below w.heap.size w W1.drew from hB1.drew)
      have hz2 : wr.heap.size < W1.drew.heap.size := hz1
      have hsW : w.heap.size ≤ W1.drew.heap.size := hB1.size
      refine Ord.wp_region_tree (fun w' => w'.cell? ⟨wr.heap.size, 0, none⟩ = some (.int .i64 x0) ∧ w'.cell? ⟨wr.heap.size, 1, none⟩ = some (.int .i64 x1)) (.take 0 (.take 1 (.take 2 (.take 3 (.take 4 (.take 5 (.take 6 (.two 7 (.take 8 (.take 9 (.take 10 (.alone 11 (.alone 12 (.take 13 .nil)))))) 11 (.alone 7 (.take 8 (.take 9 (.take 10 (.alone 12 (.take 13 .nil)))))))))))))) (by kernel_rfl) (by kernel_rfl) (by kernel_rfl) (⟨hT1.1, hT1.2.1⟩) ?_
      clear hT1 hB1 hz1
      generalize W1.drew = V0 at HT HB hz2 hsW ⊢
      (refine Ord.ot_take (v := ?_) rfl (by rfl) (fun w' hS => ?_) ?_; rotate_left; (focus ((try dsimp only at hS); go_simp; first | done | with_reducible rfl)); simp only [Act.put, List.setIfInBounds_toArray, List.set_cons_zero, List.set_cons_succ])
      (refine Ord.ot_take (v := ?_) rfl (by rfl) (fun w' hS => ?_) ?_; rotate_left; (focus ((try dsimp only at hS); go_simp; first | done | with_reducible rfl)); simp only [Act.put, List.setIfInBounds_toArray, List.set_cons_zero, List.set_cons_succ])
      (refine Ord.ot_take (v := ?_) rfl (by rfl) (fun w' hS => ?_) ?_; rotate_left; (focus ((try dsimp only at hS); go_simp; first | done | with_reducible rfl)); simp only [Act.put, List.setIfInBounds_toArray, List.set_cons_zero, List.set_cons_succ])
      (refine Ord.ot_take (v := ?_) rfl (by rfl) (fun w' hS => ?_) ?_; rotate_left; (focus ((try dsimp only at hS); go_simp; first | done | with_reducible rfl)); simp only [Act.put, List.setIfInBounds_toArray, List.set_cons_zero, List.set_cons_succ])
      (refine Ord.ot_take (v := ?_) rfl (by rfl) (fun w' hS => ?_) ?_; rotate_left; (focus ((try dsimp only at hS); go_simp; first | done | with_reducible rfl)); simp only [Act.put, List.setIfInBounds_toArray, List.set_cons_zero, List.set_cons_succ])
      (refine Ord.ot_take (v := ?_) rfl (by rfl) (fun w' hS => ?_) ?_; rotate_left; (focus ((try dsimp only at hS); go_simp; first | done | with_reducible rfl)); simp only [Act.put, List.setIfInBounds_toArray, List.set_cons_zero, List.set_cons_succ])
      (refine Ord.ot_take (v := ?_) rfl (by rfl) (fun w' hS => ?_) ?_; rotate_left; (focus ((try dsimp only at hS); go_simp; first | done | with_reducible rfl)); simp only [Act.put, List.setIfInBounds_toArray, List.set_cons_zero, List.set_cons_succ])
      refine Ord.ot_two rfl rfl (fun K hK => ?_) (fun K hK => ?_)
      · go_simp
        refine (HK.out _ (e_take ((H1.out.below (btr HB.out (Below.refl _ _)) (Nat.le_refl _)).wide (Nat.le_refl _) (btr HB.out (Below.refl _ _)).size) k)).mono ?_
        rintro e w5 ⟨rfl, hb5⟩
        have hb5 := hb5
        have hx5 := hb5.size
        refine hK.out _ _ (⟨(Four.below HT.out hb5 hz2).1, (Four.below HT.out hb5 hz2).2.1⟩) ?_
        clear hK K
        (try simp only [Act.put, List.setIfInBounds_toArray, List.set_cons_zero, List.set_cons_succ])
        (refine Ord.ot_take (v := ?_) rfl (by rfl) (fun w' hS => ?_) ?_; rotate_left; (focus ((try dsimp only at hS); go_simp; first | done | with_reducible rfl)); simp only [Act.put, List.setIfInBounds_toArray, List.set_cons_zero, List.set_cons_succ])
        (refine Ord.ot_take (v := ?_) rfl (by rfl) (fun w' hS => ?_) ?_; rotate_left; (focus ((try dsimp only at hS); go_simp; first | done | with_reducible rfl)); simp only [Act.put, List.setIfInBounds_toArray, List.set_cons_zero, List.set_cons_succ])
        (refine Ord.ot_take (v := ?_) rfl (by rfl) (fun w' hS => ?_) ?_; rotate_left; (focus ((try dsimp only at hS); go_simp; first | done | with_reducible rfl)); simp only [Act.put, List.setIfInBounds_toArray, List.set_cons_zero, List.set_cons_succ])
        refine Ord.ot_alone rfl (fun K hK => ?_)
        go_simp
        have hb7 : Below V0.heap.size V0 (w5.alloc (.cells #[.int .i64 0, .int .i64 0, .int .i64 0, .int .i64 0] 26)) := hb5.alloc hb5.size _
        refine hK.out _ _ (⟨(Four.below HT.out hb7 hz2).1, (Four.below HT.out hb7 hz2).2.1⟩) ?_
        clear hK K
        (try simp only [Act.put, List.setIfInBounds_toArray, List.set_cons_zero, List.set_cons_succ])
        refine Ord.ot_alone rfl (fun K hK => ?_)
        have q7 := Four.new w5 noE 26
        change Four (w5.alloc (.cells #[.int .i64 0, .int .i64 0, .int .i64 0, .int .i64 0] 26)) w5.heap.size noE at q7
        have hx7 := hb7.size
        generalize w5.alloc (.cells #[.int .i64 0, .int .i64 0, .int .i64 0, .int .i64 0] 26) = W7 at q7 hb7 hx7 ⊢
        obtain ⟨q0, q1, q2, q3, g0, g1, g2, g3, _⟩ := q7
        dsimp only [noE] at q0 q1 q2 q3
        go_simp
        have hb8 := set_four hb7 hx5 (.int .i64 f0) (.int .i64 f1) (.int .i64 f2) (.int .i64 f3)
        refine hK.out _ _ (⟨(Four.below HT.out hb8 hz2).1, (Four.below HT.out hb8 hz2).2.1⟩) ?_
        clear hK K
        (try simp only [Act.put, List.setIfInBounds_toArray, List.set_cons_zero, List.set_cons_succ])
        (refine Ord.ot_take (v := ?_) rfl (by rfl) (fun w' hS => ?_) ?_; rotate_left; (focus ((try dsimp only at hS); go_simp; first | done | with_reducible rfl)); simp only [Act.put, List.setIfInBounds_toArray, List.set_cons_zero, List.set_cons_succ])
        refine Ord.ot_nil ?_
        have HR := Lib.hid (btr HB.out hb8)
        cases fo
        · have HE := Lib.hid (HN.out rfl)
          go_wp2_with fail
          go_roundw
          case rel => exact ⟨k + 1, by omega, by go_num, HE.out, HR.out⟩
          case measure => simp [intOf]; omega
        · have HE := Lib.hid (HY.out rfl)
          go_wp2_with fail
          go_ret
          exact ⟨by rw [HE.out]; rfl, HR.out⟩
      · go_simp
        have hb7 : Below V0.heap.size V0 (V0.alloc (.cells #[.int .i64 0, .int .i64 0, .int .i64 0, .int .i64 0] 26)) := (Below.refl _ _).alloc (Nat.le_refl _) _
        have q7 := Four.new V0 noE 26
        change Four (V0.alloc (.cells #[.int .i64 0, .int .i64 0, .int .i64 0, .int .i64 0] 26)) V0.heap.size noE at q7
        have hz7 : (V0.alloc (.cells #[.int .i64 0, .int .i64 0, .int .i64 0, .int .i64 0] 26)).heap.size = V0.heap.size + 1 := by simp
        refine hK.out _ _ (⟨(Four.below HT.out hb7 hz2).1, (Four.below HT.out hb7 hz2).2.1⟩) ?_
        clear hK K
        (try simp only [Act.put, List.setIfInBounds_toArray, List.set_cons_zero, List.set_cons_succ])
        generalize V0.alloc (.cells #[.int .i64 0, .int .i64 0, .int .i64 0, .int .i64 0] 26) = W7 at q7 hb7 hz7 ⊢
        refine Ord.ot_alone rfl (fun K hK => ?_)
        go_simp
        refine (HK.out _ (e_take ((H1.out.below (btr HB.out hb7) (Nat.le_refl _)).wide (Nat.le_refl _) (btr HB.out hb7).size) k)).mono ?_
        rintro e w5 ⟨rfl, hb5⟩
        have hb75 := hb7.trans (hb5.mono (by omega))
        refine hK.out _ _ (⟨(Four.below HT.out hb75 hz2).1, (Four.below HT.out hb75 hz2).2.1⟩) ?_
        clear hK K
        (try simp only [Act.put, List.setIfInBounds_toArray, List.set_cons_zero, List.set_cons_succ])
        (refine Ord.ot_take (v := ?_) rfl (by rfl) (fun w' hS => ?_) ?_; rotate_left; (focus ((try dsimp only at hS); go_simp; first | done | with_reducible rfl)); simp only [Act.put, List.setIfInBounds_toArray, List.set_cons_zero, List.set_cons_succ])
        (refine Ord.ot_take (v := ?_) rfl (by rfl) (fun w' hS => ?_) ?_; rotate_left; (focus ((try dsimp only at hS); go_simp; first | done | with_reducible rfl)); simp only [Act.put, List.setIfInBounds_toArray, List.set_cons_zero, List.set_cons_succ])
        (refine Ord.ot_take (v := ?_) rfl (by rfl) (fun w' hS => ?_) ?_; rotate_left; (focus ((try dsimp only at hS); go_simp; first | done | with_reducible rfl)); simp only [Act.put, List.setIfInBounds_toArray, List.set_cons_zero, List.set_cons_succ])
        obtain ⟨q0, q1, q2, q3, g0, g1, g2, g3, _⟩ := q7.below hb5 (by omega)
        dsimp only [noE] at q0 q1 q2 q3
        refine Ord.ot_alone rfl (fun K hK => ?_)
        go_simp
        have hb8 := set_four hb75 (Nat.le_refl _) (.int .i64 f0) (.int .i64 f1) (.int .i64 f2) (.int .i64 f3)
        refine hK.out _ _ (⟨(Four.below HT.out hb8 hz2).1, (Four.below HT.out hb8 hz2).2.1⟩) ?_
        clear hK K
        (try simp only [Act.put, List.setIfInBounds_toArray, List.set_cons_zero, List.set_cons_succ])
        (refine Ord.ot_take (v := ?_) rfl (by rfl) (fun w' hS => ?_) ?_; rotate_left; (focus ((try dsimp only at hS); go_simp; first | done | with_reducible rfl)); simp only [Act.put, List.setIfInBounds_toArray, List.set_cons_zero, List.set_cons_succ])
        refine Ord.ot_nil ?_
        have HR := Lib.hid (btr HB.out hb8)
        cases fo
        · have HE := Lib.hid (HN.out rfl)
          go_wp2_with fail
          go_roundw
          case rel => exact ⟨k + 1, by omega, by go_num, HE.out, HR.out⟩
          case measure => simp [intOf]; omega
        · have HE := Lib.hid (HY.out rfl)
          go_wp2_with fail
          go_ret
          exact ⟨by rw [HE.out]; rfl, HR.out⟩
    · have hkn : k = n := by omega
      subst hkn
      have HE := Lib.hid (bufOk_end HL.out HP.out)
      have HB := Lib.hid hb
      clear hb
      go_wp2
      go_ret
      exact ⟨by rw [HE.out]; congr 2; simp; omega, HB.out⟩
end Go.Proofs.Ytmfileflmpmkpaa.Ents
