/-
  The instruction set: the project's functions of chapter 10 but OpName. No condition beyond a program's length and an int's range.
-/
import Derived.Test.YteopkcndkcciaaaIns
import Derived.Test.YteopkcndkcciaaaInsSame
import Derived.Laws.StructEq
import Derived.BigQuiet
namespace Go.Proofs.Yteopkcndkcciaaa.Inss
set_option maxRecDepth 100000
open Go.ChangeShapes Go.WideShapes Go.ChangeAt Go.RowKit
open Go.Proofs.Yteopkcndkcciaaa.Base Go.Proofs.Yteopkcndkcciaaa.Mem Go.Proofs.Yteopkcndkcciaaa.Data Go.Proofs.Yteopkcndkcciaaa.Addrs Go.Proofs.Yteopkcndkcciaaa.Rights
set_option linter.unusedVariables false
set_option linter.unusedSimpArgs false

/-- The largest X of an operation. -/
def topX (o : Int) : Int := if o = 1 ∨ o = 2 ∨ o = 5 ∨ o = 6 then 99 else if o = 3 ∨ o = 4 then 15 else if o = 7 then 0 else if o = 8 then 11 else -1
theorem insOk_top (o x : Int) : insOk (o, x) = (decide (0 ≤ x) && decide (x ≤ topX o)) := by
  unfold insOk topX
  dsimp only
  have hz : (x == 0) = (decide (0 ≤ x) && decide (x ≤ 0)) := by
    rw [Bool.eq_iff_iff, beq_iff_eq, Bool.and_eq_true, decide_eq_true_iff, decide_eq_true_iff]; omega
  have hb : ∀ k : Int, inB x 0 k = (decide (0 ≤ x) && decide (x ≤ k)) := fun k => by
    rw [Bool.eq_iff_iff, inB_iff, Bool.and_eq_true, decide_eq_true_iff, decide_eq_true_iff]
  have hn : false = (decide (0 ≤ x) && decide (x ≤ -1)) := by
    rw [eq_comm, Bool.and_eq_false_iff, decide_eq_false_iff_not, decide_eq_false_iff_not]; omega
  split
  · exact hb 99
  · split
    · exact hb 15
    · split
      · exact hz
      · split
        · exact hb 11
        · exact hn

set_option maxHeartbeats 4000000 in
theorem impl_topX (o : Int) (w : World) :
    Calls Try.prog 108 #[.int .i64 o] w fun e w' => e = .returned (.int .i64 (topX o)) ∧ w' = w := by
  rcases op_cases o with rfl | rfl | rfl | rfl | rfl | rfl | rfl | rfl | h
  iterate 8
    · go_enter Try.func108, Try.ntmps108
      go_wp2_with fail
      go_ret
      exact ⟨rfl, rfl⟩
  · have HV := Lib.hid (show topX o = -1 by
      simp only [beq_eq_false_iff_ne, ne_eq] at h
      simp [topX, h])
    obtain ⟨h1, h2, h3, h4, h5, h6, h7, h8⟩ := h
    go_enter Try.func108, Try.ntmps108
    go_wp2_with fail
    go_ret
    exact ⟨by rw [HV.out]; rfl, rfl⟩

set_option maxHeartbeats 4000000 in
theorem impl_insOk (o x : Int) (w : World) (ws : wfJ (o, x)) :
    Calls Try.prog 98 #[.agg #[.int .i64 o, .int .i64 x]] w fun e w' => e = .returned (.bool (insOk (o, x))) ∧ Below w.heap.size w w' := by
  have hb0 : Below w.heap.size w (w.alloc (.cells #[.int .i64 o, .int .i64 x] 64)) := (Below.refl _ _).alloc (Nat.le_refl _) _
  have k0 : (w.alloc (.cells #[.int .i64 o, .int .i64 x] 64)).cell? ⟨w.heap.size, 0, none⟩ = some (.int .i64 o) := cell_of_row _ _ 0 _ _ _ (heap_alloc_new w _)
  have k1 : (w.alloc (.cells #[.int .i64 o, .int .i64 x] 64)).cell? ⟨w.heap.size, 1, none⟩ = some (.int .i64 x) := cell_of_row _ _ 1 _ _ _ (heap_alloc_new w _)
  have HB := Lib.hid hb0
  have HC := Lib.hid (show ∀ V : World, Calls Try.prog 108 #[.int .i64 o] V fun e w' => e = .returned (.int .i64 (topX o)) ∧ w' = V from impl_topX o)
  have hv := insOk_top o x
  generalize topX o = t at hv HC
  clear hb0 ws
  by_cases h0 : 0 ≤ x
  · have hd : decide (x ≥ 0) = true := decide_eq_true h0
    rw [decide_eq_true h0, Bool.true_and] at hv
    have HV := Lib.hid hv
    clear hv h0
    go_enter Try.func98, Try.ntmps98
    go_wp2_with fail
    generalize w.alloc (.cells #[.int .i64 o, .int .i64 x] 64) = W at k0 k1 HB ⊢
    go_quiet ((go_at_call 108; exact Calls.quiet_of_same (HC.out _)))
    go_wp2_with fail
    go_ret
    exact ⟨by rw [HV.out]; rfl, btr HB.out (below_drewN (Below.refl _ _) _)⟩
  · have hd : decide (x ≥ 0) = false := decide_eq_false (by omega)
    rw [decide_eq_false h0, Bool.false_and] at hv
    have HV := Lib.hid hv
    clear hv h0
    go_enter Try.func98, Try.ntmps98
    go_wp2_with fail
    generalize w.alloc (.cells #[.int .i64 o, .int .i64 x] 64) = W at k0 k1 HB ⊢
    go_quiet ((go_at_call 108; exact Calls.quiet_of_same (HC.out _)))
    go_wp2_with fail
    go_ret
    exact ⟨by rw [HV.out]; rfl, btr HB.out (below_drewN (Below.refl _ _) _)⟩

theorem progOk_len {l : List JT} (h : l.length = 0 ∨ 12 < l.length) : progOk l = false := by
  unfold progOk
  rw [inB_false.2 (by omega), Bool.and_false]
set_option maxHeartbeats 2000000 in
theorem impl_progOk (A : Option Addr) (n c : Nat) (l : List JT) (w : World) (hn : n ≤ 1048576) (hl : l.length = n) (h1 : Lies w 0 w.heap.size A (jcells l)) (wl : wfJL l) :
    Calls Try.prog 70 #[.slice A n c] w fun e w' => e = .returned (.bool (progOk l)) ∧ Below w.heap.size w w' := by
  have H1 := Lib.hid h1
  have HL := Lib.hid hl
  have HW := Lib.hid wl
  clear h1 hl wl
  by_cases h0 : n = 0
  · subst h0
    have HV := Lib.hid (progOk_len (l := l) (.inl HL.out))
    go_enter Try.func70, Try.ntmps70
    go_wp2_with fail
    go_ret
    exact ⟨by rw [HV.out]; rfl, Below.refl _ _⟩
  · by_cases h12 : 12 < n
    · have HV := Lib.hid (progOk_len (l := l) (.inr (by rw [HL.out]; exact h12)))
      have e0 : ((n : Int) == 0) = false := by simpa using h0
      have e12 : decide ((n : Int) > 12) = true := decide_eq_true (by omega)
      go_enter Try.func70, Try.ntmps70
      go_wp2_with fail
      go_ret
      exact ⟨by rw [HV.out]; rfl, Below.refl _ _⟩
    · have e0 : ((n : Int) == 0) = false := by simpa using h0
      have e12 : decide ((n : Int) > 12) = false := decide_eq_false (by omega)
      go_enter Try.func70, Try.ntmps70
      go_wp2_with fail
      go_loopw [14] (fun i wr => ∃ (k : Nat), k ≤ n ∧ i = .int .i64 k ∧ (∀ (j : Nat) (hj : j < l.length), j < k → insOk l[j] = true) ∧ Below w.heap.size w wr) (fun i _ => n - (intOf i).toNat)
      case atStart => exact ⟨0, Nat.zero_le _, rfl, fun j hj h => absurd h (Nat.not_lt_zero _), Below.refl _ _⟩
      case round =>
        obtain ⟨k, hk, rfl, hall, hb⟩ := hrel
        have HA := Lib.hid hall
        have HB := Lib.hid hb
        clear hall
        by_cases hlt : k < n
        · have hkl : k < l.length := by have := HL.out; omega
          obtain ⟨b, off, rfl, _, hbw, c0, c1⟩ := j_at H1.out k hkl
          have d0 := (hb.cell (p := ⟨b, off + k * 2, none⟩) hbw).trans c0
          have d1 := (hb.cell (p := ⟨b, off + k * 2 + 1, none⟩) hbw).trans c1
          have hj0 : (0 : Int) ≤ (k : Int) := Int.natCast_nonneg _
          have hj1 : (k : Int) < (n : Int) := by omega
          have hcall := impl_insOk l[k].1 l[k].2 wr (HW.out _ (List.getElem_mem hkl))
          obtain ⟨v, hv⟩ : ∃ v, insOk l[k] = v := ⟨_, rfl⟩
          rw [show insOk (l[k].1, l[k].2) = v from hv] at hcall
          have HCALL := Lib.hid hcall
          have HV := Lib.hid hv
          clear hcall hv c0 c1 hb
          generalize l[k].1 = o at d0 HCALL
          generalize l[k].2 = x at d1 HCALL
          cases v
          · go_wp2_with fail
            refine HCALL.out.mono ?_
            rintro e w1 ⟨rfl, hb1⟩
            have HB1 := Lib.hid (btr HB.out hb1)
            clear hb1
            go_wp2_with fail
            go_ret
            exact ⟨by rw [progOk_no hkl HV.out]; rfl, HB1.out⟩
          · go_wp2_with fail
            refine HCALL.out.mono ?_
            rintro e w1 ⟨rfl, hb1⟩
            have HB1 := Lib.hid (btr HB.out hb1)
            clear hb1
            go_wp2_with fail
            go_roundw
            case rel =>
              refine ⟨k + 1, by omega, by go_num, fun j hj h => ?_, HB1.out⟩
              rcases Nat.lt_succ_iff_lt_or_eq.1 h with h2 | rfl
              · exact HA.out j hj h2
              · exact HV.out
            case measure => simp [intOf]; omega
        · obtain rfl : k = n := by omega
          have hv := progOk_yes (l := l) (fun j hj => HA.out j hj (by have := HL.out; omega))
          rw [HL.out, inB_iff.2 ⟨by omega, by omega⟩] at hv
          have HV := Lib.hid hv
          clear hv hb
          go_wp2_with fail
          go_ret
          exact ⟨by rw [HV.out]; rfl, HB.out⟩

theorem neq_pair (x y u v : Int) (W : World) : (binOp .neq 64 (.agg #[.int .i64 x, .int .i64 y]) (.agg #[.int .i64 u, .int .i64 v])).run Try.prog W = .ok (.bool (!(x == u && y == v))) W := by
  have u3 := Try.underlying3
  have a3 := Try.isAgg3
  have z3 := Try.sizeOf3
  have hS : Try.prog.underlying 64 = some (.struct (Try.prog.fieldsOf 64)) := by kernel_rfl
  have hp : Try.prog.stoodInHeld 64 = false := by kernel_rfl
  rw [run_neq_struct, show (10000 : Nat) = 9999 + 1 from rfl, run_equalIn_agg W 9999 64 _ _ hS hp]
  simp only [Program.fieldsOf, Try.underlying64]
  go_simp
  by_cases hx : x = u <;> by_cases hy : y = v <;> simp [hx, hy]
set_option maxHeartbeats 2000000 in
theorem impl_sameD (A B : Option Addr) (n n' c d : Nat) (l m : List JT) (w : World) (hn : n ≤ 1048576) (hn' : n' ≤ 1048576) (hl : l.length = n) (hm : m.length = n')
    (h1 : Lies w 0 w.heap.size A (jcells l)) (h2 : Lies w 0 w.heap.size B (jcells m)) :
    Calls Try.prog 83 #[.slice A n c, .slice B n' d] w (SamePost w l m) := by
  have H1 := Lib.hid h1
  have H2 := Lib.hid h2
  have HL := Lib.hid hl
  have HM := Lib.hid hm
  clear h1 h2 hl hm
  by_cases hnn : n = n'
  · subst hnn
    go_enter Try.func83, Try.ntmps83
    go_wp2
    go_loopw [13] (fun i wr => ∃ (k q : Nat), k ≤ n ∧ i = .int .i64 k ∧ l.take k = m.take k ∧ wr = w.drewN q) (fun i _ => n - (intOf i).toNat)
    case atStart => exact ⟨0, 0, Nat.zero_le _, rfl, rfl, rfl⟩
    case round =>
      obtain ⟨k, q, hk, rfl, ht, rfl⟩ := hrel
      have HT := Lib.hid ht
      clear ht
      by_cases hlt : k < n
      · have hkl : k < l.length := by have := HL.out; omega
        have hkm : k < m.length := by have := HM.out; omega
        obtain ⟨b, off, rfl, _, hbw, c1, c2⟩ := j_at H1.out k hkl
        obtain ⟨b', off', rfl, _, hbw', c1', c2'⟩ := j_at H2.out k hkm
        have hi0 : (0 : Int) ≤ (k : Int) := Int.natCast_nonneg _
        have hi1 : (k : Int) < (n : Int) := by omega
        have hstep := same_step hkl hkm HT.out
        have hne := neq_pair l[k].1 l[k].2 m[k].1 m[k].2
        have HP := Lib.hid hstep
        clear hstep
        generalize l[k].1 = x at c1 HP hne
        generalize l[k].2 = y at c2 HP hne
        generalize m[k].1 = x' at c1' HP hne
        generalize m[k].2 = y' at c2' HP hne
        by_cases hx : x = x' ∧ y = y'
        · obtain ⟨rfl, rfl⟩ := hx
          rw [show (!(x == x && y == y)) = false by simp] at hne
          go_wp2
          go_quiet (fail)
          go_wp2
          go_roundw
          case rel => exact ⟨k + 1, _, by omega, by go_num, HP.out.1 (by simp), rfl⟩
          case measure => simp [intOf]; omega
        · have hno := HP.out.2 hx
          have HX := Lib.hid hno
          rw [show (!(x == x' && y == y')) = true by
            rw [Bool.not_eq_true', Bool.and_eq_false_iff, beq_eq_false_iff_ne, beq_eq_false_iff_ne]
            by_cases h : x = x'
            · exact .inr (fun h2 => hx ⟨h, h2⟩)
            · exact .inl h] at hne
          clear hno hx HP
          go_wp2
          go_quiet (fail)
          go_wp2
          go_ret
          exact same_no2 _ _ HX.out
      · have hkn : k = n := by omega
        subst hkn
        go_wp2
        go_ret
        exact same_yes _ HT.out HL.out HM.out
  · have hd : (n == n') = false := by simpa using hnn
    have hd' : ((n : Int) == (n' : Int)) = false := by simp; omega
    have hd2 : ((n : Int) != (n' : Int)) = true := by simp; omega
    go_enter Try.func83, Try.ntmps83
    go_wp2
    go_ret
    exact same_no 0 (fun e => hnn (by rw [← HL.out, ← HM.out, e]))
theorem impl_same (A B : Option Addr) (n n' c d : Nat) (l m : List JT) (w : World) (hn : n ≤ 1048576) (hn' : n' ≤ 1048576) (hl : l.length = n) (hm : m.length = n')
    (h1 : Lies w 0 w.heap.size A (jcells l)) (h2 : Lies w 0 w.heap.size B (jcells m)) (wl : wfJL l) (wm : wfJL m) :
    Calls Try.prog 83 #[.slice A n c, .slice B n' d] w fun e w' => e = .returned (.bool (decide (l = m))) ∧ Below w.heap.size w w' :=
  (impl_sameD A B n n' c d l m w hn hn' hl hm h1 h2).mono fun e w' ⟨h, q, hq⟩ => ⟨h, hq ▸ below_drewN (Below.refl _ _) _⟩
theorem spec_sameB (A B : Option Addr) (n n' c d : Nat) (l m : List JT) (w : World) (hn : n ≤ 1048576) (hn' : n' ≤ 1048576) (hl : l.length = n) (hm : m.length = n')
    (h1 : Lies w 0 w.heap.size A (jcells l)) (h2 : Lies w 0 w.heap.size B (jcells m)) :
    Calls Try.prog 80 #[.slice A n c, .slice B n' d] w fun e w' => e = .returned (.bool (decide (l = m))) ∧ Below w.heap.size w w' :=
  (spec_same A B n n' c d _ _ _ _ l m w hn hn' hl hm h1 h2).mono fun e w' ⟨h, q, hq⟩ => ⟨h, hq ▸ below_drewN (Below.refl _ _) _⟩

end Go.Proofs.Yteopkcndkcciaaa.Inss
