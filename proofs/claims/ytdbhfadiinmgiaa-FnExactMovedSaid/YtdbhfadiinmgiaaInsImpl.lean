/-
  The instruction set: the project's functions of chapter 10 but OpName. No condition beyond a program's length and an int's range.
-/
import Derived.Test.YtdbhfadiinmgiaaIns
import Derived.Test.YtdbhfadiinmgiaaInsSame
import Derived.Laws.StructEq
import Derived.BigQuiet
namespace Go.Proofs.Ytdbhfadiinmgiaa.Inss
set_option maxRecDepth 100000
open Go.ChangeShapes Go.WideShapes Go.ChangeAt Go.RowKit
open Go.Proofs.Ytdbhfadiinmgiaa.Base Go.Proofs.Ytdbhfadiinmgiaa.Mem Go.Proofs.Ytdbhfadiinmgiaa.Data Go.Proofs.Ytdbhfadiinmgiaa.Addrs Go.Proofs.Ytdbhfadiinmgiaa.Rights
set_option linter.unusedVariables false
set_option linter.unusedSimpArgs false

/-- The largest X of an operation. -/
def topX (o : Int) : Int := if o = 1 ∨ o = 2 ∨ o = 5 ∨ o = 6 then 99 else if o = 3 ∨ o = 4 then 15 else if o = 7 then 0 else if o = 8 then 11 else -1
theorem insOk_top (o x : Int) : insOk (o, x) = (decide (0 ≤ x) && decide (x ≤ topX o)) := by
  unfold insOk topX
  dsimp only
  have hz : (x == 0) = (decide (0 ≤ x) && decide (x ≤ 0)) := by
    rw [Bool.eq_iff_iff, beq_iff_eq, Bool.and_eq_true, decide_eq_true_iff, decide_eq_true_iff]; omega
  have hb : ∀ k : Int, inB x 0 k = (decide (0 ≤ x) && decide (x ≤ k)) := fun k => by
    rw [Bool.eq_iff_iff, inB_iff, Bool.and_eq_true, decide_eq_true_iff, decide_eq_true_iff]
  have hn : false = (decide (0 ≤ x) && decide (x ≤ -1)) := by
    rw [eq_comm, Bool.and_eq_false_iff, decide_eq_false_iff_not, decide_eq_false_iff_not]; omega
  split
  · exact hb 99
  · split
    · exact hb 15
    · split
      · exact hz
      · split
        · exact hb 11
        · exact hn

theorem progOk_len {l : List JT} (h : l.length = 0 ∨ 12 < l.length) : progOk l = false := by
  unfold progOk
  rw [inB_false.2 (by omega), Bool.and_false]

set_option maxHeartbeats 2000000 in
theorem impl_insAt (A : Option Addr) (n c : Nat) (pc : Int) (l : List JT) (w : World) (hn : n ≤ 1048576) (hl : l.length = n) (h1 : Lies w 0 w.heap.size A (jcells l)) (wl : wfJL l) (wp : (Lit.int .i64 pc).wf = true) :
    Calls Try.prog 94 #[.slice A n c, .int .i64 pc] w (OneIns w (insAt l pc)) := by
  have H1 := Lib.hid h1
  have HL := Lib.hid hl
  clear h1 hl wp wl
  by_cases h : 0 ≤ pc ∧ pc < n
  · obtain ⟨h0, h1⟩ := h
    obtain ⟨k, rfl⟩ := Int.eq_ofNat_of_zero_le h0
    have hkl : k < l.length := by have := HL.out; omega
    rw [show insAt l (k : Int) = l[k] from insAt_in (pc := (k : Int)) h0 (by simpa using hkl), show l[k] = (l[k].1, l[k].2) from rfl]
    obtain ⟨b, off, rfl, _, hbw, c1, c2⟩ := j_at H1.out k hkl
    have hne : b ≠ w.heap.size := by omega
    have hd1 : decide ((k : Int) < 0) = false := decide_eq_false (by omega)
    have hd2 : decide ((k : Int) ≥ (n : Int)) = false := decide_eq_false (by omega)
    generalize l[k].1 = x at c1 ⊢
    generalize l[k].2 = y at c2 ⊢
    go_enter Try.func94, Try.ntmps94
    go_wp2_with fail
    exact bodyPost_ret (v := .agg #[.int .i64 x, .int .i64 y]) (by simp [results, Try.results94, go_sem]) rfl ⟨rfl, (Below.refl _ _).alloc (Nat.le_refl _) _⟩
  · have HA := Lib.hid (insAt_out (l := l) (pc := pc) (by rw [HL.out]; omega))
    by_cases hlo : pc < 0
    · have hd1 : decide (pc < 0) = true := decide_eq_true hlo
      clear h hlo
      go_enter Try.func94, Try.ntmps94
      go_wp2_with fail
      exact bodyPost_ret (v := .agg #[.int .i64 7, .int .i64 0]) (by simp [results, Try.results94, go_sem]) rfl ⟨by rw [HA.out]; rfl, (Below.refl _ _).alloc (Nat.le_refl _) _⟩
    · have hd1 : decide (pc < 0) = false := decide_eq_false hlo
      have hd2 : decide (pc ≥ (n : Int)) = true := decide_eq_true (by omega)
      clear h hlo
      go_enter Try.func94, Try.ntmps94
      go_wp2_with fail
      exact bodyPost_ret (v := .agg #[.int .i64 7, .int .i64 0]) (by simp [results, Try.results94, go_sem]) rfl ⟨by rw [HA.out]; rfl, (Below.refl _ _).alloc (Nat.le_refl _) _⟩

theorem neq_pair (x y u v : Int) (W : World) : (binOp .neq 42 (.agg #[.int .i64 x, .int .i64 y]) (.agg #[.int .i64 u, .int .i64 v])).run Try.prog W = .ok (.bool (!(x == u && y == v))) W := by
  have u3 := Try.underlying3
  have a3 := Try.isAgg3
  have z3 := Try.sizeOf3
  have hS : Try.prog.underlying 42 = some (.struct (Try.prog.fieldsOf 42)) := by kernel_rfl
  have hp : Try.prog.stoodInHeld 42 = false := by kernel_rfl
  rw [run_neq_struct, show (10000 : Nat) = 9999 + 1 from rfl, run_equalIn_agg W 9999 42 _ _ hS hp]
  simp only [Program.fieldsOf, Try.underlying42]
  go_simp
  by_cases hx : x = u <;> by_cases hy : y = v <;> simp [hx, hy]

theorem law_sameB (A B : Option Addr) (n n' c d : Nat) (l m : List JT) (w : World) (hn : n ≤ 1048576) (hn' : n' ≤ 1048576) (hl : l.length = n) (hm : m.length = n')
    (h1 : Lies w 0 w.heap.size A (jcells l)) (h2 : Lies w 0 w.heap.size B (jcells m)) :
    Calls Try.prog 49 #[.slice A n c, .slice B n' d] w fun e w' => e = .returned (.bool (decide (l = m))) ∧ Below w.heap.size w w' :=
  (law_same A B n n' c d _ _ _ _ l m w hn hn' hl hm h1 h2).mono fun e w' ⟨h, q, hq⟩ => ⟨h, hq ▸ below_drewN (Below.refl _ _) _⟩
end Go.Proofs.Ytdbhfadiinmgiaa.Inss
