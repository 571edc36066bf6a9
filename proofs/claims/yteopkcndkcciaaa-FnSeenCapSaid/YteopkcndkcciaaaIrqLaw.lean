/-
  Interrupts in plain mathematics: what the named laws of chapter 14 ask; no statement about the program stands here. No condition.
-/
import Derived.Test.YteopkcndkcciaaaIrq
import Derived.Laws.BitsLemmas
namespace Go.Proofs.Yteopkcndkcciaaa.Irqs
set_option maxRecDepth 100000
open Go.ChangeShapes Go.WideShapes Go.ChangeAt Go.RowKit
open Go.Proofs.Yteopkcndkcciaaa.Base Go.Proofs.Yteopkcndkcciaaa.Mem
set_option linter.unusedVariables false
set_option linter.unusedSimpArgs false

theorem byte_wf {p : Int} (h0 : 0 ≤ p) (h1 : p ≤ 255) : (Lit.int .i64 p).wf = true := by
  simp [Lit.wf]
  have e1 : IntKind.i64.min = -9223372036854775808 := by decide
  have e2 : IntKind.i64.max = 9223372036854775807 := by decide
  omega
def postOk (p : Int) (k : Nat) : Bool := let x := bits .or .i64 p (2 ^ k); decide (0 ≤ x) && decide (x ≤ 255) && decide (cntTo p 8 ≤ cntTo x 8)
theorem postOk_all : ∀ (x : Fin 256) (k : Fin 8), postOk (x.val : Int) k.val = true := by decide +kernel
theorem post_facts {p n : Int} (hw : (Lit.int .i64 p).wf = true) : (Lit.int .i64 (postI p n).1).wf = true ∧ ((postI p n).2 = true → cntI (postI p n).1 ≥ cntI p) := by
  unfold postI
  by_cases h : (pend p && inB n 0 7) = true
  · rw [if_pos h]
    simp only [Bool.and_eq_true] at h
    obtain ⟨p0, p1⟩ := pend_iff.1 h.1
    obtain ⟨n0, n1⟩ := inB_iff.1 h.2
    obtain ⟨x, rfl⟩ := Int.eq_ofNat_of_zero_le p0
    obtain ⟨k, rfl⟩ := Int.eq_ofNat_of_zero_le n0
    have h1 := postOk_all ⟨x, by omega⟩ ⟨k, by omega⟩
    unfold postOk at h1
    simp only [Bool.and_eq_true, decide_eq_true_eq] at h1
    dsimp only
    rw [Int.toNat_natCast]
    refine ⟨byte_wf h1.1.1 h1.1.2, fun _ => ?_⟩
    unfold cntI
    rw [if_pos (pend_iff.2 ⟨h1.1.1, h1.1.2⟩), if_pos (pend_iff.2 ⟨p0, p1⟩)]
    exact h1.2
  · rw [if_neg h]
    exact ⟨hw, fun h => by cases h⟩
def takeOk (p : Int) : Bool :=
  let n := topTo p 8
  if n < 0 then p == 0 else let r := p - 2 ^ n.toNat; decide (0 ≤ r) && decide (r ≤ 255) && decide (cntTo r 8 = cntTo p 8 - 1) && decide (topTo r 8 < n) && decide (1 ≤ cntTo p 8)
theorem takeOk_all : ∀ x : Fin 256, takeOk (x.val : Int) = true := by decide +kernel
theorem takeOk_at {p : Int} (h : pend p = true) : takeOk p = true := byte takeOk takeOk_all (pend_iff.1 h).1 (pend_iff.1 h).2
/-- What is left behind the greatest interrupt. -/
theorem take_facts {p : Int} (h : ¬ topI p < 0) : pend (takeI p).1 = true ∧ cntI (takeI p).1 = cntI p - 1 ∧ topI (takeI p).1 < topI p ∧ (takeI p).2 = (topI p, true) := by
  have hp := topI_pend h
  have h1 := takeOk_at hp
  have ht : topI p = topTo p 8 := by unfold topI; rw [if_pos hp]
  unfold takeI
  rw [if_neg h]
  dsimp only
  rw [ht] at h ⊢
  unfold takeOk at h1
  dsimp only at h1
  rw [if_neg h] at h1
  simp only [Bool.and_eq_true, decide_eq_true_eq] at h1
  have hr := pend_iff.2 ⟨h1.1.1.1.1, h1.1.1.1.2⟩
  refine ⟨hr, ?_, ?_, rfl⟩
  · unfold cntI
    rw [if_pos hr, if_pos hp]
    exact h1.1.1.2
  · unfold topI
    rw [if_pos hr]
    exact h1.1.2
theorem take_none {p : Int} (h : topI p < 0) : takeI p = (p, -1, false) := by unfold takeI; rw [if_pos h]
theorem cnt_range (p : Int) : 0 ≤ cntI p ∧ cntI p ≤ 8 := by
  unfold cntI
  split
  · rename_i h
    have := cntTo_le h (Nat.le_refl 8)
    omega
  · omega
theorem top_yes {p : Int} (hp : pend p = true) (h : 1 ≤ cntI p) : ¬ topI p < 0 := by
  have h1 := takeOk_at hp
  intro hn
  unfold topI at hn
  rw [if_pos hp] at hn
  unfold takeOk at h1
  dsimp only at h1
  rw [if_pos hn] at h1
  have : p = 0 := by simpa using h1
  subst this
  have : cntI 0 = 0 := by decide +kernel
  omega
theorem cnt_zero {p : Int} (hp : pend p = true) (h : cntI p = 0) : p = 0 := by
  have h1 := takeOk_at hp
  unfold takeOk at h1
  dsimp only at h1
  by_cases hn : topTo p 8 < 0
  · rw [if_pos hn] at h1
    simpa using h1
  · rw [if_neg hn] at h1
    simp only [Bool.and_eq_true, decide_eq_true_eq] at h1
    unfold cntI at h
    rw [if_pos hp] at h
    omega

/-! ### Splitting -/
def sumS (f : Nat → Bool) : Nat := (f 0).toNat + 2 * (f 1).toNat + 4 * (f 2).toNat + 8 * (f 3).toNat + 16 * (f 4).toNat + 32 * (f 5).toNat + 64 * (f 6).toNat + 128 * (f 7).toNat
def sumC (f : Nat → Bool) : Nat := (f 0).toNat + (f 1).toNat + (f 2).toNat + (f 3).toNat + (f 4).toNat + (f 5).toNat + (f 6).toNat + (f 7).toNat
def sumOk (x : Nat) : Bool := sumS x.testBit == x && cntI (x : Int) == (sumC x.testBit : Int) && bits .xor .i64 255 (x : Int) == ((255 ^^^ x : Nat) : Int)
theorem sumOk_all : ∀ x : Fin 256, sumOk x.val = true := by decide +kernel
theorem sum_facts {x : Nat} (h : x < 256) : sumS x.testBit = x ∧ cntI (x : Int) = (sumC x.testBit : Int) ∧ bits .xor .i64 255 (x : Int) = ((255 ^^^ x : Nat) : Int) := by
  have h1 := sumOk_all ⟨x, h⟩
  unfold sumOk at h1
  simp only [Bool.and_eq_true, beq_iff_eq] at h1
  exact ⟨h1.1.1, h1.1.2, h1.2⟩
theorem and_nat (x y : Nat) (hx : x < 256) (hy : y < 256) : bits .and .i64 (x : Int) (y : Int) = ((x &&& y : Nat) : Int) :=
  (bits_nat .i64 8 (by decide) (fun n h0 h1 => by rw [IntKind.wrap_i64]; omega) x y (by omega) (by omega)).1
theorem not_bit (y i : Nat) (hi : i < 8) : (255 ^^^ y).testBit i = !y.testBit i := by
  rw [Nat.testBit_xor]
  have h : ∀ i : Fin 8, (255 : Nat).testBit i.val = true := by decide
  rw [h ⟨i, hi⟩]
  simp
theorem two_nat (a b : Bool) : (a && b).toNat + (a && !b).toNat = a.toNat := by cases a <;> cases b <;> rfl
theorem sum_add {f g h : Nat → Bool} (e : ∀ i, i < 8 → (f i).toNat + (g i).toNat = (h i).toNat) : sumS f + sumS g = sumS h ∧ sumC f + sumC g = sumC h := by
  have e0 := e 0 (by omega); have e1 := e 1 (by omega); have e2 := e 2 (by omega); have e3 := e 3 (by omega)
  have e4 := e 4 (by omega); have e5 := e 5 (by omega); have e6 := e 6 (by omega); have e7 := e 7 (by omega)
  unfold sumS sumC
  rw [← e0, ← e1, ← e2, ← e3, ← e4, ← e5, ← e6, ← e7]
  clear e0 e1 e2 e3 e4 e5 e6 e7 e
  generalize (f 0).toNat = a0; generalize (f 1).toNat = a1; generalize (f 2).toNat = a2; generalize (f 3).toNat = a3
  generalize (f 4).toNat = a4; generalize (f 5).toNat = a5; generalize (f 6).toNat = a6; generalize (f 7).toNat = a7
  generalize (g 0).toNat = b0; generalize (g 1).toNat = b1; generalize (g 2).toNat = b2; generalize (g 3).toNat = b3
  generalize (g 4).toNat = b4; generalize (g 5).toNat = b5; generalize (g 6).toNat = b6; generalize (g 7).toNat = b7
  omega
theorem split_facts {p q : Int} (hp : pend p = true) (hq : pend q = true) : (splitI p q).1 + (splitI p q).2 = p ∧ cntI (splitI p q).1 + cntI (splitI p q).2 = cntI p ∧
    (Lit.int .i64 (splitI p q).1).wf = true ∧ (Lit.int .i64 (splitI p q).2).wf = true := by
  unfold splitI
  rw [if_pos (by rw [hp, hq]; rfl)]
  obtain ⟨p0, p1⟩ := pend_iff.1 hp
  obtain ⟨q0, q1⟩ := pend_iff.1 hq
  clear hp hq
  obtain ⟨x, rfl⟩ := Int.eq_ofNat_of_zero_le p0
  obtain ⟨y, rfl⟩ := Int.eq_ofNat_of_zero_le q0
  have hx : x < 256 := by omega
  have hy : y < 256 := by omega
  clear p0 p1 q0 q1
  have hn : 255 ^^^ y < 256 := Nat.xor_lt_two_pow (n := 8) (by decide) hy
  dsimp only
  rw [(sum_facts hy).2.2, and_nat x y hx hy, and_nat x _ hx hn]
  have ha : x &&& y < 256 := Nat.lt_of_le_of_lt Nat.and_le_left hx
  have hb : x &&& (255 ^^^ y) < 256 := Nat.lt_of_le_of_lt Nat.and_le_left hx
  have e : ∀ i, i < 8 → ((x &&& y).testBit i).toNat + ((x &&& (255 ^^^ y)).testBit i).toNat = (x.testBit i).toNat := fun i hi => by
    rw [Nat.testBit_and, Nat.testBit_and, not_bit y i hi]
    exact two_nat _ _
  obtain ⟨s1, s2⟩ := sum_add e
  obtain ⟨a1, a2, _⟩ := sum_facts ha
  obtain ⟨b1, b2, _⟩ := sum_facts hb
  obtain ⟨c1, c2, _⟩ := sum_facts hx
  rw [a1, b1, c1] at s1
  rw [a2, b2, c2]
  clear a1 a2 b1 b2 c1 c2 e hn
  generalize x &&& y = u at ha s1 s2 ⊢
  generalize x &&& (255 ^^^ y) = v at hb s1 s2 ⊢
  exact ⟨by omega, by omega, byte_wf (by omega) (by omega), byte_wf (by omega) (by omega)⟩
theorem five : topI 5 = 2 := by decide +kernel
theorem all8 : cntI 255 = 8 := by decide +kernel
theorem rem256 (q : Int) (h0 : 0 ≤ q) : pend (q.tmod 256) = true := by
  rw [Int.tmod_eq_emod_of_nonneg h0]
  have := Int.emod_lt_of_pos q (show (0 : Int) < 256 by omega)
  have := Int.emod_nonneg q (show (256 : Int) ≠ 0 by omega)
  exact pend_iff.2 ⟨by omega, by omega⟩
end Go.Proofs.Yteopkcndkcciaaa.Irqs
