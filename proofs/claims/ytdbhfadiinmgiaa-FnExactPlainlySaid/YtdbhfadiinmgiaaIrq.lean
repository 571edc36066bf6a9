/-
  Interrupts: what chapter 14 computes, and the given model's functions of chapter 14; no statement about the project's code stands here. No condition.
-/
import Derived.Test.YtdbhfadiinmgiaaIn
import Derived.Test.YtdbhfadiinmgiaaMem
namespace Go.Proofs.Ytdbhfadiinmgiaa.Irqs
set_option maxRecDepth 100000
open Go.ChangeShapes Go.WideShapes Go.ChangeAt Go.RowKit
open Go.Proofs.Ytdbhfadiinmgiaa.Base Go.Proofs.Ytdbhfadiinmgiaa.Mem
set_option linter.unusedVariables false
set_option linter.unusedSimpArgs false

def pend (p : Int) : Bool := inB p 0 255
/-- Bit n of a number, as a number. -/
def bitN (p : Int) (n : Nat) : Int := bits .and .i64 (p / 2 ^ n) 1
def postI (p n : Int) : Int × Bool := if (pend p && inB n 0 7) = true then (bits .or .i64 p (2 ^ n.toNat), true) else (p, false)
def topTo (p : Int) : Nat → Int
  | 0 => -1
  | k + 1 => if bitN p k = 1 then (k : Int) else topTo p k
def topI (p : Int) : Int := if pend p = true then topTo p 8 else -1
def takeI (p : Int) : Int × Int × Bool := if topI p < 0 then (p, -1, false) else (p - 2 ^ (topI p).toNat, topI p, true)
def cntTo (p : Int) : Nat → Int
  | 0 => 0
  | k + 1 => cntTo p k + bitN p k
def cntI (p : Int) : Int := if pend p = true then cntTo p 8 else 0
def splitI (p q : Int) : Int × Int := if (pend p && pend q) = true then (bits .and .i64 p q, bits .and .i64 p (bits .xor .i64 255 q)) else (0, 0)
theorem pend_iff {p : Int} : pend p = true ↔ 0 ≤ p ∧ p ≤ 255 := inB_iff
theorem byte (f : Int → Bool) (h : ∀ x : Fin 256, f (x.val : Int) = true) {p : Int} (h0 : 0 ≤ p) (h1 : p ≤ 255) : f p = true := by
  obtain ⟨x, rfl⟩ := Int.eq_ofNat_of_zero_le h0
  exact h ⟨x, by omega⟩

theorem pow_small {k : Nat} (h : k ≤ 7) : wrap64 (2 ^ k) = 2 ^ k := by
  have h8 : k = 0 ∨ k = 1 ∨ k = 2 ∨ k = 3 ∨ k = 4 ∨ k = 5 ∨ k = 6 ∨ k = 7 := by omega
  rcases h8 with rfl | rfl | rfl | rfl | rfl | rfl | rfl | rfl <;> decide +kernel
theorem bitN_all : ∀ (x : Fin 256) (k : Fin 8), (bitN (x.val : Int) k.val = 0 ∨ bitN (x.val : Int) k.val = 1) := by decide +kernel
theorem bitN_01 {p : Int} (h : pend p = true) {k : Nat} (hk : k < 8) : bitN p k = 0 ∨ bitN p k = 1 := by
  obtain ⟨h0, h1⟩ := pend_iff.1 h
  obtain ⟨x, rfl⟩ := Int.eq_ofNat_of_zero_le h0
  exact bitN_all ⟨x, by omega⟩ ⟨k, hk⟩
theorem cntTo_le {p : Int} (h : pend p = true) : ∀ {k : Nat}, k ≤ 8 → 0 ≤ cntTo p k ∧ cntTo p k ≤ k
  | 0, _ => ⟨Int.le_refl _, Int.le_refl _⟩
  | k + 1, hk => by
    have h1 := cntTo_le h (show k ≤ 8 by omega)
    have h2 := bitN_01 h (show k < 8 by omega)
    have e : cntTo p (k + 1) = cntTo p k + bitN p k := rfl
    rw [e]
    omega
theorem topTo_range (p : Int) : ∀ k : Nat, -1 ≤ topTo p k ∧ topTo p k < k
  | 0 => by simp [topTo]
  | k + 1 => by
    have h1 := topTo_range p k
    unfold topTo
    split <;> omega
theorem topI_range (p : Int) : -1 ≤ topI p ∧ topI p ≤ 7 := by
  unfold topI
  split
  · have := topTo_range p 8; omega
  · omega
theorem topI_pend {p : Int} (h : ¬ topI p < 0) : pend p = true := by
  unfold topI at h
  cases hp : pend p
  · rw [hp] at h; simp at h
  · rfl

set_option maxHeartbeats 1000000 in
theorem spec_pend (p : Int) (w : World) : Calls Try.prog 123 #[.int .i64 p] w fun e w' => e = .returned (.bool (pend p)) ∧ w = w' := by
  have K := Lib.hid (fun V : World => spec_in p 0 255 V)
  unfold pend
  generalize inB p 0 255 = x at K ⊢
  go_enter Try.func123, Try.ntmps123
  go_wp2_with fail
  refine (K.out _).mono ?_
  rintro e w' ⟨rfl, rfl⟩
  go_wp2_with fail
  go_ret
  exact ⟨rfl, rfl⟩

set_option maxHeartbeats 1000000 in
theorem spec_top (p : Int) (w : World) : Calls Try.prog 103 #[.int .i64 p] w fun e w' => e = .returned (.int .i64 (topI p)) ∧ w = w' := by
  have K := Lib.hid (fun V : World => spec_pend p V)
  have hv : topI p = if pend p = true then topTo p 8 else -1 := rfl
  have hp : pend p = true → 0 ≤ p ∧ p ≤ 255 := pend_iff.1
  generalize pend p = x at K hv hp
  cases x
  · rw [if_neg (Bool.false_ne_true)] at hv
    rw [hv]
    clear hv
    go_enter Try.func103, Try.ntmps103
    go_wp2_with fail
    go_loop [3] (fun i => i = .int .i64 7) (fun _ => 0)
    case atStart => rfl
    case round =>
      subst hrel
      go_wp2_with fail
      refine (K.out _).mono ?_
      rintro e w' ⟨rfl, rfl⟩
      go_wp2_with fail
      go_ret
      exact ⟨rfl, rfl⟩
  · rw [if_pos rfl] at hv
    obtain ⟨p0, p1⟩ := hp rfl
    have HV := Lib.hid hv
    clear hv hp
    go_enter Try.func103, Try.ntmps103
    go_wp2_with fail
    go_loop [3] (fun i => ∃ k : Nat, k ≤ 8 ∧ i = .int .i64 ((k : Int) - 1) ∧ topTo p 8 = topTo p k) (fun i => (intOf i + 1).toNat)
    case atStart => exact ⟨8, by omega, rfl, rfl⟩
    case round =>
      obtain ⟨k, hk, rfl, ht⟩ := hrel
      rcases k with _ | k
      · have HT := Lib.hid ht
        clear ht
        go_wp2_with fail
        go_ret
        exact ⟨by rw [HV.out, HT.out]; rfl, rfl⟩
      · have ht' : topTo p 8 = if bitN p k = 1 then (k : Int) else topTo p k := ht
        rw [show ((k + 1 : Nat) : Int) - 1 = (k : Int) by omega]
        have hk0 : (k : Int) ≥ 0 := by omega
        clear ht
        by_cases hb : bitN p k = 1
        · rw [if_pos hb] at ht'
          have HT := Lib.hid ht'
          unfold bitN at hb
          clear ht'
          go_wp2_with fail
          refine (K.out _).mono ?_
          rintro e w' ⟨rfl, rfl⟩
          go_wp2_with fail
          go_ret
          exact ⟨by rw [HV.out, HT.out]; rfl, rfl⟩
        · rw [if_neg hb] at ht'
          have HT := Lib.hid ht'
          have hb' : (bits .and .i64 (p / 2 ^ k) 1 == 1) = false := by unfold bitN at hb; simpa using hb
          clear ht' hb
          go_wp2_with fail
          refine (K.out _).mono ?_
          rintro e w' ⟨rfl, rfl⟩
          go_wp2_with fail
          go_round
          case rel => exact ⟨k, by omega, by go_num, HT.out⟩
          case measure => simp [intOf]

theorem wrap_small {x : Int} (h0 : -1000 ≤ x) (h1 : x ≤ 1000) : wrap64 x = x := by unfold wrap64; omega

end Go.Proofs.Ytdbhfadiinmgiaa.Irqs
