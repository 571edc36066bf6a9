/-
  For every slice of bytes the law FnUses returns true: at the drawn tables UsesOf answers as the given model's, the uses of all pages are as many as Mapped counts, and Mapped and SameTable answer as the given model's. No condition.
-/
import Derived.Test.YtocclalchakibaaUses
import Derived.Test.YtocclalchakibaaSame
import Derived.Test.YtocclalchakibaaSameInts
import Derived.Test.YtocclalchakibaaSlotDraws
import Derived.Test.YtocclalchakibaaSlotArgs
import Derived.Test.YtocclalchakibaaBig
namespace Go.Proofs.Ytocclalchakibaa.fnUses
open Go.ChangeShapes Go.WideShapes Go.ChangeAt Go.RowKit
open Go.Proofs.Ytocclalchakibaa.Base Go.Proofs.Ytocclalchakibaa.Mem Go.Proofs.Ytocclalchakibaa.Slots Go.Proofs.Ytocclalchakibaa.Ints Go.Proofs.Ytocclalchakibaa.Draw Go.Proofs.Ytocclalchakibaa.SDraw
set_option linter.unusedVariables false

def cU (l : List Sl) (p : Int) : Nat := l.countP fun s => decide (s.1 = p)
theorem uses_take (l : List Sl) (p : Int) : ∀ k, k ≤ l.length → (useS (l.take k) p).length = cU (l.take k) p
  | 0, _ => rfl
  | k + 1, h => by
    have ih := uses_take l p k (by omega)
    have hk : k < l.length := h
    have ht : l.take (k + 1) = l.take k ++ [(l[k].1, l[k].2)] := List.take_succ_eq_append_getElem hk
    rw [ht, useS_snoc, List.length_append, ih]
    unfold cU
    rw [List.countP_append]
    by_cases hx : l[k].1 = p <;> simp [hx]
theorem uses_len (l : List Sl) (p : Int) : (useS l p).length = cU l p := by
  have := uses_take l p l.length (Nat.le_refl _)
  rwa [List.take_of_length_le (Nat.le_refl _)] at this
theorem cU_le (l : List Sl) (p : Int) : cU l p ≤ l.length := List.countP_le_length

/-- The sum over the first pages of -2 .. 8 but -1. -/
def sumU (l : List Sl) : Nat → Nat
  | 0 => 0
  | k + 1 => sumU l k + if k = 1 then 0 else cU l ((k : Int) - 2)
theorem sumU_le (l : List Sl) : ∀ k, sumU l k ≤ k * l.length
  | 0 => by simp [sumU]
  | k + 1 => by
    have h1 := sumU_le l k
    have h2 := cU_le l ((k : Int) - 2)
    rw [sumU, Nat.succ_mul]
    split <;> omega
def farS (s : Sl) : Bool := decide (s.1 < -2) || decide (8 < s.1)
def farL (l : List Sl) : Bool := l.any farS
theorem cU_cons (s : Sl) (l : List Sl) (p : Int) : cU (s :: l) p = cU l p + if s.1 = p then 1 else 0 := by
  unfold cU
  rw [List.countP_cons]
  simp
theorem sum_mapped : ∀ l : List Sl, farL l = false → sumU l 11 = mapS l
  | [], _ => rfl
  | s :: l, h => by
    simp only [farL, List.any_cons, Bool.or_eq_false_iff] at h
    have ih := sum_mapped l h.2
    have hs : -2 ≤ s.1 ∧ s.1 ≤ 8 := by
      have := h.1
      simp [farS] at this
      omega
    have e1 : mapS (s :: l) = mapS l + if s.1 = -1 then 0 else 1 := by
      unfold mapS
      rw [List.countP_cons]
      by_cases hx : s.1 = -1 <;> simp [hx]
    have e2 : ∀ l : List Sl, sumU l 11 = cU l (-2) + cU l 0 + cU l 1 + cU l 2 + cU l 3 + cU l 4 + cU l 5 + cU l 6 + cU l 7 + cU l 8 := fun l => by
      simp [sumU]
    rw [e1, ← ih, e2, e2]
    simp only [cU_cons]
    have hv : s.1 = -2 ∨ s.1 = -1 ∨ s.1 = 0 ∨ s.1 = 1 ∨ s.1 = 2 ∨ s.1 = 3 ∨ s.1 = 4 ∨ s.1 = 5 ∨ s.1 = 6 ∨ s.1 = 7 ∨ s.1 = 8 := by omega
    rcases hv with e | e | e | e | e | e | e | e | e | e | e <;> simp [e] <;> omega
theorem blk_lies {w : World} {b lo hi : Nat} {cs : List Value} {T : TypeId} {fr : Nat × Nat} (h : w.heap[b]? = some (.cells cs.toArray T fr)) (h1 : lo ≤ b) (h2 : b < hi) : Lies w lo hi (some ⟨b, 0, none⟩) cs := fun j u hu => by
  refine ⟨b, 0, rfl, h1, h2, ?_⟩
  rw [Nat.zero_add, cell_of_row w b j _ _ _ h]
  simpa using hu
theorem uses_three : useS [(1, 0), (2, 0), (1, 0)] 1 = [0, 2] := by decide

set_option maxRecDepth 100000 in
set_option maxHeartbeats 8000000 in
theorem walk (A : Option Addr) (n c : Nat) (hn : n ≤ maxLen) {w : World} (hcode : CodeAt w A n) :
    Calls Try.prog 4 #[.slice A n c] w fun e w' => e = .returned (.bool true) ∧ Below w.heap.size w w' := by
  have hn' : n ≤ 9223372036854775807 := hn
  have HC := Lib.hid hcode
  clear hcode hn
  by_cases h1 : 1048576 < n
  · go_enter Try.func4, Try.ntmps4
    go_wp2_with (go_at_call 15; refine (big_yes A n c _ hn' h1).mono ?_; rintro e w' ⟨rfl, rfl⟩)
    go_ret
    exact ⟨rfl, Below.refl _ _⟩
  · have hn2 : n ≤ 1048576 := by omega
    clear h1 hn'
    go_enter Try.func4, Try.ntmps4
    go_wp2_with (go_at_call 15; refine (big_no A n c _ hn2).mono ?_; rintro e w' ⟨rfl, rfl⟩)
    refine (drawUses_any A n c _ hn2 HC.out).mono ?_
    rintro e w1 ⟨ad, m, cap, l, page, rfl, hpg, htab, hb1⟩
    have HT1 := Lib.hid htab
    have HB1 := Lib.hid hb1
    have hm6 := htab.1
    clear htab hb1 hpg
    go_wp2_with fail
    refine (impl_uses (some ad) m cap _ page l _ (by omega) HT1.out.2.1 HT1.out.2.2.2).mono ?_
    rintro e w2 ⟨A2, q, c2, rfl, hq, ho2, hb2⟩
    have HQ := Lib.hid hq
    have HO2 := Lib.hid ho2
    have HB2 := Lib.hid (btr HB1.out hb2)
    have HT2 := Lib.hid (HT1.out.below hb2)
    have hq6 : q ≤ 6 := by have := useS_le l page; have := HT1.out.2.1; omega
    clear hq ho2 hb2 HT1
    go_wp2_with fail
    refine (spec_uses (some ad) m cap _ page l _ (by omega) HT2.out.2.1 HT2.out.2.2.2).mono ?_
    rintro e w3 ⟨A3, q', c3, rfl, hq', ho3, hb3⟩
    obtain rfl : q' = q := by have := HQ.out; omega
    have HO3 := Lib.hid ho3
    have HO23 := Lib.hid (HO2.out.below hb3 (Nat.le_refl _))
    have HB3 := Lib.hid (btr HB2.out hb3)
    have HT3 := Lib.hid (HT2.out.below hb3)
    clear hq' ho3 hb3 HT2 HO2
    go_wp2_with fail
    refine (sameInts_same A2 A3 _ c2 c3 _ _ _ _ (useS l page) _ (by omega) HQ.out HO23.out.1 HO3.out.1).mono ?_
    rintro e w4 ⟨rfl, hb4⟩
    have HB4 := Lib.hid (btr HB3.out hb4)
    have HT4 := Lib.hid (HT3.out.below hb4)
    clear hb4 HT3 HO23 HO3 HQ
    go_wp2_with fail
    go_loopw [6, 7] (fun v p wr => ∃ k : Nat, k ≤ 11 ∧ p = .int .i64 ((k : Int) - 2) ∧ v = .int .i64 (sumU l k : Nat) ∧ Tab wr w.heap.size 6 ad m l ∧ Below w.heap.size w wr) (fun _ p _ => (9 - intOf p).toNat)
    case atStart => exact ⟨0, by omega, rfl, rfl, HT4.out, HB4.out⟩
    case round =>
      obtain ⟨k, hk, rfl, rfl, htab, hb⟩ := hrel
      have HT := Lib.hid htab
      have HB := Lib.hid hb
      clear htab hb
      have hsl := sumU_le l k
      have hll := HT.out.2.1
      have hsum : sumU l k ≤ 66 := Nat.le_trans hsl (Nat.le_trans (Nat.mul_le_mul hk (show l.length ≤ 6 by omega)) (by omega))
      clear hsl
      have HLL := Lib.hid hll
      clear hll
      by_cases hlt : k < 11
      · have hle : (k : Int) - 2 ≤ 8 := by omega
        have hstep : sumU l (k + 1) = sumU l k + if k = 1 then 0 else cU l ((k : Int) - 2) := rfl
        have HST := Lib.hid hstep
        clear hstep
        by_cases h1 : k = 1
        · subst h1
          go_wp2_with fail
          go_roundw
          case rel => exact ⟨2, by omega, rfl, by rw [HST.out]; simp, HT.out, HB.out⟩
          case measure => simp [intOf]
        · have hne : ((k : Int) - 2 != -1) = true := by simp; omega
          have hst := HST.out
          rw [if_neg h1, ← uses_len] at hst
          have HST := Lib.hid hst
          clear hst
          go_wp2_with fail
          refine (impl_uses (some ad) m cap _ ((k : Int) - 2) l _ (by omega) HLL.out HT.out.2.2.2).mono ?_
          rintro e w5 ⟨A5, q5, c5, rfl, hq5, ho5, hb5⟩
          have hq56 : q5 ≤ 6 := by have := useS_le l ((k : Int) - 2); have := HLL.out; omega
          have HQ5 := Lib.hid hq5
          have HT5 := Lib.hid (HT.out.below hb5)
          have HB5 := Lib.hid (btr HB.out hb5)
          clear hq5 ho5 hb5
          go_wp2_with fail
          go_roundw
          case rel => exact ⟨k + 1, by omega, by congr 1; omega, by rw [HST.out, HQ5.out]; go_num, HT5.out, HB5.out⟩
          case measure => simp [intOf]; omega
      · have hk11 : k = 11 := by omega
        subst hk11
        go_wp2_with fail
        refine (drawMapped_any A n c _ hn2 (HC.out.below HB.out)).mono ?_
        rintro e w6 ⟨ad6, m6, cap6, l6, rfl, ht6, hb6⟩
        have HM6 := Lib.hid ht6
        have HT6 := Lib.hid (HT.out.below hb6)
        have HB6 := Lib.hid (btr HB.out hb6)
        have hm66 := ht6.1
        clear ht6 hb6 HT HB
        go_wp2_with fail
        refine (drawSame_any A n c _ hn2 (HC.out.below HB6.out)).mono ?_
        rintro e w7 ⟨ad7, m7, cap7, l7, ad8, m8, cap8, l8, rfl, ht7, ht8, hb7⟩
        have HM7 := Lib.hid (HM6.out.below hb7)
        have HT7 := Lib.hid (HT6.out.below hb7)
        have HB7 := Lib.hid (btr HB6.out hb7)
        have HS7 := Lib.hid ht7
        have HS8 := Lib.hid ht8
        have hm7 := ht7.1
        have hm8 := ht8.1
        clear ht7 ht8 hb7 HM6 HT6 HB6
        go_wp2_with fail
        go_loop [11, 12] (fun v i => ∃ k : Nat, k ≤ m ∧ i = .int .i64 k ∧ v = .bool (farL (l.take k))) (fun _ i => m - (intOf i).toNat)
        case atStart => exact ⟨0, Nat.zero_le _, rfl, rfl⟩
        case round =>
          obtain ⟨k, hk, rfl, rfl⟩ := hrel
          by_cases hlt : k < m
          · have hkl : k < l.length := by have := HLL.out; omega
            obtain ⟨b, off, hAd, _, hbw, c1, c2⟩ := slot_at HT7.out.2.2.2 k hkl
            cases hAd
            have hi0 : (0 : Int) ≤ (k : Int) := Int.natCast_nonneg _
            have hi1 : (k : Int) < (m : Int) := by omega
            have hst : farL (l.take (k + 1)) = (farL (l.take k) || (decide (l[k].1 < -2) || decide (8 < l[k].1))) := by
              unfold farL
              rw [List.take_succ_eq_append_getElem hkl, List.any_append]
              simp [farS]
            have HST := Lib.hid hst
            clear hst c2
            generalize l[k].1 = x at c1 HST
            cases hf : farL (l.take k)
            · have hst := HST.out
              rw [hf, Bool.false_or] at hst
              have HST := Lib.hid hst
              clear hst
              by_cases hx1 : x < -2
              · go_wp2_with fail
                go_round
                case rel => exact ⟨k + 1, by omega, by go_num, by rw [HST.out, decide_eq_true hx1]; rfl⟩
                case measure => simp [intOf]; omega
              · have hd1 : decide (x < -2) = false := by simpa using hx1
                by_cases hx2 : 8 < x
                · have hd2 : decide (8 < x) = true := by simpa using hx2
                  go_wp2_with fail
                  go_round
                  case rel => exact ⟨k + 1, by omega, by go_num, by rw [HST.out, hd1, hd2]; rfl⟩
                  case measure => simp [intOf]; omega
                · have hd2 : decide (8 < x) = false := by simpa using hx2
                  go_wp2_with fail
                  go_round
                  case rel => exact ⟨k + 1, by omega, by go_num, by rw [HST.out, hd1, hd2]; rfl⟩
                  case measure => simp [intOf]; omega
            · have hst := HST.out
              rw [hf, Bool.true_or] at hst
              have HST := Lib.hid hst
              clear hst
              go_wp2_with fail
              go_round
              case rel => exact ⟨k + 1, by omega, by go_num, by rw [HST.out]⟩
              case measure => simp [intOf]; omega
          · have hkm : k = m := by omega
            subst hkm
            have hlk : l.take k = l := List.take_of_length_le (by have := HLL.out; omega)
            have HLK := Lib.hid hlk
            clear hlk
            have e3 := uses_three
            have hb8 := HB7
            cases hf : farL l
            · have hsm := sum_mapped l hf
              have HSM := Lib.hid hsm
              have hf' : farL (l.take k) = false := by rw [HLK.out]; exact hf
              clear hsm hf
              go_wp2_with fail
              refine (impl_mapped (some ad) k cap _ l _ (by omega) HLL.out HT7.out.2.2.2).mono ?_
              rintro e w8 ⟨rfl, hb8⟩
              rw [← HSM.out]
              have HB8 := Lib.hid (btr HB7.out hb8)
              have HM8 := Lib.hid (HM7.out.below hb8)
              have HS78 := Lib.hid (HS7.out.below hb8)
              have HS88 := Lib.hid (HS8.out.below hb8)
              clear hb8
              go_wp2_with fail
              refine (impl_mapped (some ad6) m6 cap6 _ l6 _ (by omega) HM8.out.2.1 HM8.out.2.2.2).mono ?_
              rintro e w9 ⟨rfl, hb9⟩
              have HB9 := Lib.hid (btr HB8.out hb9)
              have HM9 := Lib.hid (HM8.out.below hb9)
              have HS79 := Lib.hid (HS78.out.below hb9)
              have HS89 := Lib.hid (HS88.out.below hb9)
              clear hb9
              go_wp2_with fail
              refine (spec_mapped (some ad6) m6 cap6 _ _ l6 _ (by omega) HM9.out.2.1 HM9.out.2.2.2).mono ?_
              rintro e w' ⟨rfl, rfl⟩
              go_wp2_with fail
              refine (impl_same (some ad7) (some ad8) m7 m8 cap7 cap8 _ _ _ _ l7 l8 _ (by omega) (by omega) HS79.out.2.1 HS89.out.2.1 HS79.out.2.2.2 HS89.out.2.2.2).mono ?_
              rintro e w' ⟨rfl, dq, rfl⟩
              have HB10 := Lib.hid (show Below w.heap.size w (w9.drewN dq) from below_drewN HB9.out dq)
              have L7 := Lib.hid (HS79.out.2.2.2.drewN dq)
              have L8 := Lib.hid (HS89.out.2.2.2.drewN dq)
              generalize hbq : decide (l7 = l8) = bq
              have HBQ := Lib.hid hbq
              clear hbq
              generalize w9.drewN dq = w10 at HB10 L7 L8 ⊢
              go_wp2_with fail
              refine (law_same (some ad7) (some ad8) m7 m8 cap7 cap8 _ _ _ _ l7 l8 _ (by omega) (by omega) HS79.out.2.1 HS89.out.2.1 L7.out L8.out).mono ?_
              rintro e w' ⟨rfl, dr, rfl⟩
              rw [HBQ.out]
              have HB11 := Lib.hid (show Below w.heap.size w (w10.drewN dr) from below_drewN HB10.out dr)
              generalize w10.drewN dr = w11 at HB11 ⊢
              have qU := impl_uses (some ⟨w11.heap.size, 0, none⟩) 3 3 w11.heap.size 1 [(1, 0), (2, 0), (1, 0)] (w11.alloc (.cells #[.int .i64 1, .int .i64 0, .int .i64 2, .int .i64 0, .int .i64 1, .int .i64 0] 26)) (by omega) rfl (blk_lies (heap_alloc_new w11 _) (Nat.le_refl _) (by simp))
              rw [uses_three] at qU
              have QU := Lib.hid qU
              clear qU
              go_wp2_with fail
              refine (QU.out).mono ?_
              rintro e w12 ⟨A12, q12, c12, rfl, hq12, ho12, hb12⟩
              obtain rfl : q12 = 2 := hq12.symm
              have HO12 := Lib.hid (ho12.below ((Below.refl _ _).alloc (Nat.le_refl _) (.cells #[.int .i64 0, .int .i64 2] 3)) (Nat.le_refl _))
              have HB12 := Lib.hid (btr (btr (btr HB11.out ((Below.refl _ _).alloc (Nat.le_refl _) _)) hb12) ((Below.refl _ _).alloc (Nat.le_refl _) (.cells #[.int .i64 0, .int .i64 2] 3)))
              clear hq12 ho12 hb12 e3
              go_wp2_with fail
              refine (sameInts_same A12 (some ⟨w12.heap.size, 0, none⟩) 2 c12 2 _ _ _ _ [0, 2] _ (by omega) rfl HO12.out.1 (blk_lies (heap_alloc_new w12 _) (Nat.le_refl _) (Nat.lt_succ_self _))).mono ?_
              rintro e w13 ⟨rfl, hb13⟩
              have HB13 := Lib.hid (btr HB12.out hb13)
              clear hb13
              go_wp2_with fail
              go_ret
              exact ⟨rfl, HB13.out⟩
            · have hf' : farL (l.take k) = true := by rw [HLK.out]; exact hf
              clear hf
              have HB8 := HB7
              have HM8 := HM7
              have HS78 := HS7
              have HS88 := HS8
              go_wp2_with fail
              refine (impl_mapped (some ad6) m6 cap6 _ l6 _ (by omega) HM8.out.2.1 HM8.out.2.2.2).mono ?_
              rintro e w9 ⟨rfl, hb9⟩
              have HB9 := Lib.hid (btr HB8.out hb9)
              have HM9 := Lib.hid (HM8.out.below hb9)
              have HS79 := Lib.hid (HS78.out.below hb9)
              have HS89 := Lib.hid (HS88.out.below hb9)
              clear hb9
              go_wp2_with fail
              refine (spec_mapped (some ad6) m6 cap6 _ _ l6 _ (by omega) HM9.out.2.1 HM9.out.2.2.2).mono ?_
              rintro e w' ⟨rfl, rfl⟩
              go_wp2_with fail
              refine (impl_same (some ad7) (some ad8) m7 m8 cap7 cap8 _ _ _ _ l7 l8 _ (by omega) (by omega) HS79.out.2.1 HS89.out.2.1 HS79.out.2.2.2 HS89.out.2.2.2).mono ?_
              rintro e w' ⟨rfl, dq, rfl⟩
              have HB10 := Lib.hid (show Below w.heap.size w (w9.drewN dq) from below_drewN HB9.out dq)
              have L7 := Lib.hid (HS79.out.2.2.2.drewN dq)
              have L8 := Lib.hid (HS89.out.2.2.2.drewN dq)
              generalize hbq : decide (l7 = l8) = bq
              have HBQ := Lib.hid hbq
              clear hbq
              generalize w9.drewN dq = w10 at HB10 L7 L8 ⊢
              go_wp2_with fail
              refine (law_same (some ad7) (some ad8) m7 m8 cap7 cap8 _ _ _ _ l7 l8 _ (by omega) (by omega) HS79.out.2.1 HS89.out.2.1 L7.out L8.out).mono ?_
              rintro e w' ⟨rfl, dr, rfl⟩
              rw [HBQ.out]
              have HB11 := Lib.hid (show Below w.heap.size w (w10.drewN dr) from below_drewN HB10.out dr)
              generalize w10.drewN dr = w11 at HB11 ⊢
              have qU := impl_uses (some ⟨w11.heap.size, 0, none⟩) 3 3 w11.heap.size 1 [(1, 0), (2, 0), (1, 0)] (w11.alloc (.cells #[.int .i64 1, .int .i64 0, .int .i64 2, .int .i64 0, .int .i64 1, .int .i64 0] 26)) (by omega) rfl (blk_lies (heap_alloc_new w11 _) (Nat.le_refl _) (by simp))
              rw [uses_three] at qU
              have QU := Lib.hid qU
              clear qU
              go_wp2_with fail
              refine (QU.out).mono ?_
              rintro e w12 ⟨A12, q12, c12, rfl, hq12, ho12, hb12⟩
              obtain rfl : q12 = 2 := hq12.symm
              have HO12 := Lib.hid (ho12.below ((Below.refl _ _).alloc (Nat.le_refl _) (.cells #[.int .i64 0, .int .i64 2] 3)) (Nat.le_refl _))
              have HB12 := Lib.hid (btr (btr (btr HB11.out ((Below.refl _ _).alloc (Nat.le_refl _) _)) hb12) ((Below.refl _ _).alloc (Nat.le_refl _) (.cells #[.int .i64 0, .int .i64 2] 3)))
              clear hq12 ho12 hb12 e3
              go_wp2_with fail
              refine (sameInts_same A12 (some ⟨w12.heap.size, 0, none⟩) 2 c12 2 _ _ _ _ [0, 2] _ (by omega) rfl HO12.out.1 (blk_lies (heap_alloc_new w12 _) (Nat.le_refl _) (Nat.lt_succ_self _))).mono ?_
              rintro e w13 ⟨rfl, hb13⟩
              have HB13 := Lib.hid (btr HB12.out hb13)
              clear hb13
              go_wp2_with fail
              go_ret
              exact ⟨rfl, HB13.out⟩

/-! ### The row's step -/
set_option maxRecDepth 100000 in
theorem lifted (os : Os) (started : os.Started) (H : Type) (enc : TypeId × Value → H) :
    ReturnsInHanded {} Try.checked os 4 .any (Rows.fnUsesSpec.pre6 enc Try.prog Try.f4 Rows.fnUsesRow.domain false) (Rows.fnUsesSpec.post enc Try.prog Try.f4 false true false false) := by
  refine returnsInHanded_of_change (C := Try.checked) Base.own started (by kernel_rfl) Try.func4
    (ChangeSpec.witness6 (enc := enc) (C := Try.checked) false ⟨#[], #[.slice none 0 0], []⟩ 8 (by kernel_rfl) (by kernel_rfl) (by kernel_rfl) (by kernel_rfl)) ?_
  intro W base args ds gs before hval0 hW hcnd _
  have hval : ∀ (j : Nat) t v, Try.f4.params[j]? = some t → args[j]? = some v → Value.okWide Try.prog W .any base t v := hval0
  have hW' := hW
  obtain ⟨p, q, hA0, hV, rfl, hfz, hnd⟩ := hW
  have hA : DataW.TrodAll enc Try.prog W 0 (fun _ => true) true Try.f4.params.toList args.toList ds p := hA0
  have hA1 := hA
  rw [Try.params4] at hA hval
  obtain ⟨v0, vs0, d0, ds0, p0, q0, hargs, rfl, rfl, h0, r0⟩ := trodAll_cons hA
  obtain ⟨rfl, rfl, rfl⟩ := trodAll_nil r0
  obtain rfl : args = #[v0] := by cases args; simp_all
  obtain ⟨rfl, rfl⟩ := trodVars_none hV
  obtain ⟨A0, n0, c0, rfl, hn0, hcode0, _⟩ := Draw.open_code (hval 0 22 v0 rfl rfl) h0
  clear hA0 hval0
  rw [List.append_nil] at hW'
  refine (walk A0 n0 c0 hn0 hcode0).mono fun e W' ⟨he, hg⟩ => ?_
  subst he
  exact ⟨_, rfl, Mem.post_args Slots.laid (by kernel_rfl) rfl rfl rfl hW' hA1 hg (fun _ _ _ => (trodAll_cons_mk (shut_bool Try.underlying4 _) trodAll_mk0)) (ok_one (by kernel_rfl) rfl (okWide_bool_mk Try.underlying4 _))⟩

theorem over : Rows.fnUsesRow.holds Try.pinned (OpenSpec.ofChange Rows.fnUsesSpec) :=
  OpenClaim.holds_of_wide 4 Try.f4 rfl rfl rfl rfl rfl rfl rfl ⟨rfl, rfl, rfl, rfl, rfl⟩ rfl rfl rfl rfl rfl (by kernel_rfl) Try.func4 (by kernel_rfl)
    (of_decide_eq_true (by kernel_rfl)) (by unfold Func.isWrapper; first | (rw [if_pos (by decide +kernel)]; kernel_rfl) | (rw [if_neg (by decide +kernel)]; exact ⟨rfl, rfl⟩))
    (fun os started H enc _ => lifted os started H enc)

/-- The given statement. -/
theorem proved : Rows.FnUsesSaid :=
  over
#print axioms proved
end Go.Proofs.Ytocclalchakibaa.fnUses
