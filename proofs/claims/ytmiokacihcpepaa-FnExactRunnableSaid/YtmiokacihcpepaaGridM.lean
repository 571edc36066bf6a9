/-
  Contracts of the law package's helpers over slices of slices of ints (equality, marking, looking the marks up, size); no statement about the project's code stands here. No condition.
-/
import Derived.Test.YtmiokacihcpepaaGridH
namespace Go.Proofs.Ytmiokacihcpepaa.Grid
set_option maxRecDepth 100000
open Go.ChangeShapes Go.WideShapes Go.ChangeAt Go.RowKit
open Go.Proofs.Ytmiokacihcpepaa.Base Go.Proofs.Ytmiokacihcpepaa.Mem Go.Proofs.Ytmiokacihcpepaa.Ints

set_option maxHeartbeats 1000000 in
theorem eqIntSS_same (A B : Option Addr) (n c d lo lo' hi hi' : Nat) (M : List (List Int)) (hs gs : List Hd) (w : World) (hc : capG M) (hl : M.length = n) (hh : hi ≤ w.heap.size) (hh' : hi' ≤ w.heap.size)
    (h1 : RG w lo hi A M hs) (h2 : RG w lo' hi' B M gs) :
    Calls Try.prog 28 #[.slice A n c, .slice B n d] w fun e w' => e = .returned (.bool true) ∧ Below w.heap.size w w' := by
  have hn : n ≤ 1048576 := hl ▸ hc.len
  have hta := hc.all
  have HC := Lib.hid hc
  clear hc
  have H1 := Lib.hid h1
  have H2 := Lib.hid h2
  have HL := Lib.hid hl
  clear h1 h2 hl
  go_enter Try.func28, Try.ntmps28
  go_wp2
  go_loopw [5] (fun i wr => ∃ (k : Nat), k ≤ n ∧ i = .int .i64 k ∧ Below w.heap.size w wr) (fun i _ => n - (intOf i).toNat)
  case atStart => exact ⟨0, Nat.zero_le _, rfl, Below.refl _ _⟩
  case round =>
    obtain ⟨k, hk, rfl, hb⟩ := hrel
    by_cases hlt : k < n
    · have hkl : k < M.length := by have := HL.out; omega
      obtain ⟨b, off, C, e, rfl, _, hbw, c1, hC⟩ := H1.out.page k hkl
      obtain ⟨b', off', D, f, rfl, _, hbw', c2, hD⟩ := H2.out.page k hkl
      have d1 : wr.cell? ⟨b, off + k, none⟩ = some (.slice C M[k].length e) := (hb.cell (by show b < _; omega)).trans c1
      have d2 : wr.cell? ⟨b', off' + k, none⟩ = some (.slice D M[k].length f) := (hb.cell (by show b' < _; omega)).trans c2
      have hi0 : (0 : Int) ≤ (k : Int) := Int.natCast_nonneg _
      have hi1 : (k : Int) < (n : Int) := by omega
      have hK := eqIntS_same C D M[k].length e f lo lo' hi hi' M[k] wr.drew (HC.out.at_ hkl) rfl ((hC.below hb hh).drewN 1) ((hD.below hb hh').drewN 1)
      have HK := Lib.hid hK
      clear c1 c2 hC hD hK
      generalize M[k] = r at d1 d2 HK
      go_wp2
      go_still_tail 8, (by kernel_rfl)
      go_wp2_with fail
      refine (HK.out).mono ?_
      rintro e w1 ⟨rfl, hb1⟩
      have hbw2 : Below w.heap.size w w1 := hb.drew.trans (hb1.mono hb.size)
      clear hb1
      go_wp2_with fail
      go_roundw
      case rel => exact ⟨k + 1, by omega, by go_num, hbw2⟩
      case measure => simp [intOf]; omega
    · go_wp2
      go_ret
      exact ⟨rfl, hb⟩

/-- The marks, page by page. -/
def gmarks : Nat → List (List Int) → List (List Int)
  | _, [] => []
  | k, r :: M => nmarks k r.length :: gmarks (k + r.length) M
theorem gmarks_len : ∀ k M, (gmarks k M).length = M.length
  | _, [] => rfl
  | k, r :: M => by simp [gmarks, gmarks_len (k + r.length) M]
theorem gmarks_append : ∀ k M N, gmarks k (M ++ N) = gmarks k M ++ gmarks (k + tot M) N
  | k, [], N => by simp [gmarks, tot]
  | k, r :: M, N => by simp [gmarks, tot, gmarks_append (k + r.length) M N, Nat.add_assoc]
theorem gmarks_at (k : Nat) (M : List (List Int)) (i : Nat) (hi : i < M.length) (h : i < (gmarks k M).length) : (gmarks k M)[i] = nmarks (k + tot (M.take i)) M[i].length := by
  have h1 : gmarks k M = gmarks k (M.take i) ++ gmarks (k + tot (M.take i)) (M.drop i) := by rw [← gmarks_append, List.take_append_drop]
  have h2 : M.drop i = M[i] :: M.drop (i + 1) := List.drop_eq_getElem_cons hi
  have hl : (gmarks k (M.take i)).length = i := by rw [gmarks_len, List.length_take, Nat.min_eq_left (by omega)]
  have h3 : (gmarks k M)[i]? = some (nmarks (k + tot (M.take i)) M[i].length) := by
    rw [h1, List.getElem?_append_right (by omega), hl, Nat.sub_self, h2]
    rfl
  exact (List.getElem?_eq_some_iff.1 h3).2
theorem gmarks_step (k0 k : Nat) (M : List (List Int)) (hk : k < M.length) :
    (gmarks k0 (M.take k) ++ M.drop k).set k (nmarks (k0 + tot (M.take k)) M[k].length) = gmarks k0 (M.take (k + 1)) ++ M.drop (k + 1) := by
  have h1 : M.drop k = M[k] :: M.drop (k + 1) := List.drop_eq_getElem_cons hk
  have hl : (gmarks k0 (M.take k)).length = k := by rw [gmarks_len, List.length_take, Nat.min_eq_left (by omega)]
  rw [List.set_append_right _ _ (by omega), hl, Nat.sub_self, h1, List.take_succ_eq_append_getElem hk, gmarks_append]
  simp only [gmarks, List.set_cons_zero, List.append_assoc, List.cons_append, List.nil_append]
theorem gmarks_tot : ∀ k M, tot (gmarks k M) = tot M
  | _, [] => rfl
  | k, r :: M => by simp [gmarks, tot, gmarks_tot (k + r.length) M, nmarks_len]

set_option maxHeartbeats 1000000 in
theorem markIntSS_any (A : Option Addr) (n c lo hi k0 : Nat) (M : List (List Int)) (hs : List Hd) (w : World) (hc : capG M) (hk0 : k0 ≤ 1048580) (hl : M.length = n) (hh : hi ≤ w.heap.size) (h1 : OG w lo hi A M hs) :
    Calls Try.prog 30 #[.slice A n c, .int .i64 k0] w fun e w' => e = .returned (.int .i64 ((k0 + tot M : Nat) : Int)) ∧ OG w' lo hi A (gmarks k0 M) hs ∧ Turned lo hi w w' := by
  have hn : n ≤ 1048576 := hl ▸ hc.len
  have hta := hc.all
  have HC := Lib.hid hc
  clear hc
  have H1 := Lib.hid h1
  have HL := Lib.hid hl
  clear h1 hl
  go_enter Try.func30, Try.ntmps30
  go_wp2
  go_loopw [1, 5] (fun q i wr => ∃ (k : Nat), k ≤ n ∧ i = .int .i64 k ∧ q = .int .i64 ((k0 + tot (M.take k) : Nat) : Int) ∧ OG wr lo hi A (gmarks k0 (M.take k) ++ M.drop k) hs ∧ Turned lo hi w wr) (fun _ i _ => n - (intOf i).toNat)
  case atStart => exact ⟨0, Nat.zero_le _, rfl, by simp [tot], by simpa [gmarks] using H1.out, Turned.refl _ _ _⟩
  case round =>
    obtain ⟨k, hk, rfl, rfl, hown, htn⟩ := hrel
    by_cases hlt : k < n
    · have hll : k < M.length := by have := HL.out; omega
      have hlk : (gmarks k0 (M.take k)).length = k := by rw [gmarks_len, List.length_take, Nat.min_eq_left (by omega)]
      have hkl : k < (gmarks k0 (M.take k) ++ M.drop k).length := by simp [hlk]; omega
      have hat : (gmarks k0 (M.take k) ++ M.drop k)[k] = M[k] := by
        rw [List.getElem_append_right (by omega)]
        simp [hlk]
      obtain ⟨b, off, B, c', lo', hi', rfl, hbw, c1, ho, hnext⟩ := hown.write (Nat.le_trans hh htn.size) k hkl
      rw [hat] at c1 ho hnext
      have hts := tot_take hll
      have htl := tot_take_le M (k + 1)
      have hK := markIntS_any B M[k].length c' lo' hi' (k0 + tot (M.take k)) M[k] wr (HC.out.at_ hll) (by omega) rfl ho
      have hst := gmarks_step k0 k M hll
      have hN := fun w2 => hnext w2 (nmarks (k0 + tot (M.take k)) (M[k]'hll).length) (nmarks_len _ _)
      rw [hst] at hN
      have HN := Lib.hid hN
      have hi0 : (0 : Int) ≤ (k : Int) := Int.natCast_nonneg _
      have hi1 : (k : Int) < (n : Int) := by omega
      clear hown hN hnext hst ho hat
      generalize hq : tot (M.take (k + 1)) = q' at hts htl
      have HQ := Lib.hid hq
      clear hq
      generalize M[k] = r at c1 hK HN hts
      have HK := Lib.hid hK
      clear hK
      go_wp2_with fail
      refine (HK.out).mono ?_
      rintro e w1 ⟨rfl, ho1, ht1⟩
      obtain ⟨hog, htt⟩ := HN.out w1 ho1 ht1
      have HF := Lib.hid (And.intro hog (htn.trans htt))
      clear hog htt ho1 ht1
      go_wp2_with fail
      go_roundw
      case rel => exact ⟨k + 1, by omega, by go_num, by rw [HQ.out, hts]; congr 1; omega, HF.out.1, HF.out.2⟩
      case measure => simp [intOf]; omega
    · have hkn : k = n := by omega
      subst hkn
      have hT : M.take k = M := List.take_of_length_le (by have := HL.out; omega)
      rw [List.drop_of_length_le (by have := HL.out; omega), List.append_nil, hT] at hown
      have HT := Lib.hid hT
      clear hT
      go_wp2
      go_ret
      exact ⟨by rw [HT.out]; rfl, hown, htn⟩

theorem szIntS_no (A : Option Addr) (n c : Nat) (k : Int) (w : World) (hk : 0 ≤ k) (hk1 : k ≤ 1048576) (hn : n ≤ 9223372036854775807) (h : k < n) :
    Calls Try.prog 22 #[.slice A n c, .int .i64 k] w fun e w' => e = .returned (.int .i64 (-1)) ∧ w = w' := by
  go_enter Try.func22, Try.ntmps22
  have hx : k - n < 0 := by omega
  go_wp2
  go_ret
  exact ⟨rfl, rfl⟩
theorem szIntS_yes (A : Option Addr) (n c : Nat) (k : Int) (w : World) (hk1 : k ≤ 1048576) (h : (n : Int) ≤ k) :
    Calls Try.prog 22 #[.slice A n c, .int .i64 k] w fun e w' => e = .returned (.int .i64 (k - n)) ∧ w = w' := by
  go_enter Try.func22, Try.ntmps22
  have hx : ¬ k - n < 0 := by omega
  go_wp2
  go_ret
  exact ⟨rfl, rfl⟩

/-- Each page is no longer than a machine allows. -/
def fitG (M : List (List Int)) : Prop := ∀ r ∈ M, r.length ≤ 9223372036854775807

/-- What is left of k. -/
def szv (n t k : Int) : Int := if n + t ≤ k then k - n - t else -1
theorem szv_no {n t k : Int} (h : k < n + t) : szv n t k = -1 := if_neg (by omega)
theorem szv_yes {n t k : Int} (h : n + t ≤ k) : szv n t k = k - n - t := if_pos h

theorem szIntSS_short (A : Option Addr) (n c : Nat) (k : Int) (w : World) (hk : 0 ≤ k) (hk1 : k ≤ 1048576) (hn : n ≤ 9223372036854775807) (h : k < n) :
    Calls Try.prog 20 #[.slice A n c, .int .i64 k] w fun e w' => e = .returned (.int .i64 (-1)) ∧ w = w' := by
  go_enter Try.func20, Try.ntmps20
  have hx : k - n < 0 := by omega
  go_wp2
  go_ret
  exact ⟨rfl, rfl⟩

set_option maxHeartbeats 1000000 in
theorem szIntSS_walk (A : Option Addr) (n c lo hi : Nat) (k : Int) (M : List (List Int)) (hs : List Hd) (w : World) (hk1 : k ≤ 1048576) (hl : M.length = n) (hf : fitG M) (h : (n : Int) ≤ k) (h1 : RG w lo hi A M hs) :
    Calls Try.prog 20 #[.slice A n c, .int .i64 k] w fun e w' => e = .returned (.int .i64 (szv n (tot M : Nat) k)) ∧ w = w' := by
  have H1 := Lib.hid h1
  have HL := Lib.hid hl
  have HF := Lib.hid hf
  clear h1 hl hf
  go_enter Try.func20, Try.ntmps20
  have hx : ¬ k - n < 0 := by omega
  go_wp2
  go_loop [1, 5] (fun q i => ∃ (j : Nat), j ≤ n ∧ i = .int .i64 j ∧ q = .int .i64 (k - n - (tot (M.take j) : Nat)) ∧ (n : Int) + (tot (M.take j) : Nat) ≤ k) (fun _ i => n - (intOf i).toNat)
  case atStart => exact ⟨0, Nat.zero_le _, rfl, by simp [tot], by simpa [tot] using h⟩
  case round =>
    obtain ⟨j, hj, rfl, rfl, hle⟩ := hrel
    by_cases hlt : j < n
    · have hll : j < M.length := by have := HL.out; omega
      obtain ⟨b, off, B, c', rfl, _, hbw, c1, hB⟩ := H1.out.page j hll
      have hfit := HF.out M[j] (List.getElem_mem _)
      have hts := tot_take hll
      have htl := tot_take_le M (j + 1)
      have hi0 : (0 : Int) ≤ (j : Int) := Int.natCast_nonneg _
      have hi1 : (j : Int) < (n : Int) := by omega
      clear hB
      generalize hq : tot (M.take (j + 1)) = q' at hts htl
      have HQ := Lib.hid hq
      clear hq
      generalize M[j] = r at c1 hts hfit
      generalize tot (M.take j) = t at hts hle ⊢
      by_cases hbig : k - n - (t : Int) < r.length
      · have hV : szv n (tot M : Nat) k = -1 := szv_no (by omega)
        have HV := Lib.hid hV
        clear hV
        go_wp2_with fail
        refine (szIntS_no B r.length c' (k - n - t) _ (by omega) (by omega) hfit hbig).mono ?_
        rintro e w1 ⟨rfl, rfl⟩
        go_wp2_with fail
        go_ret
        exact ⟨by rw [HV.out]; rfl, rfl⟩
      · have hpos : ¬ (k - n - (t : Int) - (r.length : Int) < 0) := by omega
        go_wp2_with fail
        refine (szIntS_yes B r.length c' (k - n - t) _ (by omega) (by omega)).mono ?_
        rintro e w1 ⟨rfl, rfl⟩
        go_wp2_with fail
        go_round
        case rel => exact ⟨j + 1, by omega, by go_num, by rw [HQ.out, hts]; congr 1; omega, by rw [HQ.out, hts]; omega⟩
        case measure => simp [intOf]; omega
    · have hkn : j = n := by omega
      subst hkn
      have hT : M.take j = M := List.take_of_length_le (by have := HL.out; omega)
      rw [hT] at hle ⊢
      have HV := Lib.hid (szv_yes hle)
      clear hT hle
      go_wp2
      go_ret
      exact ⟨by rw [HV.out]; rfl, rfl⟩
end Go.Proofs.Ytmiokacihcpepaa.Grid
