/-
  For every input the law FnWriteCells returns true: in a new memory of three pages six drawn cells are written one after the other, and every cell reads the last value that was written to it. No condition.
-/
import Derived.Test.YtkbcmeachfplnaaSizes
import Derived.Test.YtkbcmeachfplnaaGridArgs
import Derived.Test.YtkbcmeachfplnaaPlaces
import Derived.Test.YtkbcmeachfplnaaBig
namespace Go.Proofs.Ytkbcmeachfplnaa.fnWriteCells
open Go.ChangeShapes Go.WideShapes Go.ChangeAt Go.RowKit
open Go.Proofs.Ytkbcmeachfplnaa.Base Go.Proofs.Ytkbcmeachfplnaa.Mem Go.Proofs.Ytkbcmeachfplnaa.Ints Go.Proofs.Ytkbcmeachfplnaa.Grid Go.Proofs.Ytkbcmeachfplnaa.Draw
set_option linter.unusedVariables false

/-- A memory of three pages and the twelve values that are wanted. -/
def Sync (M : List (List Int)) (xs : List Int) : Prop :=
  ∃ a b c d e f g h i j k l : Int, M = [[a, b, c, d], [e, f, g, h], [i, j, k, l]] ∧ xs = [a, b, c, d, e, f, g, h, i, j, k, l] ∧ ∀ x ∈ xs, 0 ≤ x ∧ x ≤ 99
theorem Sync.start : Sync (zeros 3) [0, 0, 0, 0, 0, 0, 0, 0, 0, 0, 0, 0] := ⟨0, 0, 0, 0, 0, 0, 0, 0, 0, 0, 0, 0, rfl, rfl, by simp⟩
theorem Sync.step {M : List (List Int)} {xs : List Int} (h : Sync M xs) (j : Nat) (hj : j < 12) (page cell v : Int) (hp : page = (j : Int) / 4) (hc : cell = (j : Int) % 4) (h0 : 0 ≤ v) (h1 : v ≤ 99) : Sync (withC M page cell v) (xs.set j v) := by
  obtain ⟨a0, a1, a2, a3, a4, a5, a6, a7, a8, a9, a10, a11, rfl, rfl, ha⟩ := h
  have hv : cellB v = true := inB_iff.2 ⟨h0, h1⟩
  have hall : ∀ x ∈ [a0, a1, a2, a3, a4, a5, a6, a7, a8, a9, a10, a11].set j v, 0 ≤ x ∧ x ≤ 99 := fun x hx => by
    rcases List.mem_or_eq_of_mem_set hx with h | h
    · exact ha x h
    · rw [h]; exact ⟨h0, h1⟩
  subst hp hc
  clear ha h0 h1
  rcases (by omega : j = 0 ∨ j = 1 ∨ j = 2 ∨ j = 3 ∨ j = 4 ∨ j = 5 ∨ j = 6 ∨ j = 7 ∨ j = 8 ∨ j = 9 ∨ j = 10 ∨ j = 11) with rfl | rfl | rfl | rfl | rfl | rfl | rfl | rfl | rfl | rfl | rfl | rfl
  all_goals
    refine ⟨_, _, _, _, _, _, _, _, _, _, _, _, ?_, rfl, hall⟩
    simp [withC, hasCB, hasPB, inB, hv]
theorem Sync.at_ {M : List (List Int)} {xs : List Int} (h : Sync M xs) (j : Nat) (hj : j < 12) : cellAt M ((j : Int) / 4) ((j : Int) % 4) = xs.getD j 0 := by
  obtain ⟨a0, a1, a2, a3, a4, a5, a6, a7, a8, a9, a10, a11, rfl, rfl, ha⟩ := h
  clear ha
  rcases (by omega : j = 0 ∨ j = 1 ∨ j = 2 ∨ j = 3 ∨ j = 4 ∨ j = 5 ∨ j = 6 ∨ j = 7 ∨ j = 8 ∨ j = 9 ∨ j = 10 ∨ j = 11) with rfl | rfl | rfl | rfl | rfl | rfl | rfl | rfl | rfl | rfl | rfl | rfl
  all_goals simp [cellAt, hasCB, hasPB, inB]
theorem Sync.rd {M : List (List Int)} {xs : List Int} (h : Sync M xs) (j : Nat) (hj : j < 12) (hl : j < xs.length) (p c : Int) (hp : p = (j : Int) / 4) (hc : c = (j : Int) % 4) : cellAt M p c = xs[j] := by
  have := h.at_ j hj
  rw [List.getD_eq_getElem?_getD, List.getElem?_eq_getElem hl] at this
  rw [hp, hc]
  exact this
theorem _root_.Go.Proofs.Ytkbcmeachfplnaa.Grid.Drawn.more0 {w w' : World} (h : Drawn w w') (r : Nat) : Drawn w (w'.drewN r) := by
  obtain ⟨q, rfl⟩ := h
  exact ⟨q + r, World.drewN_drewN ..⟩
theorem Sync.ok {M : List (List Int)} {xs : List Int} (h : Sync M xs) : memB M 3 = true := by
  obtain ⟨a0, a1, a2, a3, a4, a5, a6, a7, a8, a9, a10, a11, rfl, rfl, ha⟩ := h
  simp only [List.mem_cons, List.not_mem_nil, or_false, forall_eq_or_imp, forall_eq] at ha
  simp [memB, pagesB, pageB, cellsB, cellB, inB, ha]
theorem Sync.len {M : List (List Int)} {xs : List Int} (h : Sync M xs) : M.length = 3 ∧ xs.length = 12 ∧ capG M := by
  obtain ⟨a0, a1, a2, a3, a4, a5, a6, a7, a8, a9, a10, a11, rfl, rfl, ha⟩ := h
  exact ⟨rfl, rfl, capG.of (by simp [tot])⟩

theorem made12 : (madeCells (Value.int .i64 0).cells (12 * 1)).toList = ncells [0, 0, 0, 0, 0, 0, 0, 0, 0, 0, 0, 0] := by kernel_rfl
theorem make12 (w : World) : ∃ wm, (Instr.makeSlice 32 (.int .i64 12) (.int .i64 12)).run Try.prog w = .ok (.slice (some ⟨w.heap.size, 0, none⟩) 12 12) wm ∧
    wm.ownsRow w.heap.size 3 1 (.slice (some ⟨w.heap.size, 0, none⟩) 12 12) 12 (ncells [0, 0, 0, 0, 0, 0, 0, 0, 0, 0, 0, 0]) ∧ Below w.heap.size w wm := by
  obtain ⟨i0, hi0, hz0, hz1, hz2⟩ := info_parts Grid.Try.infoInt
  obtain ⟨wm, hmk, hown, hgm⟩ := run_make_full (P := Try.prog) w w.heap.size 32 3 i0 _ 1 Try.underlying32 hi0 hz0 hz1 .i64 .i64 12 (by rw [hz2]; omega) (by simp only [maxLen]; omega) (Nat.le_refl _)
  rw [made12] at hown
  exact ⟨wm, hmk, hown, (Below.refl _ _).grown hgm (Nat.le_refl _) (fun _ h => by cases h)⟩
theorem flip_same {P : Program} {f : FuncId} {args : Array Value} {w : World} {v : Value} (h : Calls P f args w fun e w' => e = .returned v ∧ w = w') : Calls P f args w fun e w' => e = .returned v ∧ w' = w := h.mono fun _ _ ⟨a, b⟩ => ⟨a, b.symm⟩
theorem _root_.Go.World.ownsRow.low {w : World} {base base' size n : Nat} {e : TypeId} {v : Value} {xs : List Value} (h : w.ownsRow base e size v n xs) (hb : base' ≤ base) : w.ownsRow base' e size v n xs := by
  rcases h.2 with ⟨h1, h2⟩ | ⟨g, cap, cur, h1, h2, h3⟩
  · exact ⟨h.1, .inl ⟨h1, h2⟩⟩
  · exact ⟨h.1, .inr ⟨g, cap, cur, h1, Nat.le_trans hb h2, h3⟩⟩
theorem _root_.Go.Proofs.Ytkbcmeachfplnaa.Grid.Drawn.rg {w w' : World} (h : Drawn w w') {lo : Nat} {A : Option Addr} {M : List (List Int)} {hs : List Hd} (k : RG w lo w.heap.size A M hs) : RG w' lo w'.heap.size A M hs := by
  obtain ⟨q, rfl⟩ := h
  exact k
theorem row_at {w : World} {base g n c : Nat} {e : TypeId} {l : List Int} (h : w.ownsRow base e 1 (.slice (some ⟨g, 0, none⟩) n c) n (ncells l)) (k : Nat) (hk : k < l.length) : w.cell? ⟨g, k, none⟩ = some (.int .i64 l[k]) := by
  have hl := h.1
  rw [ncells_len] at hl
  rw [h.cellAt k (by omega)]
  exact ncells_at l k hk

set_option maxRecDepth 100000 in
set_option maxHeartbeats 8000000 in
theorem walk (A : Option Addr) (n c : Nat) (hn : n ≤ 9223372036854775807) {w : World} (hcode : CodeAt w A n) :
    Calls Try.prog 5 #[.slice A n c] w fun e w' => e = .returned (.bool true) ∧ Below w.heap.size w w' := by
  by_cases hbig : 1048576 < n
  · clear hcode
    go_enter Try.func5, Try.ntmps5
    go_wp2_with fail
    refine (big_yes A n c _ hn hbig).mono ?_
    rintro e w' ⟨rfl, rfl⟩
    go_wp2_with fail
    go_ret
    exact ⟨rfl, Below.refl _ _⟩
  have hn2 : n ≤ 1048576 := by omega
  have HC := Lib.hid hcode
  have HN3 := Lib.hid (show zeros (newN 3) = zeros 3 from rfl)
  clear hcode hbig hn
  go_enter Try.func5, Try.ntmps5
  go_wp2_with fail
  refine (big_no A n c _ hn2).mono ?_
  rintro e w' ⟨rfl, rfl⟩
  go_wp2_with fail
  refine (places_any A n c _ hn2 HC.out).mono ?_
  rintro e w1 ⟨g, cap, l, rfl, hl, hall, hown, hb1⟩
  have HP := Lib.hid (show w1.ownsRow w.heap.size 3 1 (.slice (some ⟨g, 0, none⟩) 12 cap) 12 (ncells l) from hown)
  have hg := hown.lt g rfl
  have HL := Lib.hid hl
  have HA := Lib.hid hall
  have HB1 := Lib.hid hb1
  have hs1 := hb1.size
  clear hl hall hown hb1
  go_wp2_with fail
  refine (impl_memNew 3 _).mono ?_
  rintro e w2 ⟨X2, m2, d2, q2, rfl, hx2, ho2, hb2⟩
  rw [HN3.out] at hx2 ho2
  obtain rfl : m2 = 3 := hx2.symm
  have HM2 := Lib.hid (ho2.rg.wide (lo' := 0) (Nat.zero_le _) (Nat.le_refl _))
  have HP2 := Lib.hid (HP.out.kept (grown_of_below hb2 none) (.inr (by simp [Value.ownBlock])))
  have HB2 := Lib.hid (btr HB1.out hb2)
  have hs2 := hb2.size
  clear hx2 ho2 hb2 HP HB1
  obtain ⟨w3, hmk, hown3, hb3⟩ := make12 w2
  have HM3 := Lib.hid ((HM2.out.below hb3 (Nat.le_refl _)).wide (lo' := 0) (hi' := w3.heap.size) (Nat.zero_le _) hb3.size)
  have HP3 := Lib.hid (HP2.out.kept (grown_of_below hb3 none) (.inr (by simp [Value.ownBlock])))
  have HW3 := Lib.hid hown3
  have HB3 := Lib.hid (btr HB2.out hb3)
  have hs3 := (hown3.lt _ rfl).2
  clear hown3 hb3 HM2 HP2 HB2
  have hgw : g ≠ w2.heap.size := by omega
  have hs2' : w.heap.size ≤ w2.heap.size := by omega
  have hgw' : w2.heap.size ≠ g := by omega
  have hg0 := hg.1
  clear hg
  generalize w2.heap.size = gw at hmk HW3 hs3 hgw hgw' hs2 hs2'
  go_wp2_with fail
  go_loopw [4, 6, 7] (fun m i _ wr => ∃ (z : Int) (X : Option Addr) (d : Nat) (M : List (List Int)) (xs : List Int) (gs : List Hd), 0 ≤ z ∧ z ≤ 6 ∧ i = .int .i64 z ∧ m = .slice X 3 d ∧ Sync M xs ∧ RG wr 0 wr.heap.size X M gs ∧
    wr.ownsRow w.heap.size 3 1 (.slice (some ⟨g, 0, none⟩) 12 cap) 12 (ncells l) ∧ wr.ownsRow w.heap.size 3 1 (.slice (some ⟨gw, 0, none⟩) 12 12) 12 (ncells xs) ∧ Below w.heap.size w wr) (fun _ i _ _ => 6 - (intOf i).toNat)
  case atStart => exact ⟨0, X2, d2, zeros 3, [0, 0, 0, 0, 0, 0, 0, 0, 0, 0, 0, 0], q2, by omega, by omega, rfl, rfl, Sync.start, HM3.out, HP3.out, HW3.out.low hs2', HB3.out⟩
  case round =>
    obtain ⟨z, X, d, M, xs, gs, hz0, hz6, rfl, rfl, hsy, hM, hP, hW, hB⟩ := hrel
    have HS := Lib.hid hsy
    have HM := Lib.hid hM
    have HP := Lib.hid hP
    have HW := Lib.hid hW
    have HB := Lib.hid hB
    have hgwr := (hW.lt gw rfl).2
    have hbs := hB.size
    clear hsy hM hP hW hB
    by_cases hlt : z < 6
    · obtain ⟨k, rfl⟩ := Int.eq_ofNat_of_zero_le hz0
      have hk : k < 6 := by omega
      have hkl : k < l.length := by rw [HL.out]; omega
      have hkl1 : k + 1 < l.length := by rw [HL.out]; omega
      have c1 := row_at HP.out k hkl
      have c2 := row_at HP.out (k + 1) hkl1
      obtain ⟨hx0, hx1⟩ := HA.out _ (List.getElem_mem hkl)
      obtain ⟨hy0, hy1⟩ := HA.out _ (List.getElem_mem hkl1)
      generalize l[k] = x at c1 hx0 hx1
      obtain ⟨y, hy⟩ : ∃ y, l[k + 1] = y := ⟨_, rfl⟩
      rw [hy] at c2 hy0 hy1
      have HY := Lib.hid hy
      have hkl1' := hkl1
      clear hy
      obtain ⟨j, hj⟩ := Int.eq_ofNat_of_zero_le (Int.emod_nonneg x (show (12 : Int) ≠ 0 by omega))
      have hj12 : j < 12 := by omega
      have hq0 : 0 ≤ y % 100 := Int.emod_nonneg _ (by omega)
      have hq1 : y % 100 ≤ 99 := by omega
      have HC2 := Lib.hid HS.out.len
      have HQ := Lib.hid (HS.out.step j hj12 ((j : Int) / 4) ((j : Int) % 4) (y % 100) rfl rfl hq0 hq1)
      have HJ := Lib.hid hj
      go_wp2_with fail
      refine (impl_withC X 3 d 0 _ _ _ M gs _ HC2.out.2.2 HC2.out.1 HM.out).mono ?_
      rintro e w4 ⟨X4, m4, d4, q4, rfl, hx4, ho4, hb4⟩
      have hs' := HQ.out
      obtain rfl : m4 = 3 := hx4.symm.trans hs'.len.1
      have HP4 := Lib.hid (HP.out.kept (grown_of_below hb4 none) (.inr (by simp [Value.ownBlock])))
      have HW4 := Lib.hid (HW.out.kept (grown_of_below hb4 none) (.inr (by simp [Value.ownBlock])))
      have HB4 := Lib.hid (btr HB.out hb4)
      have HO4 := Lib.hid ho4
      have hs4 := hb4.size
      have c4 := row_at HP4.out (k + 1) hkl1'
      rw [HY.out] at c4
      obtain ⟨⟨u5, e5⟩, f5⟩ := row_one HW4.out hj12
      have hst := (HW4.out.stored j (.int .i64 (y % 100))).1
      rw [ncells_set] at hst
      have hP5 := HP4.out.kept (HW4.out.stored j (.int .i64 (y % 100))).2 (.inr (by simp [Value.ownBlock]; exact hgw))
      have hM5 : RG (w4.setCell ⟨gw, j, none⟩ (.int .i64 (y % 100))) 0 (w4.setCell ⟨gw, j, none⟩ (.int .i64 (y % 100))).heap.size X4 _ q4 := ((HO4.out.kept (fun q q1 q2 => Below.heap_setCell w4 ⟨gw, j, none⟩ _ q (by show q ≠ gw; omega))).rg.wide (Nat.zero_le _) (by simp))
      have hB5 : Below w.heap.size w (w4.setCell ⟨gw, j, none⟩ (.int .i64 (y % 100))) := HB4.out.setCell (p := ⟨gw, j, none⟩) hs2' _
      have HF := Lib.hid (And.intro hst (And.intro hP5 (And.intro hM5 hB5)))
      clear hx4 ho4 hb4 hst hP5 hM5 hB5 hs'
      go_wp2_with fail
      go_roundw
      case rel => exact ⟨k + 1, X4, d4, _, _, q4, by omega, by omega, rfl, rfl, HQ.out, HF.out.2.2.1, HF.out.2.1, HF.out.1, HF.out.2.2.2⟩
      case measure => simp [intOf]; omega
    · obtain rfl : z = 6 := by omega
      have HC2 := Lib.hid HS.out.len
      go_wp2_with fail
      go_loopw [8] (fun i wq => ∃ (z : Int), 0 ≤ z ∧ z ≤ 12 ∧ i = .int .i64 z ∧ Drawn wr wq) (fun i _ => 12 - (intOf i).toNat)
      case atStart => exact ⟨0, by omega, by omega, rfl, 0, rfl⟩
      case round =>
        obtain ⟨z, hz0, hz12, rfl, hD⟩ := hrel
        have HD := Lib.hid hD
        have hMq := hD.rg HM.out
        have hWq := fun j hj => (hD.cell ⟨gw, j, none⟩).trans (row_at HW.out j hj)
        have HMq := Lib.hid hMq
        have HWq := Lib.hid hWq
        clear hD hMq hWq
        by_cases hlt2 : z < 12
        · rcases (by omega : z = 0 ∨ z = 1 ∨ z = 2 ∨ z = 3 ∨ z = 4 ∨ z = 5 ∨ z = 6 ∨ z = 7 ∨ z = 8 ∨ z = 9 ∨ z = 10 ∨ z = 11) with rfl | rfl | rfl | rfl | rfl | rfl | rfl | rfl | rfl | rfl | rfl | rfl
          · have hl9 : 0 < xs.length := by rw [HC2.out.2.1]; omega
            have e9 := HWq.out 0 hl9
            have hv := HS.out.rd 0 (by omega) hl9 0 0 rfl rfl
            have hK := fun q => flip_same (impl_cellAt X 3 d 0 (wr.drewN q).heap.size 0 0 M gs (wr.drewN q) HC2.out.2.2 HC2.out.1 (HMq.out.drewN q))
            rw [hv] at hK
            generalize xs[0] = x9 at e9 hK hv
            have HK := Lib.hid hK
            clear hK hv
            go_wp2_with fail
            go_quiet ((go_at_call 20; exact Calls.quiet_of_same (HK.out _)))
            go_wp2_with fail
            go_roundw
            case rel => exact ⟨1, by omega, by omega, by first | rfl | go_num, HD.out.more0 _⟩
            case measure => simp [intOf]
          · have hl9 : 1 < xs.length := by rw [HC2.out.2.1]; omega
            have e9 := HWq.out 1 hl9
            have hv := HS.out.rd 1 (by omega) hl9 0 1 rfl rfl
            have hK := fun q => flip_same (impl_cellAt X 3 d 0 (wr.drewN q).heap.size 0 1 M gs (wr.drewN q) HC2.out.2.2 HC2.out.1 (HMq.out.drewN q))
            rw [hv] at hK
            generalize xs[1] = x9 at e9 hK hv
            have HK := Lib.hid hK
            clear hK hv
            go_wp2_with fail
            go_quiet ((go_at_call 20; exact Calls.quiet_of_same (HK.out _)))
            go_wp2_with fail
            go_roundw
            case rel => exact ⟨2, by omega, by omega, by first | rfl | go_num, HD.out.more0 _⟩
            case measure => simp [intOf]
          · have hl9 : 2 < xs.length := by rw [HC2.out.2.1]; omega
            have e9 := HWq.out 2 hl9
            have hv := HS.out.rd 2 (by omega) hl9 0 2 rfl rfl
            have hK := fun q => flip_same (impl_cellAt X 3 d 0 (wr.drewN q).heap.size 0 2 M gs (wr.drewN q) HC2.out.2.2 HC2.out.1 (HMq.out.drewN q))
            rw [hv] at hK
            generalize xs[2] = x9 at e9 hK hv
            have HK := Lib.hid hK
            clear hK hv
            go_wp2_with fail
            go_quiet ((go_at_call 20; exact Calls.quiet_of_same (HK.out _)))
            go_wp2_with fail
            go_roundw
            case rel => exact ⟨3, by omega, by omega, by first | rfl | go_num, HD.out.more0 _⟩
            case measure => simp [intOf]
          · have hl9 : 3 < xs.length := by rw [HC2.out.2.1]; omega
            have e9 := HWq.out 3 hl9
            have hv := HS.out.rd 3 (by omega) hl9 0 3 rfl rfl
            have hK := fun q => flip_same (impl_cellAt X 3 d 0 (wr.drewN q).heap.size 0 3 M gs (wr.drewN q) HC2.out.2.2 HC2.out.1 (HMq.out.drewN q))
            rw [hv] at hK
            generalize xs[3] = x9 at e9 hK hv
            have HK := Lib.hid hK
            clear hK hv
            go_wp2_with fail
            go_quiet ((go_at_call 20; exact Calls.quiet_of_same (HK.out _)))
            go_wp2_with fail
            go_roundw
            case rel => exact ⟨4, by omega, by omega, by first | rfl | go_num, HD.out.more0 _⟩
            case measure => simp [intOf]
          · have hl9 : 4 < xs.length := by rw [HC2.out.2.1]; omega
            have e9 := HWq.out 4 hl9
            have hv := HS.out.rd 4 (by omega) hl9 1 0 rfl rfl
            have hK := fun q => flip_same (impl_cellAt X 3 d 0 (wr.drewN q).heap.size 1 0 M gs (wr.drewN q) HC2.out.2.2 HC2.out.1 (HMq.out.drewN q))
            rw [hv] at hK
            generalize xs[4] = x9 at e9 hK hv
            have HK := Lib.hid hK
            clear hK hv
            go_wp2_with fail
            go_quiet ((go_at_call 20; exact Calls.quiet_of_same (HK.out _)))
            go_wp2_with fail
            go_roundw
            case rel => exact ⟨5, by omega, by omega, by first | rfl | go_num, HD.out.more0 _⟩
            case measure => simp [intOf]
          · have hl9 : 5 < xs.length := by rw [HC2.out.2.1]; omega
            have e9 := HWq.out 5 hl9
            have hv := HS.out.rd 5 (by omega) hl9 1 1 rfl rfl
            have hK := fun q => flip_same (impl_cellAt X 3 d 0 (wr.drewN q).heap.size 1 1 M gs (wr.drewN q) HC2.out.2.2 HC2.out.1 (HMq.out.drewN q))
            rw [hv] at hK
            generalize xs[5] = x9 at e9 hK hv
            have HK := Lib.hid hK
            clear hK hv
            go_wp2_with fail
            go_quiet ((go_at_call 20; exact Calls.quiet_of_same (HK.out _)))
            go_wp2_with fail
            go_roundw
            case rel => exact ⟨6, by omega, by omega, by first | rfl | go_num, HD.out.more0 _⟩
            case measure => simp [intOf]
          · have hl9 : 6 < xs.length := by rw [HC2.out.2.1]; omega
            have e9 := HWq.out 6 hl9
            have hv := HS.out.rd 6 (by omega) hl9 1 2 rfl rfl
            have hK := fun q => flip_same (impl_cellAt X 3 d 0 (wr.drewN q).heap.size 1 2 M gs (wr.drewN q) HC2.out.2.2 HC2.out.1 (HMq.out.drewN q))
            rw [hv] at hK
            generalize xs[6] = x9 at e9 hK hv
            have HK := Lib.hid hK
            clear hK hv
            go_wp2_with fail
            go_quiet ((go_at_call 20; exact Calls.quiet_of_same (HK.out _)))
            go_wp2_with fail
            go_roundw
            case rel => exact ⟨7, by omega, by omega, by first | rfl | go_num, HD.out.more0 _⟩
            case measure => simp [intOf]
          · have hl9 : 7 < xs.length := by rw [HC2.out.2.1]; omega
            have e9 := HWq.out 7 hl9
            have hv := HS.out.rd 7 (by omega) hl9 1 3 rfl rfl
            have hK := fun q => flip_same (impl_cellAt X 3 d 0 (wr.drewN q).heap.size 1 3 M gs (wr.drewN q) HC2.out.2.2 HC2.out.1 (HMq.out.drewN q))
            rw [hv] at hK
            generalize xs[7] = x9 at e9 hK hv
            have HK := Lib.hid hK
            clear hK hv
            go_wp2_with fail
            go_quiet ((go_at_call 20; exact Calls.quiet_of_same (HK.out _)))
            go_wp2_with fail
            go_roundw
            case rel => exact ⟨8, by omega, by omega, by first | rfl | go_num, HD.out.more0 _⟩
            case measure => simp [intOf]
          · have hl9 : 8 < xs.length := by rw [HC2.out.2.1]; omega
            have e9 := HWq.out 8 hl9
            have hv := HS.out.rd 8 (by omega) hl9 2 0 rfl rfl
            have hK := fun q => flip_same (impl_cellAt X 3 d 0 (wr.drewN q).heap.size 2 0 M gs (wr.drewN q) HC2.out.2.2 HC2.out.1 (HMq.out.drewN q))
            rw [hv] at hK
            generalize xs[8] = x9 at e9 hK hv
            have HK := Lib.hid hK
            clear hK hv
            go_wp2_with fail
            go_quiet ((go_at_call 20; exact Calls.quiet_of_same (HK.out _)))
            go_wp2_with fail
            go_roundw
            case rel => exact ⟨9, by omega, by omega, by first | rfl | go_num, HD.out.more0 _⟩
            case measure => simp [intOf]
          · have hl9 : 9 < xs.length := by rw [HC2.out.2.1]; omega
            have e9 := HWq.out 9 hl9
            have hv := HS.out.rd 9 (by omega) hl9 2 1 rfl rfl
            have hK := fun q => flip_same (impl_cellAt X 3 d 0 (wr.drewN q).heap.size 2 1 M gs (wr.drewN q) HC2.out.2.2 HC2.out.1 (HMq.out.drewN q))
            rw [hv] at hK
            generalize xs[9] = x9 at e9 hK hv
            have HK := Lib.hid hK
            clear hK hv
            go_wp2_with fail
            go_quiet ((go_at_call 20; exact Calls.quiet_of_same (HK.out _)))
            go_wp2_with fail
            go_roundw
            case rel => exact ⟨10, by omega, by omega, by first | rfl | go_num, HD.out.more0 _⟩
            case measure => simp [intOf]
          · have hl9 : 10 < xs.length := by rw [HC2.out.2.1]; omega
            have e9 := HWq.out 10 hl9
            have hv := HS.out.rd 10 (by omega) hl9 2 2 rfl rfl
            have hK := fun q => flip_same (impl_cellAt X 3 d 0 (wr.drewN q).heap.size 2 2 M gs (wr.drewN q) HC2.out.2.2 HC2.out.1 (HMq.out.drewN q))
            rw [hv] at hK
            generalize xs[10] = x9 at e9 hK hv
            have HK := Lib.hid hK
            clear hK hv
            go_wp2_with fail
            go_quiet ((go_at_call 20; exact Calls.quiet_of_same (HK.out _)))
            go_wp2_with fail
            go_roundw
            case rel => exact ⟨11, by omega, by omega, by first | rfl | go_num, HD.out.more0 _⟩
            case measure => simp [intOf]
          · have hl9 : 11 < xs.length := by rw [HC2.out.2.1]; omega
            have e9 := HWq.out 11 hl9
            have hv := HS.out.rd 11 (by omega) hl9 2 3 rfl rfl
            have hK := fun q => flip_same (impl_cellAt X 3 d 0 (wr.drewN q).heap.size 2 3 M gs (wr.drewN q) HC2.out.2.2 HC2.out.1 (HMq.out.drewN q))
            rw [hv] at hK
            generalize xs[11] = x9 at e9 hK hv
            have HK := Lib.hid hK
            clear hK hv
            go_wp2_with fail
            go_quiet ((go_at_call 20; exact Calls.quiet_of_same (HK.out _)))
            go_wp2_with fail
            go_roundw
            case rel => exact ⟨12, by omega, by omega, by first | rfl | go_num, HD.out.more0 _⟩
            case measure => simp [intOf]
        · obtain rfl : z = 12 := by omega
          go_wp2_with fail
          refine (impl_memOk X 3 d 0 _ 3 M gs _ HC2.out.2.2 HC2.out.1 HMq.out).mono ?_
          rintro e w' ⟨rfl, rfl⟩
          have HOK := Lib.hid HS.out.ok
          have HB9 := Lib.hid (HB.out.trans ((Drawn.below HD.out).mono hbs))
          go_wp2_with fail
          go_ret
          exact ⟨by rw [HOK.out]; rfl, HB9.out⟩

/-! ### The row's step -/
set_option maxRecDepth 100000 in
theorem lifted (os : Os) (started : os.Started) (H : Type) (enc : TypeId × Value → H) :
    ReturnsInHanded {} Try.checked os 5 .any (Rows.fnWriteCellsSpec.pre6 enc Try.prog Try.f5 Rows.fnWriteCellsRow.domain false) (Rows.fnWriteCellsSpec.post enc Try.prog Try.f5 false true false false) := by
  refine returnsInHanded_of_change (C := Try.checked) Base.own started (by kernel_rfl) Try.func5
    (ChangeSpec.witness6 (enc := enc) (C := Try.checked) false ⟨#[], #[.slice none 0 0], []⟩ 8 (by kernel_rfl) (by kernel_rfl) (by kernel_rfl) (by kernel_rfl)) ?_
  intro W base args ds gs before hval0 hW hcnd _
  have hval : ∀ (j : Nat) t v, Try.f5.params[j]? = some t → args[j]? = some v → Value.okWide Try.prog W .any base t v := hval0
  have hW' := hW
  obtain ⟨p, q, hA0, hV, rfl, hfz, hnd⟩ := hW
  have hA : DataW.TrodAll enc Try.prog W 0 (fun _ => true) true Try.f5.params.toList args.toList ds p := hA0
  have hA1 := hA
  rw [Try.params5] at hA hval
  obtain ⟨v0, vs0, d0, ds0, p0, q0, hargs, rfl, rfl, h0, r0⟩ := trodAll_cons hA
  obtain ⟨rfl, rfl, rfl⟩ := trodAll_nil r0
  obtain rfl : args = #[v0] := by cases args; simp_all
  obtain ⟨rfl, rfl⟩ := trodVars_none hV
  obtain ⟨A0, n0, c0, rfl, hn0, hcode0, _⟩ := Draw.open_code (hval 0 22 v0 rfl rfl) h0
  clear hA0 hval0
  rw [List.append_nil] at hW'
  refine (walk A0 n0 c0 hn0 hcode0).mono fun e W' ⟨he, hg⟩ => ?_
  subst he
  exact ⟨_, rfl, Mem.post_args Grid.laid (by kernel_rfl) rfl rfl rfl hW' hA1 hg (fun _ _ _ => (trodAll_cons_mk (shut_bool Try.underlying4 _) trodAll_mk0)) (ok_one (by kernel_rfl) rfl (okWide_bool_mk Try.underlying4 _))⟩

theorem over : Rows.fnWriteCellsRow.holds Try.pinned (OpenSpec.ofChange Rows.fnWriteCellsSpec) :=
  OpenClaim.holds_of_wide 5 Try.f5 rfl rfl rfl rfl rfl rfl rfl ⟨rfl, rfl, rfl, rfl, rfl⟩ rfl rfl rfl rfl rfl (by kernel_rfl) Try.func5 (by kernel_rfl)
    (of_decide_eq_true (by kernel_rfl)) (by unfold Func.isWrapper; first | (rw [if_pos (by decide +kernel)]; kernel_rfl) | (rw [if_neg (by decide +kernel)]; exact ⟨rfl, rfl⟩))
    (fun os started H enc _ => lifted os started H enc)

/-- The given statement. -/
theorem proved : Rows.FnWriteCellsSaid :=
  over
#print axioms proved
end Go.Proofs.Ytkbcmeachfplnaa.fnWriteCells
