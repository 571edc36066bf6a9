/-
  For every input the law FnCells returns true: WithCell of a drawn memory answers as the given model's; a cell that was written is read back and all other cells are unchanged. No condition.
-/
import Derived.Test.YtkbcmeachfplnaaGridDraws
import Derived.Test.YtkbcmeachfplnaaSizes
import Derived.Test.YtkbcmeachfplnaaGridArgs
import Derived.Test.YtkbcmeachfplnaaBig
namespace Go.Proofs.Ytkbcmeachfplnaa.fnCells
open Go.ChangeShapes Go.WideShapes Go.ChangeAt Go.RowKit
open Go.Proofs.Ytkbcmeachfplnaa.Base Go.Proofs.Ytkbcmeachfplnaa.Mem Go.Proofs.Ytkbcmeachfplnaa.Ints Go.Proofs.Ytkbcmeachfplnaa.Grid Go.Proofs.Ytkbcmeachfplnaa.Draw Go.Proofs.Ytkbcmeachfplnaa.GDraw
set_option linter.unusedVariables false

theorem hasCB_mk {M : List (List Int)} {k j : Nat} (hk : k < M.length) (hj : j < M[k].length) : hasCB M (k : Int) (j : Int) = true := by
  rw [hasCB, hasPB_mk hk, getD_at hk, hasPB_mk hj]; rfl
theorem withC_len (M : List (List Int)) (page cell v : Int) : (withC M page cell v).length = M.length := by
  unfold withC
  split <;> simp
theorem cell_other {M : List (List Int)} {page cell v : Int} {k j : Nat} (hk : k < M.length) (hj : j < M[k].length) (h : ¬ ((k : Int) = page ∧ (j : Int) = cell ∧ 0 ≤ v ∧ v ≤ 99)) : cellAt (withC M page cell v) (k : Int) (j : Int) = M[k][j] := by
  by_cases hc : hasCB M page cell = true ∧ cellB v = true
  · obtain ⟨k', j', rfl, rfl, hk', hj'⟩ := hasCB_yes hc.1
    have hv := inB_iff.1 hc.2
    rw [withC_yes hc.1 hc.2 hk']
    have hkl : k < (M.set k' (M[k'].set j' v)).length := by rw [List.length_set]; exact hk
    by_cases e : k' = k
    · subst e
      have hne : j' ≠ j := fun e2 => h ⟨rfl, by rw [e2], hv.1, hv.2⟩
      have hget : (M.set k' (M[k'].set j' v))[k'] = M[k'].set j' v := by simp
      have hjl : j < ((M.set k' (M[k'].set j' v))[k']).length := by rw [hget, List.length_set]; exact hj
      rw [cellAt_yes (hasCB_mk hkl hjl) hkl hjl]
      simp only [hget]
      rw [List.getElem_set_ne hne]
    · have hget : (M.set k' (M[k'].set j' v))[k] = M[k] := by rw [List.getElem_set_ne e]
      have hjl : j < ((M.set k' (M[k'].set j' v))[k]).length := by rw [hget]; exact hj
      rw [cellAt_yes (hasCB_mk hkl hjl) hkl hjl]
      simp only [hget]
  · rw [withC_no (by simpa [Decidable.imp_iff_not_or] using hc), cellAt_yes (hasCB_mk hk hj) hk hj]
theorem cell_same {M : List (List Int)} {page cell v : Int} {k j : Nat} (hk : k < M.length) (hj : j < M[k].length) (h : (k : Int) = page ∧ (j : Int) = cell ∧ 0 ≤ v ∧ v ≤ 99) : cellAt (withC M page cell v) (k : Int) (j : Int) = v := by
  obtain ⟨rfl, rfl, h0, h1⟩ := h
  have hc := hasCB_mk hk hj
  rw [withC_yes hc (inB_iff.2 ⟨h0, h1⟩) hk]
  have hkl : k < (M.set k (M[k].set j v)).length := by rw [List.length_set]; exact hk
  have hget : (M.set k (M[k].set j v))[k] = M[k].set j v := by simp
  have hjl : j < ((M.set k (M[k].set j v))[k]).length := by rw [hget, List.length_set]; exact hj
  rw [cellAt_yes (hasCB_mk hkl hjl) hkl hjl]
  simp only [hget]
  rw [List.getElem_set_self]
/-- The memory of one page that the law writes out. -/
theorem lit4 (w : World) (T U : TypeId) : RG ((w.alloc (.cells #[.int .i64 1, .int .i64 2, .int .i64 3, .int .i64 4] T)).alloc (.cells #[.slice (some ⟨w.heap.size, 0, none⟩) 4 4] U)) 0 (w.heap.size + 2) (some ⟨w.heap.size + 1, 0, none⟩) [[1, 2, 3, 4]] [(some ⟨w.heap.size, 0, none⟩, 4)] := by
  have b0 : ((w.alloc (.cells #[.int .i64 1, .int .i64 2, .int .i64 3, .int .i64 4] T)).alloc (.cells #[.slice (some ⟨w.heap.size, 0, none⟩) 4 4] U)).heap[w.heap.size]? = some (.cells #[.int .i64 1, .int .i64 2, .int .i64 3, .int .i64 4] T (0, 0)) :=
    (Below.heap_alloc _ _ _ (by simp)).trans (heap_alloc_new w _)
  have b1 : ((w.alloc (.cells #[.int .i64 1, .int .i64 2, .int .i64 3, .int .i64 4] T)).alloc (.cells #[.slice (some ⟨w.heap.size, 0, none⟩) 4 4] U)).heap[w.heap.size + 1]? = some (.cells #[.slice (some ⟨w.heap.size, 0, none⟩) 4 4] U (0, 0)) := by
    have := heap_alloc_new (w.alloc (.cells #[.int .i64 1, .int .i64 2, .int .i64 3, .int .i64 4] T)) (.cells #[.slice (some ⟨w.heap.size, 0, none⟩) 4 4] U)
    simpa using this
  refine ⟨fun j u hu => ⟨_, 0, rfl, Nat.zero_le _, by omega, ?_⟩, rfl, fun i r h h1 h2 => fun j u hu => ?_⟩
  · rw [Nat.zero_add, cell_of_row _ _ j _ _ _ b1]
    simpa [hcells, hcell] using hu
  · have hi : i = 0 := by
      have := (List.getElem?_eq_some_iff.1 h1).1
      simpa using this
    subst hi
    simp at h1 h2
    subst h1 h2
    refine ⟨_, 0, rfl, Nat.zero_le _, by omega, ?_⟩
    rw [Nat.zero_add, cell_of_row _ _ j _ _ _ b0]
    simpa [ncells] using hu
theorem lit4_cap : capG [[1, 2, 3, 4]] := capG.of (by decide)

set_option maxRecDepth 100000 in
set_option maxHeartbeats 8000000 in
theorem walk (A : Option Addr) (n c : Nat) (hn : n ≤ 9223372036854775807) {w : World} (hcode : CodeAt w A n) :
    Calls Try.prog 3 #[.slice A n c] w fun e w' => e = .returned (.bool true) ∧ Below w.heap.size w w' := by
  by_cases hbig : 1048576 < n
  · clear hcode
    go_enter Try.func3, Try.ntmps3
    go_wp2_with fail
    refine (big_yes A n c _ hn hbig).mono ?_
    rintro e w' ⟨rfl, rfl⟩
    go_wp2_with fail
    go_ret
    exact ⟨rfl, Below.refl _ _⟩
  have hn2 : n ≤ 1048576 := by omega
  have HC := Lib.hid hcode
  clear hcode hbig hn
  go_enter Try.func3, Try.ntmps3
  go_wp2_with fail
  refine (big_no A n c _ hn2).mono ?_
  rintro e w' ⟨rfl, rfl⟩
  go_wp2_with fail
  refine (drawWithCell_any A n c _ hn2 HC.out).mono ?_
  rintro e w1 ⟨X, m, d, M, gs, page, cell, v, rfl, hG1, hb1⟩
  have HB1 := Lib.hid hb1
  have HG1 := Lib.hid hG1
  have HM := Lib.hid hG1.1
  have HCM := Lib.hid hG1.cap
  have hs1 := hb1.size
  have hm3 : m ≤ 3 := hG1.2.1
  clear hG1 hb1
  have hcu := withC_cap M page cell v HCM.out
  have hlu := withC_len M page cell v
  rw [HM.out] at hlu
  have hS := fun (k j : Nat) (hk : k < M.length) (hj : j < M[k].length) => cell_same (page := page) (cell := cell) (v := v) hk hj
  have hO := fun (k j : Nat) (hk : k < M.length) (hj : j < M[k].length) => cell_other (page := page) (cell := cell) (v := v) hk hj
  have hK1 := impl_withC X m d _ page cell v M gs w1 HCM.out HM.out HG1.out.2.2.2
  have hK2 := fun (V : World) (hV : Below w1.heap.size w1 V) => spec_withC X m d _ page cell v M gs V HCM.out HM.out (HG1.out.below hV).2.2.2
  generalize withC M page cell v = U at hcu hlu hS hO hK1 hK2
  have HCU := Lib.hid hcu
  have HLU := Lib.hid hlu
  have HS := Lib.hid hS
  have HO := Lib.hid hO
  have HK1 := Lib.hid hK1
  have HK2 := Lib.hid hK2
  clear hcu hlu hS hO hK1 hK2
  go_wp2_with fail
  refine (HK1.out).mono ?_
  rintro e w2 ⟨X2, m2, d2, gs2, rfl, hx2, ho2, hb2⟩
  obtain rfl : m = m2 := by have := HLU.out; omega
  have HB2 := Lib.hid (btr HB1.out hb2)
  have HW2 := Lib.hid hb2
  have HO2 := Lib.hid (ho2.rg)
  have hs2 := hb2.size
  clear hx2 ho2 hb2
  go_wp2_with fail
  refine (drawCellAt_any A n c _ hn2 (HC.out.below HB2.out)).mono ?_
  rintro e w3 ⟨X3, m3, d3, M3, gs3, p3, k3, rfl, hG3, hb3⟩
  have HG3 := Lib.hid hG3
  have HB3 := Lib.hid (btr HB2.out hb3)
  have HW3 := Lib.hid (HW2.out.trans (hb3.mono hs2))
  have HO3 := Lib.hid (HO2.out.below hb3 (Nat.le_refl _))
  have hs3 := hb3.size
  clear hG3 hb3 HO2 HW2
  go_wp2_with fail
  refine (HK2.out _ HW3.out).mono ?_
  rintro e w4 ⟨X4, m4, d4, gs4, rfl, hx4, ho4, hb4⟩
  obtain rfl : m = m4 := by have := HLU.out; omega
  have HG4 := Lib.hid (HG3.out.below hb4)
  have HB4 := Lib.hid (btr HB3.out hb4)
  have HW4 := Lib.hid (HW3.out.trans (hb4.mono (by omega)))
  have HO4 := Lib.hid (HO3.out.below hb4 hs3)
  have HP4 := Lib.hid (ho4.rg)
  have hs4 := hb4.size
  clear hx4 ho4 hb4 HO3 HG3 HW3
  go_wp2_with fail
  refine (SameP.yes (law_sameMem X2 X4 m m d2 d4 _ _ _ _ U U gs2 gs4 _ HCU.out HCU.out HLU.out HLU.out HO4.out HP4.out) rfl).mono ?_
  rintro e w5 ⟨rfl, hd5⟩
  have hb5 := Drawn.below hd5
  have HG5 := Lib.hid (HG4.out.below hb5)
  have HB5 := Lib.hid (btr HB4.out hb5)
  have HW5 := Lib.hid (HW4.out.trans (hb5.mono (by omega)))
  have HO5 := Lib.hid (HO4.out.below hb5 (by omega))
  have HM5 := Lib.hid ((HG1.out.below HW5.out).2.2.2)
  clear hb5 hd5 HO4 HG4 HW4 HP4 HK1 HK2
  have hK3 := impl_cellAt X3 m3 d3 _ _ p3 k3 M3 gs3 w5 HG5.out.cap HG5.out.1 HG5.out.2.2.2
  have hK4 := spec_cellAt X3 m3 d3 _ _ p3 k3 M3 gs3 w5 HG5.out.cap HG5.out.1 HG5.out.2.2.2
  generalize cellAt M3 p3 k3 = y at hK3 hK4
  have HK3 := Lib.hid hK3
  have HK4 := Lib.hid hK4
  clear hK3 hK4
  go_wp2_with fail
  refine (HK3.out).mono ?_
  rintro e w' ⟨rfl, rfl⟩
  go_wp2_with fail
  refine (HK4.out).mono ?_
  rintro e w' ⟨rfl, rfl⟩
  go_wp2_with fail
  go_loop [11, 12, 13] (fun i _ _ => ∃ (k : Nat), k ≤ m ∧ i = .int .i64 k) (fun i _ _ => m - (intOf i).toNat)
  case atStart => exact ⟨0, Nat.zero_le _, rfl⟩
  case round =>
    obtain ⟨k, hk, rfl⟩ := hrel
    by_cases hlt : k < m
    · have hkl : k < M.length := by rw [HM.out]; exact hlt
      obtain ⟨b, off, B, c', rfl, _, hbw, c1, hB⟩ := HM5.out.page k hkl
      have hcap := HCM.out.at_ hkl
      have hi0 : (0 : Int) ≤ (k : Int) := Int.natCast_nonneg _
      have hi1 : (k : Int) < (m : Int) := by omega
      have hS := HS.out k
      have hO := HO.out k
      have hcell := fun (j : Nat) (hj : j < M[k].length) => int_at hB j hj
      have HSk := Lib.hid (fun (j : Nat) (hj : j < M[k].length) => hS j hkl hj)
      have HOk := Lib.hid (fun (j : Nat) (hj : j < M[k].length) => hO j hkl hj)
      clear hS hO hB
      generalize M[k] = r at c1 hcap hcell HSk HOk
      have HCell := Lib.hid hcell
      clear hcell
      go_wp2_with fail
      go_loop [12, 13] (fun i _ => ∃ (j : Nat), j ≤ r.length ∧ i = .int .i64 j) (fun i _ => r.length - (intOf i).toNat)
      case atStart => exact ⟨0, Nat.zero_le _, rfl⟩
      case round =>
        obtain ⟨j, hj, rfl⟩ := hrel
        by_cases hjl : j < r.length
        · obtain ⟨b', off', rfl, _, _, c2⟩ := HCell.out j hjl
          have hq0 : (0 : Int) ≤ (j : Int) := Int.natCast_nonneg _
          have hq1 : (j : Int) < (r.length : Int) := by omega
          have hK := impl_cellAt X2 m d2 _ _ (k : Int) (j : Int) U gs2 w5 HCU.out HLU.out HO5.out
          have hs := HSk.out j hjl
          have ho := HOk.out j hjl
          generalize cellAt U (k : Int) (j : Int) = y2 at hK hs ho
          generalize r[j] = x at c2 ho
          have HK := Lib.hid hK
          have HS1 := Lib.hid hs
          have HO1 := Lib.hid ho
          clear hK hs ho
          by_cases g1 : (k : Int) = page
          · have b1 : ((k : Int) == page) = true := by simpa using g1
            by_cases g2 : (j : Int) = cell
            · have b2 : ((j : Int) == cell) = true := by simpa using g2
              by_cases g3 : 0 ≤ v
              · by_cases g4 : v ≤ 99
                · have hy := HS1.out ⟨g1, g2, g3, g4⟩
                  have HY := Lib.hid hy
                  clear hy g1 g2
                  go_wp2_with fail
                  refine (HK.out).mono ?_
                  rintro e w' ⟨he, rfl⟩
                  rw [HY.out] at he
                  subst he
                  go_wp2_with fail
                  go_round
                  case rel => exact ⟨j + 1, by omega, by go_num⟩
                  case measure => simp [intOf]; omega
                · have HY := Lib.hid (HO1.out (by rintro ⟨q1, q2, q3, q4⟩; omega))
                  clear g1 g2
                  go_wp2_with fail
                  refine (HK.out).mono ?_
                  rintro e w' ⟨he, rfl⟩
                  rw [HY.out] at he
                  subst he
                  go_wp2_with fail
                  go_round
                  case rel => exact ⟨j + 1, by omega, by go_num⟩
                  case measure => simp [intOf]; omega
              · have HY := Lib.hid (HO1.out (by rintro ⟨q1, q2, q3, q4⟩; omega))
                clear g1 g2
                go_wp2_with fail
                refine (HK.out).mono ?_
                rintro e w' ⟨he, rfl⟩
                rw [HY.out] at he
                subst he
                go_wp2_with fail
                go_round
                case rel => exact ⟨j + 1, by omega, by go_num⟩
                case measure => simp [intOf]; omega
            · have HY := Lib.hid (HO1.out (by rintro ⟨q1, q2, q3, q4⟩; omega))
              clear g1
              have b9 : ((j : Int) == cell) = false := by simpa using g2
              clear g2
              go_wp2_with fail
              refine (HK.out).mono ?_
              rintro e w' ⟨he, rfl⟩
              rw [HY.out] at he
              subst he
              go_wp2_with fail
              go_round
              case rel => exact ⟨j + 1, by omega, by go_num⟩
              case measure => simp [intOf]; omega
          · have HY := Lib.hid (HO1.out (by rintro ⟨q1, q2, q3, q4⟩; omega))
            skip
            have b9 : ((k : Int) == page) = false := by simpa using g1
            clear g1
            go_wp2_with fail
            refine (HK.out).mono ?_
            rintro e w' ⟨he, rfl⟩
            rw [HY.out] at he
            subst he
            go_wp2_with fail
            go_round
            case rel => exact ⟨j + 1, by omega, by go_num⟩
            case measure => simp [intOf]; omega
        · obtain rfl : j = r.length := by omega
          go_wp2_with fail
          go_round
          case rel => exact ⟨k + 1, by omega, by go_num⟩
          case measure => simp [intOf]; omega
    · obtain rfl : k = m := by omega
      have HL4 := Lib.hid (lit4 w5 3 32)
      have HB6 := Lib.hid ((HB5.out.alloc HB5.out.size (.cells #[.int .i64 1, .int .i64 2, .int .i64 3, .int .i64 4] 3)).alloc (by have := HB5.out.size; simp; omega) (.cells #[.slice (some ⟨w5.heap.size, 0, none⟩) 4 4] 32))
      have HV := Lib.hid (show cellAt [[1, 2, 3, 4]] 0 2 = 3 from rfl)
      go_wp2_with fail
      refine (impl_cellAt _ 1 1 _ _ 0 2 [[1, 2, 3, 4]] _ _ lit4_cap rfl HL4.out).mono ?_
      rintro e w' ⟨he, rfl⟩
      rw [HV.out] at he
      subst he
      go_wp2_with fail
      go_ret
      exact ⟨rfl, HB6.out⟩

/-! ### The row's step -/
set_option maxRecDepth 100000 in
theorem lifted (os : Os) (started : os.Started) (H : Type) (enc : TypeId × Value → H) :
    ReturnsInHanded {} Try.checked os 3 .any (Rows.fnCellsSpec.pre6 enc Try.prog Try.f3 Rows.fnCellsRow.domain false) (Rows.fnCellsSpec.post enc Try.prog Try.f3 false true false false) := by
  refine returnsInHanded_of_change (C := Try.checked) Base.own started (by kernel_rfl) Try.func3
    (ChangeSpec.witness6 (enc := enc) (C := Try.checked) false ⟨#[], #[.slice none 0 0], []⟩ 8 (by kernel_rfl) (by kernel_rfl) (by kernel_rfl) (by kernel_rfl)) ?_
  intro W base args ds gs before hval0 hW hcnd _
  have hval : ∀ (j : Nat) t v, Try.f3.params[j]? = some t → args[j]? = some v → Value.okWide Try.prog W .any base t v := hval0
  have hW' := hW
  obtain ⟨p, q, hA0, hV, rfl, hfz, hnd⟩ := hW
  have hA : DataW.TrodAll enc Try.prog W 0 (fun _ => true) true Try.f3.params.toList args.toList ds p := hA0
  have hA1 := hA
  rw [Try.params3] at hA hval
  obtain ⟨v0, vs0, d0, ds0, p0, q0, hargs, rfl, rfl, h0, r0⟩ := trodAll_cons hA
  obtain ⟨rfl, rfl, rfl⟩ := trodAll_nil r0
  obtain rfl : args = #[v0] := by cases args; simp_all
  obtain ⟨rfl, rfl⟩ := trodVars_none hV
  obtain ⟨A0, n0, c0, rfl, hn0, hcode0, _⟩ := Draw.open_code (hval 0 22 v0 rfl rfl) h0
  clear hA0 hval0
  rw [List.append_nil] at hW'
  refine (walk A0 n0 c0 hn0 hcode0).mono fun e W' ⟨he, hg⟩ => ?_
  subst he
  exact ⟨_, rfl, Mem.post_args Grid.laid (by kernel_rfl) rfl rfl rfl hW' hA1 hg (fun _ _ _ => (trodAll_cons_mk (shut_bool Try.underlying4 _) trodAll_mk0)) (ok_one (by kernel_rfl) rfl (okWide_bool_mk Try.underlying4 _))⟩

theorem over : Rows.fnCellsRow.holds Try.pinned (OpenSpec.ofChange Rows.fnCellsSpec) :=
  OpenClaim.holds_of_wide 3 Try.f3 rfl rfl rfl rfl rfl rfl rfl ⟨rfl, rfl, rfl, rfl, rfl⟩ rfl rfl rfl rfl rfl (by kernel_rfl) Try.func3 (by kernel_rfl)
    (of_decide_eq_true (by kernel_rfl)) (by unfold Func.isWrapper; first | (rw [if_pos (by decide +kernel)]; kernel_rfl) | (rw [if_neg (by decide +kernel)]; exact ⟨rfl, rfl⟩))
    (fun os started H enc _ => lifted os started H enc)

/-- The given statement. -/
theorem proved : Rows.FnCellsSaid :=
  over
#print axioms proved
end Go.Proofs.Ytkbcmeachfplnaa.fnCells
