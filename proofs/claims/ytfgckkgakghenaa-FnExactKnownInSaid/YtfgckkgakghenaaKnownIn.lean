/-
  At every argument the law FnExactKnownIn returns true: the project's KnownIn answers as the given model's KnownIn, changes no argument, and what it returns is its own. No condition.
-/
import Derived.Test.YtfgckkgakghenaaKeptImpl
import Derived.Test.YtfgckkgakghenaaSlotArgs
import Derived.Test.YtfgckkgakghenaaOrdT
namespace Go.Proofs.Ytfgckkgakghenaa.fnExactKnownIn
set_option maxRecDepth 100000
open Go.ChangeShapes Go.WideShapes Go.ChangeAt Go.RowKit
open Go.Proofs.Ytfgckkgakghenaa.Base Go.Proofs.Ytfgckkgakghenaa.Mem Go.Proofs.Ytfgckkgakghenaa.Slots Go.Proofs.Ytfgckkgakghenaa.Ints Go.Proofs.Ytfgckkgakghenaa.Kepts
set_option linter.unusedVariables false
set_option linter.unusedSimpArgs false

set_option maxRecDepth 100000 in
set_option maxHeartbeats 8000000 in
theorem walk (A0 : Option Addr) (n0 c0 : Nat) (B0 : Option Addr) (m0 e0 : Nat) (k0 : KD) {w : World} (hn0 : n0 ≤ 9223372036854775807) (hm0 : m0 ≤ 9223372036854775807) (hw0 : wfL k0.2) (h0 : KR w 0 w.heap.size k0 A0 B0 n0 m0) :
    Calls Try.prog 13 #[.agg #[.slice A0 n0 c0, .slice B0 m0 e0]] w fun e w' => e = .returned (.bool true) ∧ Below w.heap.size w w' := by
  have HA0 := Lib.hid (show ∀ W, Below w.heap.size w W → KR W 0 W.heap.size k0 A0 B0 n0 m0 from fun W hb => (h0.below hb (Nat.le_refl _)).wide (Nat.le_refl _) hb.size)
  have HL1_0 := Lib.hid h0.l1
  have HL2_0 := Lib.hid h0.l2
  have HW0 := Lib.hid hw0
  clear hw0 h0
  by_cases hbig0 : (1048576 : Int) < (n0 : Int) + (m0 : Int)
  · go_enter Try.func13, Try.ntmps13
    have hB1 : Below w.heap.size w (w.alloc (.cells #[.slice A0 n0 c0, .slice B0 m0 e0] 64)) := (Below.refl _ _).alloc (Nat.le_refl _) _
    have hS1 := hB1.size
    have hOb_1 := Lib.hid (Two.new w (.slice A0 n0 c0) (.slice B0 m0 e0) 64)
    obtain ⟨zb0, zb1, _, _, _⟩ := hOb_1.out
    go_wp2_with fail
    refine (szKept_no A0 B0 n0 m0 c0 e0 _ (1048576 : Int) (by omega) (by omega) hn0 hm0 hbig0).mono ?_
    rintro e w2 ⟨rfl, hb2⟩
    have hB2 := btr hB1 hb2
    have hS2 := hb2.size
    have hOb_2 := Lib.hid (hOb_1.out.below hb2 )
    clear hOb_1 hb2
    clear zb0 zb1
    go_wp2_with fail
    go_ret
    exact ⟨rfl, hB2⟩
  have hmn0 : n0 ≤ 1048576 := by omega
  have hmm0 : m0 ≤ 1048576 := by omega
  have hle0 : (n0 : Int) + (m0 : Int) ≤ (1048576 : Int) := by omega
  have hz0 : ¬ (((1048576 : Int) - (n0 : Int) - (m0 : Int)) < 0) := by omega
  have hK1 := fun (A B : Option Addr) (c d : Nat) (V : World) (h : KR V 0 V.heap.size k0 A B n0 m0) => spec_known A B n0 m0 c d 0 k0 V hmn0 h
  have hK2 := fun (A B : Option Addr) (c d : Nat) (V : World) (h : KR V 0 V.heap.size k0 A B n0 m0) => impl_known A B n0 m0 c d 0 k0 V hmn0 h
  generalize knownK k0 = x at hK1 hK2
  have HK1 := Lib.hid hK1
  have HK2 := Lib.hid hK2
  clear hK1 hK2
  go_enter Try.func13, Try.ntmps13
  have hB1 : Below w.heap.size w (w.alloc (.cells #[.slice A0 n0 c0, .slice B0 m0 e0] 64)) := (Below.refl _ _).alloc (Nat.le_refl _) _
  have hS1 := hB1.size
  have hOb_1 := Lib.hid (Two.new w (.slice A0 n0 c0) (.slice B0 m0 e0) 64)
  obtain ⟨zb0, zb1, _, _, _⟩ := hOb_1.out
  go_wp2_with fail
  refine (szKept_yes A0 B0 n0 m0 c0 e0 _ (1048576 : Int) (by omega) (by omega)).mono ?_
  rintro e w2 ⟨rfl, hb2⟩
  have hB2 := btr hB1 hb2
  have hS2 := hb2.size
  have hOb_2 := Lib.hid (hOb_1.out.below hb2 )
  clear hOb_1 hb2
  clear zb0 zb1
  obtain ⟨zb0, zb1, _, _, _⟩ := hOb_2.out
  go_wp2_with fail
  refine (toKept_any A0 B0 n0 m0 c0 e0 0 k0 _ hmn0 hmm0 (HA0.out _ hB2)).mono ?_
  rintro e w3 ⟨A3', c3', B3', d3', rfl, ho3, hb3⟩
  have hB3 := btr hB2 hb3
  have hS3 := hb3.size
  have hOb_3 := Lib.hid (hOb_2.out.below hb3 )
  have hOa_3 := Lib.hid ho3
  clear hOb_2 ho3 hb3
  clear zb0 zb1
  go_wp2_with fail
  refine (HK1.out _ _ _ _ _ (hOa_3.out.reads.wide (Nat.zero_le _) (by omega))).mono ?_
  rintro e w4 ⟨rfl, hb4⟩
  have hB4 := btr hB3 hb4
  have hS4 := hb4.size
  have hOb_4 := Lib.hid (hOb_3.out.below hb4 )
  have hOa_4 := Lib.hid (hOa_3.out.below hb4 (by omega))
  clear hOb_3 hOa_3 hb4
  clear hOa_4
  obtain ⟨zb0, zb1, _, _, _⟩ := hOb_4.out
  go_wp2_with fail
  refine (toKept_any A0 B0 n0 m0 c0 e0 0 k0 _ hmn0 hmm0 (HA0.out _ hB4)).mono ?_
  rintro e w5 ⟨A5', c5', B5', d5', rfl, ho5, hb5⟩
  have hB5 := btr hB4 hb5
  have hS5 := hb5.size
  have hOb_5 := Lib.hid (hOb_4.out.below hb5 )
  have hOx_5 := Lib.hid ho5
  clear hOb_4 ho5 hb5
  clear zb0 zb1
  have hb6 : Below w5.heap.size w5 (w5.alloc (.cells #[.slice A5' n0 c5', .slice B5' m0 d5'] 27)) := (Below.refl _ _).alloc (Nat.le_refl _) _
  have hB6 := btr hB5 hb6
  have hS6 : w5.heap.size < (w5.alloc (.cells #[.slice A5' n0 c5', .slice B5' m0 d5'] 27)).heap.size := by simp
  have hOb_6 := Lib.hid (hOb_5.out.below hb6 )
  have hOx_6 := Lib.hid (hOx_5.out.below hb6 (by omega))
  have hOvx_6 := Lib.hid (Two.new w5 (.slice A5' n0 c5') (.slice B5' m0 d5') 27)
  clear hOb_5 hOx_5 hb6
  obtain ⟨zvx0, zvx1, _, _, _⟩ := hOvx_6.out
  go_wp2_with fail
  refine (HK2.out _ _ _ _ _ (hOx_6.out.reads.wide (Nat.zero_le _) (by omega))).mono ?_
  rintro e w7 ⟨rfl, hb7⟩
  have hB7 := btr hB6 hb7
  have hS7 := hb7.size
  have hOb_7 := Lib.hid (hOb_6.out.below hb7 )
  have hOx_7 := Lib.hid (hOx_6.out.below hb7 (by omega))
  have hOvx_7 := Lib.hid (hOvx_6.out.below hb7 )
  clear hOb_6 hOx_6 hOvx_6 hb7
  clear zvx0 zvx1
  go_wp2_with fail
  refine Ord.wp_region_ord (fun w' => (w'.cell? ⟨w5.heap.size, 0, none⟩ = some (.slice A5' n0 c5') ∧ w'.cell? ⟨w5.heap.size, 1, none⟩ = some (.slice B5' m0 d5')) ∧ w'.cell? ⟨w.heap.size, 0, none⟩ = some (.slice A0 n0 c0) ∧ w'.cell? ⟨w.heap.size, 1, none⟩ = some (.slice B0 m0 e0)) [(0, true), (1, true), (2, false), (3, false), (4, true)] (by kernel_rfl) (by kernel_rfl) rfl (by kernel_rfl) (⟨⟨hOvx_7.out.1, hOvx_7.out.2.1⟩, hOb_7.out.1, hOb_7.out.2.1⟩) ?_
  simp only [Ord.ordOps, List.getElem?_toArray, List.getElem?_cons_zero, List.getElem?_cons_succ]
  repeat (first
    | (refine Ord.ord_plain (v := ?_) rfl (fun w' hS => ?_) ?_; rotate_left; (focus ((try dsimp only at hS); go_simp; first | done | with_reducible rfl)); simp only [Act.put, List.setIfInBounds_toArray, List.set_cons_zero, List.set_cons_succ])
    | (refine Ord.ord_skip (by rfl) ?_; simp only [Act.put, List.setIfInBounds_toArray, List.set_cons_zero, List.set_cons_succ])
    | (refine Ord.ord_take (v := ?_) (by rfl) (fun w' hS => ?_) ?_; rotate_left; (focus ((try dsimp only at hS); go_simp; first | done | with_reducible rfl)); simp only [Act.put, List.setIfInBounds_toArray, List.set_cons_zero, List.set_cons_succ]))
  have hb8 : Below w7.heap.size w7 w7.drew := (Below.refl _ _).drew
  have hB8 := btr hB7 hb8
  have hS8 := hb8.size
  have hOb_8 := Lib.hid (hOb_7.out.below hb8 )
  have hOx_8 := Lib.hid (hOx_7.out.below hb8 (by omega))
  have hOvx_8 := Lib.hid (hOvx_7.out.below hb8 )
  clear hOb_7 hOx_7 hOvx_7 hb8
  refine Ord.ord_call (fun K hK => ?_)
  go_simp
  refine (toKept_any A0 B0 n0 m0 c0 e0 0 k0 _ hmn0 hmm0 (HA0.out _ hB8)).mono ?_
  rintro e w9 ⟨A9', c9', B9', d9', rfl, ho9, hb9⟩
  have hB9 := btr hB8 hb9
  have hS9 := hb9.size
  have hOb_9 := Lib.hid (hOb_8.out.below hb9 )
  have hOx_9 := Lib.hid (hOx_8.out.below hb9 (by omega))
  have hOvx_9 := Lib.hid (hOvx_8.out.below hb9 )
  have hOyy_9 := Lib.hid ho9
  clear hOb_8 hOx_8 hOvx_8 ho9 hb9
  refine hK.out _ _ (⟨⟨hOvx_9.out.1, hOvx_9.out.2.1⟩, hOb_9.out.1, hOb_9.out.2.1⟩) ?_
  clear hK K
  repeat (first
    | (refine Ord.ord_plain (v := ?_) rfl (fun w' hS => ?_) ?_; rotate_left; (focus ((try dsimp only at hS); go_simp; first | done | with_reducible rfl)); simp only [Act.put, List.setIfInBounds_toArray, List.set_cons_zero, List.set_cons_succ])
    | (refine Ord.ord_skip (by rfl) ?_; simp only [Act.put, List.setIfInBounds_toArray, List.set_cons_zero, List.set_cons_succ])
    | (refine Ord.ord_take (v := ?_) (by rfl) (fun w' hS => ?_) ?_; rotate_left; (focus ((try dsimp only at hS); go_simp; first | done | with_reducible rfl)); simp only [Act.put, List.setIfInBounds_toArray, List.set_cons_zero, List.set_cons_succ]))
  refine Ord.ord_call (fun K hK => ?_)
  go_simp
  refine (eqKept_same A5' B5' n0 m0 c5' d5' _ k0 _ A9' B9' c9' d9' _ _ _ hmn0 hmm0 (by omega) (by omega) hOx_9.out.reads hOyy_9.out.reads).mono ?_
  rintro e w10 ⟨rfl, hb10⟩
  have hB10 := btr hB9 hb10
  have hS10 := hb10.size
  have hOb_10 := Lib.hid (hOb_9.out.below hb10 )
  have hOx_10 := Lib.hid (hOx_9.out.below hb10 (by omega))
  have hOvx_10 := Lib.hid (hOvx_9.out.below hb10 )
  have hOyy_10 := Lib.hid (hOyy_9.out.below hb10 (by omega))
  clear hOb_9 hOx_9 hOvx_9 hOyy_9 hb10
  refine hK.out _ _ (⟨⟨hOvx_10.out.1, hOvx_10.out.2.1⟩, hOb_10.out.1, hOb_10.out.2.1⟩) ?_
  clear hK K
  repeat (first
    | (refine Ord.ord_plain (v := ?_) rfl (fun w' hS => ?_) ?_; rotate_left; (focus ((try dsimp only at hS); go_simp; first | done | with_reducible rfl)); simp only [Act.put, List.setIfInBounds_toArray, List.set_cons_zero, List.set_cons_succ])
    | (refine Ord.ord_skip (by rfl) ?_; simp only [Act.put, List.setIfInBounds_toArray, List.set_cons_zero, List.set_cons_succ])
    | (refine Ord.ord_take (v := ?_) (by rfl) (fun w' hS => ?_) ?_; rotate_left; (focus ((try dsimp only at hS); go_simp; first | done | with_reducible rfl)); simp only [Act.put, List.setIfInBounds_toArray, List.set_cons_zero, List.set_cons_succ]))
  refine Ord.ord_nil ?_
  clear hOyy_10
  go_wp2_with fail
  go_ret
  exact ⟨rfl, hB10⟩

/-! ### The row's step -/
set_option maxRecDepth 100000 in
theorem lifted (os : Os) (started : os.Started) (H : Type) (enc : TypeId × Value → H) :
    ReturnsInHanded {} Try.checked os 13 .any (Rows.fnExactKnownInSpec.pre6 enc Try.prog Try.f13 Rows.fnExactKnownInRow.domain false) (Rows.fnExactKnownInSpec.post enc Try.prog Try.f13 false true false false) := by
  refine returnsInHanded_of_change (C := Try.checked) Base.own started (by kernel_rfl) Try.func13
    (ChangeSpec.witness6 (enc := enc) (C := Try.checked) false ⟨#[], #[.agg #[.slice none 0 0, .slice none 0 0]], []⟩ 8 (by kernel_rfl) (by kernel_rfl) (by kernel_rfl) (by kernel_rfl)) ?_
  intro W base args ds gs before hval0 hW hcnd _
  have hval : ∀ (j : Nat) t v, Try.f13.params[j]? = some t → args[j]? = some v → Value.okWide Try.prog W .any base t v := hval0
  have hW' := hW
  obtain ⟨p, q, hA0, hV, rfl, hfz, hnd⟩ := hW
  have hA : DataW.TrodAll enc Try.prog W 0 (fun _ => true) true Try.f13.params.toList args.toList ds p := hA0
  have hA1 := hA
  rw [Try.params13] at hA hval
  obtain ⟨v0, vs0, d0, ds0, p0, q0, hargs, rfl, rfl, h0, r0⟩ := trodAll_cons hA
  obtain ⟨rfl, rfl, rfl⟩ := trodAll_nil r0
  obtain rfl : args = #[v0] := by cases args; simp_all
  obtain ⟨rfl, rfl⟩ := trodVars_none hV
  obtain ⟨A0, n0, c0, B0, m0, e0, k0, rfl, hn0, hm0, hw0, h0'⟩ := Kepts.open_kept (hval 0 64 v0 rfl rfl) h0
  clear hA0 hval0
  rw [List.append_nil] at hW'
  refine (walk A0 n0 c0 B0 m0 e0 k0 hn0 hm0 hw0 h0').mono fun e W' ⟨he, hg⟩ => ?_
  subst he
  exact ⟨_, rfl, Mem.post_args Slots.laid (by kernel_rfl) rfl rfl rfl hW' hA1 hg (fun _ _ _ => (trodAll_cons_mk (shut_bool Try.underlying4 _) trodAll_mk0)) (ok_one (by kernel_rfl) rfl (okWide_bool_mk Try.underlying4 _))⟩

theorem over : Rows.fnExactKnownInRow.holds Try.pinned (OpenSpec.ofChange Rows.fnExactKnownInSpec) :=
  OpenClaim.holds_of_wide 13 Try.f13 rfl rfl rfl rfl rfl rfl rfl ⟨rfl, rfl, rfl, rfl, rfl⟩ rfl rfl rfl rfl rfl (by kernel_rfl) Try.func13 (by kernel_rfl)
    (of_decide_eq_true (by kernel_rfl)) (by unfold Func.isWrapper; first | (rw [if_pos (by decide +kernel)]; kernel_rfl) | (rw [if_neg (by decide +kernel)]; exact ⟨rfl, rfl⟩))
    (fun os started H enc _ => lifted os started H enc)

/-- The given statement. -/
theorem proved : Rows.FnExactKnownInSaid :=
  over
#print axioms proved
end Go.Proofs.Ytfgckkgakghenaa.fnExactKnownIn
