/-
  At every argument the law FnExactKeptNew returns true: the project's KeptNew answers as the given model's KeptNew, changes no argument, and what it returns is its own. No condition.
-/
import Derived.Test.YtfgckkgakghenaaKeptImpl
import Derived.Test.YtfgckkgakghenaaSlotArgs
import Derived.Test.YtfgckkgakghenaaOrdT
namespace Go.Proofs.Ytfgckkgakghenaa.fnExactKeptNew
set_option maxRecDepth 100000
open Go.ChangeShapes Go.WideShapes Go.ChangeAt Go.RowKit
open Go.Proofs.Ytfgckkgakghenaa.Base Go.Proofs.Ytfgckkgakghenaa.Mem Go.Proofs.Ytfgckkgakghenaa.Slots Go.Proofs.Ytfgckkgakghenaa.Ints Go.Proofs.Ytfgckkgakghenaa.Kepts
set_option linter.unusedVariables false
set_option linter.unusedSimpArgs false

set_option maxRecDepth 100000 in
set_option maxHeartbeats 8000000 in
theorem walk (a0 : Int) (w0 : (Lit.int .i64 a0).wf = true) (w : World) :
    Calls Try.prog 6 #[.int .i64 a0] w fun e w' => e = .returned (.bool true) ∧ Below w.heap.size w w' := by
  have HW0 := Lib.hid w0
  clear w0
  have hq := newN_le a0
  have hK1 := fun (V : World) => spec_newK V a0
  have hK2 := fun (V : World) => impl_newK V a0 HW0.out
  generalize newK (newN a0) = u at hK1 hK2
  generalize newN a0 = nn at hK1 hK2 hq
  have HK1 := Lib.hid hK1
  have HK2 := Lib.hid hK2
  clear hK1 hK2
  have hqn : nn ≤ 1048576 := by omega
  obtain ⟨qa, hqa⟩ : ∃ q : Nat, q = 1 + nn + 2 * nn := ⟨_, rfl⟩
  have Hqa := Lib.hid (show ((1 : Nat) : Int) + (nn : Int) + 2 * (nn : Int) = (qa : Int) by omega)
  have hpqa : ¬ ((qa : Int) < 0) := by omega
  clear hqa
  go_enter Try.func6, Try.ntmps6
  go_wp2_with fail
  refine (HK1.out _).mono ?_
  rintro e w1 ⟨A1', c1', B1', d1', rfl, ho1, hb1⟩
  have hB1 := btr (Below.refl _ _) hb1
  have hS1 := hb1.size
  have hOu_1 := Lib.hid ho1
  clear ho1 hb1
  have hb2 : Below w1.heap.size w1 (w1.alloc (.cells #[.slice A1' nn c1', .slice B1' nn d1'] 27)) := (Below.refl _ _).alloc (Nat.le_refl _) _
  have hB2 := btr hB1 hb2
  have hS2 : w1.heap.size < (w1.alloc (.cells #[.slice A1' nn c1', .slice B1' nn d1'] 27)).heap.size := by simp
  have hOu_2 := Lib.hid (hOu_1.out.below hb2 (by omega))
  have hOvu_2 := Lib.hid (Two.new w1 (.slice A1' nn c1') (.slice B1' nn d1') 27)
  clear hOu_1 hb2
  go_wp2_with fail
  refine (HK2.out _).mono ?_
  rintro e w3 ⟨A3', c3', B3', d3', rfl, ho3, hb3⟩
  have hB3 := btr hB2 hb3
  have hS3 := hb3.size
  have hOu_3 := Lib.hid (hOu_2.out.below hb3 (by omega))
  have hOvu_3 := Lib.hid (hOvu_2.out.below hb3 )
  have hOg_3 := Lib.hid ho3
  clear hOu_2 hOvu_2 ho3 hb3
  have hb4 : Below w3.heap.size w3 (w3.alloc (.cells #[.slice A3' nn c3', .slice B3' nn d3'] 27)) := (Below.refl _ _).alloc (Nat.le_refl _) _
  have hB4 := btr hB3 hb4
  have hS4 : w3.heap.size < (w3.alloc (.cells #[.slice A3' nn c3', .slice B3' nn d3'] 27)).heap.size := by simp
  have hOu_4 := Lib.hid (hOu_3.out.below hb4 (by omega))
  have hOvu_4 := Lib.hid (hOvu_3.out.below hb4 )
  have hOg_4 := Lib.hid (hOg_3.out.below hb4 (by omega))
  have hOvg_4 := Lib.hid (Two.new w3 (.slice A3' nn c3') (.slice B3' nn d3') 27)
  clear hOu_3 hOvu_3 hOg_3 hb4
  obtain ⟨zvg0, zvg1, _, _, _⟩ := hOvg_4.out
  obtain ⟨zvu0, zvu1, _, _, _⟩ := hOvu_4.out
  go_wp2_with fail
  refine (eqKept_same A3' B3' nn nn c3' d3' _ u _ A1' B1' c1' d1' _ _ _ hqn hqn (by omega) (by omega) hOg_4.out.reads hOu_4.out.reads).mono ?_
  rintro e w5 ⟨rfl, hb5⟩
  have hB5 := btr hB4 hb5
  have hS5 := hb5.size
  have hOu_5 := Lib.hid (hOu_4.out.below hb5 (by omega))
  have hOvu_5 := Lib.hid (hOvu_4.out.below hb5 )
  have hOg_5 := Lib.hid (hOg_4.out.below hb5 (by omega))
  have hOvg_5 := Lib.hid (hOvg_4.out.below hb5 )
  clear hOu_4 hOvu_4 hOg_4 hOvg_4 hb5
  clear zvg0 zvg1 zvu0 zvu1
  obtain ⟨zvg0, zvg1, _, _, _⟩ := hOvg_5.out
  go_wp2_with fail
  refine (markKept_any A3' B3' nn nn c3' d3' _ u _ _ 1 hqn hqn (by omega) (by omega) hOg_5.out).mono ?_
  rintro e w6 ⟨he, ho6, ht6⟩
  rw [Hqa.out] at he
  subst he
  have hB6 := hB5.trans (ht6.below (B := w.heap.size) (by omega) hB5.size)
  have hS6 := ht6.size
  have hOu_6 := Lib.hid (hOu_5.out.turned ht6.block (by omega) (by omega))
  have hOvu_6 := Lib.hid (Two.turned hOvu_5.out ht6 (by omega))
  have hOvg_6 := Lib.hid (Two.turned hOvg_5.out ht6 (by omega))
  have hOg_6 := Lib.hid ho6
  clear hOu_5 hOvu_5 hOvg_5 hOg_5 ho6 ht6
  clear zvg0 zvg1
  obtain ⟨zvg0, zvg1, _, _, _⟩ := hOvg_6.out
  go_wp2_with fail
  refine (heldKept_any A3' B3' nn nn c3' d3' _ _ _ 1 hqn hqn (by omega) (by omega) hOg_6.out.reads).mono ?_
  rintro e w7 ⟨he, hb7⟩
  rw [Hqa.out] at he
  subst he
  have hB7 := btr hB6 hb7
  have hS7 := hb7.size
  have hOu_7 := Lib.hid (hOu_6.out.below hb7 (by omega))
  have hOvu_7 := Lib.hid (hOvu_6.out.below hb7 )
  have hOvg_7 := Lib.hid (hOvg_6.out.below hb7 )
  have hOg_7 := Lib.hid (hOg_6.out.below hb7 (by omega))
  clear hOu_6 hOvu_6 hOvg_6 hOg_6 hb7
  clear zvg0 zvg1
  go_wp2_with fail
  refine (HK2.out _).mono ?_
  rintro e w8 ⟨A8', c8', B8', d8', rfl, ho8, hb8⟩
  have hB8 := btr hB7 hb8
  have hS8 := hb8.size
  have hOu_8 := Lib.hid (hOu_7.out.below hb8 (by omega))
  have hOvu_8 := Lib.hid (hOvu_7.out.below hb8 )
  have hOvg_8 := Lib.hid (hOvg_7.out.below hb8 )
  have hOg_8 := Lib.hid (hOg_7.out.below hb8 (by omega))
  have hOh_8 := Lib.hid ho8
  clear hOu_7 hOvu_7 hOvg_7 hOg_7 ho8 hb8
  have hb9 : Below w8.heap.size w8 (w8.alloc (.cells #[.slice A8' nn c8', .slice B8' nn d8'] 27)) := (Below.refl _ _).alloc (Nat.le_refl _) _
  have hB9 := btr hB8 hb9
  have hS9 : w8.heap.size < (w8.alloc (.cells #[.slice A8' nn c8', .slice B8' nn d8'] 27)).heap.size := by simp
  have hOu_9 := Lib.hid (hOu_8.out.below hb9 (by omega))
  have hOvu_9 := Lib.hid (hOvu_8.out.below hb9 )
  have hOvg_9 := Lib.hid (hOvg_8.out.below hb9 )
  have hOg_9 := Lib.hid (hOg_8.out.below hb9 (by omega))
  have hOh_9 := Lib.hid (hOh_8.out.below hb9 (by omega))
  have hOvh_9 := Lib.hid (Two.new w8 (.slice A8' nn c8') (.slice B8' nn d8') 27)
  clear hOu_8 hOvu_8 hOvg_8 hOg_8 hOh_8 hb9
  obtain ⟨zvh0, zvh1, _, _, _⟩ := hOvh_9.out
  obtain ⟨zvu0, zvu1, _, _, _⟩ := hOvu_9.out
  go_wp2_with fail
  refine (eqKept_same A8' B8' nn nn c8' d8' _ u _ A1' B1' c1' d1' _ _ _ hqn hqn (by omega) (by omega) hOh_9.out.reads hOu_9.out.reads).mono ?_
  rintro e w10 ⟨rfl, hb10⟩
  have hB10 := btr hB9 hb10
  have hS10 := hb10.size
  have hOu_10 := Lib.hid (hOu_9.out.below hb10 (by omega))
  have hOvu_10 := Lib.hid (hOvu_9.out.below hb10 )
  have hOvg_10 := Lib.hid (hOvg_9.out.below hb10 )
  have hOg_10 := Lib.hid (hOg_9.out.below hb10 (by omega))
  have hOh_10 := Lib.hid (hOh_9.out.below hb10 (by omega))
  have hOvh_10 := Lib.hid (hOvh_9.out.below hb10 )
  clear hOu_9 hOvu_9 hOvg_9 hOg_9 hOh_9 hOvh_9 hb10
  clear zvh0 zvh1 zvu0 zvu1
  clear hOh_10
  clear hOu_10
  clear hOvh_10
  clear hOvu_10
  obtain ⟨zvg0, zvg1, _, _, _⟩ := hOvg_10.out
  go_wp2_with fail
  refine (heldKept_any A3' B3' nn nn c3' d3' _ _ _ 1 hqn hqn (by omega) (by omega) hOg_10.out.reads).mono ?_
  rintro e w11 ⟨he, hb11⟩
  rw [Hqa.out] at he
  subst he
  have hB11 := btr hB10 hb11
  have hS11 := hb11.size
  have hOvg_11 := Lib.hid (hOvg_10.out.below hb11 )
  have hOg_11 := Lib.hid (hOg_10.out.below hb11 (by omega))
  clear hOvg_10 hOg_10 hb11
  clear zvg0 zvg1
  go_wp2_with fail
  go_ret
  exact ⟨rfl, hB11⟩

/-! ### The row's step -/
set_option maxRecDepth 100000 in
theorem lifted (os : Os) (started : os.Started) (H : Type) (enc : TypeId × Value → H) :
    ReturnsInHanded {} Try.checked os 6 .any (Rows.fnExactKeptNewSpec.pre6 enc Try.prog Try.f6 Rows.fnExactKeptNewRow.domain false) (Rows.fnExactKeptNewSpec.post enc Try.prog Try.f6 false true false false) := by
  refine returnsInHanded_of_change (C := Try.checked) Base.own started (by kernel_rfl) Try.func6
    (ChangeSpec.witness6 (enc := enc) (C := Try.checked) false ⟨#[], #[.int .i64 0], []⟩ 8 (by kernel_rfl) (by kernel_rfl) (by kernel_rfl) (by kernel_rfl)) ?_
  intro W base args ds gs before hval0 hW hcnd _
  have hval : ∀ (j : Nat) t v, Try.f6.params[j]? = some t → args[j]? = some v → Value.okWide Try.prog W .any base t v := hval0
  have hW' := hW
  obtain ⟨p, q, hA0, hV, rfl, hfz, hnd⟩ := hW
  have hA : DataW.TrodAll enc Try.prog W 0 (fun _ => true) true Try.f6.params.toList args.toList ds p := hA0
  have hA1 := hA
  rw [Try.params6] at hA hval
  obtain ⟨v0, vs0, d0, ds0, p0, q0, hargs, rfl, rfl, h0, r0⟩ := trodAll_cons hA
  obtain ⟨rfl, rfl, rfl⟩ := trodAll_nil r0
  obtain rfl : args = #[v0] := by cases args; simp_all
  obtain ⟨rfl, rfl⟩ := trodVars_none hV
  obtain ⟨a0, rfl, _, _, w0⟩ := open_int Try.underlying3 (hval 0 3 v0 rfl rfl) h0
  clear hA0 hval0
  rw [List.append_nil] at hW'
  refine (walk a0 w0 W).mono fun e W' ⟨he, hg⟩ => ?_
  subst he
  exact ⟨_, rfl, Mem.post_args Slots.laid (by kernel_rfl) rfl rfl rfl hW' hA1 hg (fun _ _ _ => (trodAll_cons_mk (shut_bool Try.underlying4 _) trodAll_mk0)) (ok_one (by kernel_rfl) rfl (okWide_bool_mk Try.underlying4 _))⟩

theorem over : Rows.fnExactKeptNewRow.holds Try.pinned (OpenSpec.ofChange Rows.fnExactKeptNewSpec) :=
  OpenClaim.holds_of_wide 6 Try.f6 rfl rfl rfl rfl rfl rfl rfl ⟨rfl, rfl, rfl, rfl, rfl⟩ rfl rfl rfl rfl rfl (by kernel_rfl) Try.func6 (by kernel_rfl)
    (of_decide_eq_true (by kernel_rfl)) (by unfold Func.isWrapper; first | (rw [if_pos (by decide +kernel)]; kernel_rfl) | (rw [if_neg (by decide +kernel)]; exact ⟨rfl, rfl⟩))
    (fun os started H enc _ => lifted os started H enc)

/-- The given statement. -/
theorem proved : Rows.FnExactKeptNewSaid :=
  over
#print axioms proved
end Go.Proofs.Ytfgckkgakghenaa.fnExactKeptNew
