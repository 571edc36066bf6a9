/-
  At every argument the law FnExactPageOk returns true: the project's PageOk answers as the given model's PageOk, changes no argument, and what it returns is its own. No condition.
-/
import Derived.Test.YtkbcmeachfplnaaMemPutS
import Derived.Test.YtkbcmeachfplnaaGridArgs
import Derived.Test.YtkbcmeachfplnaaSizes
namespace Go.Proofs.Ytkbcmeachfplnaa.fnExactPageOk
open Go.ChangeShapes Go.WideShapes Go.ChangeAt Go.RowKit
open Go.Proofs.Ytkbcmeachfplnaa.Base Go.Proofs.Ytkbcmeachfplnaa.Mem Go.Proofs.Ytkbcmeachfplnaa.Ints Go.Proofs.Ytkbcmeachfplnaa.Grid
set_option linter.unusedVariables false

set_option maxRecDepth 100000 in
set_option maxHeartbeats 4000000 in
theorem walk (A0 : Option Addr) (n0 c0 : Nat) (l0 : List Int) {w : World} (hn0 : n0 ≤ 9223372036854775807) (hl0 : l0.length = n0) (h0 : Lies w 0 w.heap.size A0 (ncells l0)) :
    Calls Try.prog 6 #[.slice A0 n0 c0] w fun e w' => e = .returned (.bool true) ∧ Below w.heap.size w w' := by
  have HA0 := Lib.hid (show ∀ W, Below w.heap.size w W → Lies W 0 W.heap.size A0 (ncells l0) from fun W hb => (h0.below hb (Nat.le_refl _)).wide (Nat.le_refl _) hb.size)
  have HL0 := Lib.hid hl0
  clear hl0
  by_cases hbig0 : 1048576 < n0
  · clear h0
    go_enter Try.func6, Try.ntmps6
    go_wp2
    go_ret
    exact ⟨rfl, Below.refl _ _⟩
  have hm0 : n0 ≤ 1048576 := by omega
  clear hbig0
  have hK1 := fun (A : Option Addr) (n c lo hi : Nat) (V : World) (hn : n ≤ 1048576) (h : l0.length = n) (h1 : Lies V lo hi A (ncells l0)) => spec_pageOk A n c lo hi l0 V hn h h1
  have hK2 := fun (A : Option Addr) (n c lo hi : Nat) (V : World) (hn : n ≤ 1048576) (h : l0.length = n) (h1 : Lies V lo hi A (ncells l0)) => impl_pageOk A n c lo hi l0 V hn h h1
  generalize pageB l0 = b at hK1 hK2
  have HK1 := Lib.hid hK1
  have HK2 := Lib.hid hK2
  clear hK1 hK2 h0
  go_enter Try.func6, Try.ntmps6
  go_wp2_with fail
  refine (toIntS_any A0 n0 c0 0 l0 _ hm0 HL0.out (HA0.out _ (Below.refl _ _))).mono ?_
  rintro e w1 ⟨X1, m1, d1, rfl, hx1, ho1, hb1⟩
  obtain rfl : n0 = m1 := by have := HL0.out; omega
  have hB1 := btr (Below.refl _ _) hb1
  have hS1 := hb1.size
  have hOa_1 := Lib.hid ho1
  clear hx1 ho1 hb1
  go_wp2_with fail
  refine (HK1.out _ _ _ _ _ _ hm0 HL0.out hOa_1.out.1).mono ?_
  rintro e w' ⟨rfl, rfl⟩
  clear hOa_1
  go_wp2_with fail
  refine (toIntS_any A0 n0 c0 0 l0 _ hm0 HL0.out (HA0.out _ hB1)).mono ?_
  rintro e w3 ⟨X3, m3, d3, rfl, hx3, ho3, hb3⟩
  obtain rfl : n0 = m3 := by have := HL0.out; omega
  have hB3 := btr hB1 hb3
  have hS3 := hb3.size
  have hOx_3 := Lib.hid ho3
  clear hx3 ho3 hb3
  go_wp2_with fail
  refine (HK2.out _ _ _ _ _ _ hm0 HL0.out hOx_3.out.1).mono ?_
  rintro e w' ⟨rfl, rfl⟩
  go_wp2_with fail
  refine (toIntS_any A0 n0 c0 0 l0 _ hm0 HL0.out (HA0.out _ hB3)).mono ?_
  rintro e w5 ⟨X5, m5, d5, rfl, hx5, ho5, hb5⟩
  obtain rfl : n0 = m5 := by have := HL0.out; omega
  have hB5 := btr hB3 hb5
  have hS5 := hb5.size
  have hOx_5 := Lib.hid (hOx_3.out.below hb5 (by omega))
  have hOy_5 := Lib.hid ho5
  clear hOx_3 hx5 ho5 hb5
  go_wp2_with fail
  refine (eqIntS_same X3 X5 n0 d3 d5 _ _ _ _ l0 _ hm0 HL0.out hOx_5.out.1 hOy_5.out.1).mono ?_
  rintro e w6 ⟨rfl, hb6⟩
  have hB6 := btr hB5 hb6
  have hS6 := hb6.size
  have hOx_6 := Lib.hid (hOx_5.out.below hb6 (by omega))
  have hOy_6 := Lib.hid (hOy_5.out.below hb6 (by omega))
  clear hOx_5 hOy_5 hb6
  go_wp2_with fail
  go_ret
  exact ⟨rfl, hB6⟩

/-! ### The row's step -/
set_option maxRecDepth 100000 in
theorem lifted (os : Os) (started : os.Started) (H : Type) (enc : TypeId × Value → H) :
    ReturnsInHanded {} Try.checked os 6 .any (Rows.fnExactPageOkSpec.pre6 enc Try.prog Try.f6 Rows.fnExactPageOkRow.domain false) (Rows.fnExactPageOkSpec.post enc Try.prog Try.f6 false true false false) := by
  refine returnsInHanded_of_change (C := Try.checked) Base.own started (by kernel_rfl) Try.func6
    (ChangeSpec.witness6 (enc := enc) (C := Try.checked) false ⟨#[], #[.slice none 0 0], []⟩ 8 (by kernel_rfl) (by kernel_rfl) (by kernel_rfl) (by kernel_rfl)) ?_
  intro W base args ds gs before hval0 hW hcnd _
  have hval : ∀ (j : Nat) t v, Try.f6.params[j]? = some t → args[j]? = some v → Value.okWide Try.prog W .any base t v := hval0
  have hW' := hW
  obtain ⟨p, q, hA0, hV, rfl, hfz, hnd⟩ := hW
  have hA : DataW.TrodAll enc Try.prog W 0 (fun _ => true) true Try.f6.params.toList args.toList ds p := hA0
  have hA1 := hA
  rw [Try.params6] at hA hval
  obtain ⟨v0, vs0, d0, ds0, p0, q0, hargs, rfl, rfl, h0, r0⟩ := trodAll_cons hA
  obtain ⟨rfl, rfl, rfl⟩ := trodAll_nil r0
  obtain rfl : args = #[v0] := by cases args; simp_all
  obtain ⟨rfl, rfl⟩ := trodVars_none hV
  obtain ⟨A0, n0, c0, l0, rfl, hn0, hl0, h0'⟩ := Grid.open_intsA (hval 0 32 v0 rfl rfl) h0
  clear hA0 hval0
  rw [List.append_nil] at hW'
  refine (walk A0 n0 c0 l0 hn0 hl0 h0').mono fun e W' ⟨he, hg⟩ => ?_
  subst he
  exact ⟨_, rfl, Mem.post_args Grid.laid (by kernel_rfl) rfl rfl rfl hW' hA1 hg (fun _ _ _ => (trodAll_cons_mk (shut_bool Try.underlying4 _) trodAll_mk0)) (ok_one (by kernel_rfl) rfl (okWide_bool_mk Try.underlying4 _))⟩

theorem over : Rows.fnExactPageOkRow.holds Try.pinned (OpenSpec.ofChange Rows.fnExactPageOkSpec) :=
  OpenClaim.holds_of_wide 6 Try.f6 rfl rfl rfl rfl rfl rfl rfl ⟨rfl, rfl, rfl, rfl, rfl⟩ rfl rfl rfl rfl rfl (by kernel_rfl) Try.func6 (by kernel_rfl)
    (of_decide_eq_true (by kernel_rfl)) (by unfold Func.isWrapper; first | (rw [if_pos (by decide +kernel)]; kernel_rfl) | (rw [if_neg (by decide +kernel)]; exact ⟨rfl, rfl⟩))
    (fun os started H enc _ => lifted os started H enc)

/-- The given statement. -/
theorem proved : Rows.FnExactPageOkSaid :=
  over
#print axioms proved
end Go.Proofs.Ytkbcmeachfplnaa.fnExactPageOk
