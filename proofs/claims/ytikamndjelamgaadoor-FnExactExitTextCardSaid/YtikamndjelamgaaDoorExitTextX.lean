/-
  At every argument the law FnExactExitText returns true: the project's ExitText answers as the given model's ExitText, changes no argument, and what it returns is its own. The tables of strconv, math/bits and the project that the row lists are tied to the program's text by the given card (over the pruned copy of the project that the seat holds). No other condition.
-/
import Derived.Test.YtikamndjelamgaaDoorCards
import Derived.Test.YtikamndjelamgaaDoorTie
import Derived.Test.YtikamndjelamgaaDoorExitImplD
import Derived.Test.YtikamndjelamgaaDoorSlotArgs
import Derived.Deep.DeepHandedRow
import Derived.Deep.DeepWitnessRowRef
import Derived.Deep.RegionHeld3
import Derived.Lay
namespace Go.Proofs.YtikamndjelamgaaDoor.fnExactExitText
set_option maxRecDepth 100000
open Go.ChangeShapes Go.WideShapes Go.ChangeAt Go.RowKit
open Go.Proofs.YtikamndjelamgaaDoor.Base Go.Proofs.YtikamndjelamgaaDoor.Mem Go.Proofs.YtikamndjelamgaaDoor.Slots Go.Proofs.YtikamndjelamgaaDoor.Ints Go.Proofs.YtikamndjelamgaaDoor.Exits
set_option linter.unusedVariables false
set_option linter.unusedSimpArgs false

theorem facts {W : World} (h : laidMetH Tryd.prog Rows.fnExactExitTextRow.laid W) : ExF W := by
  have h' : laidMet Tryd.prog Rows.fnExactExitTextRow.laid W := h
  exact ⟨Laid.pow_of_head h'.tail.tail, ex_tab h'.tail.tail.tail⟩
set_option maxRecDepth 100000 in
set_option maxHeartbeats 8000000 in
theorem walk (a00 : Int) (a01 : Int) (a02 : Bool) (a03 : Int) (w0 : wfQ (a00, a01, a02, a03)) (w : World) (hF : ExF w) :
    Calls Tryd.prog 6 #[.agg #[.int .i64 a00, .int .i64 a01, .bool a02, .int .i64 a03]] w fun e w' => e = .returned (.bool true) ∧ Below w.heap.size w w' := by
  have HW0 := Lib.hid w0
  clear w0
  have HF := Lib.hid (fun (V : World) (hb : Below w.heap.size w V) => hF.below hb)
  have hK1 := fun V : World => spec_exitT a00 a01 a02 a03 V HW0.out
  have hK2 := fun (V : World) (h : ExF V) => impl_exitT a00 a01 a02 a03 V HW0.out h
  generalize exitT (a00, a01, a02, a03) = x at hK1 hK2
  have HK1 := Lib.hid hK1
  have HK2 := Lib.hid hK2
  clear hK1 hK2 hF
  go_enter Tryd.func6, Tryd.ntmps6
  have hB1 : Below w.heap.size w (w.alloc (.cells #[.int .i64 a00, .int .i64 a01, .bool a02, .int .i64 a03] 38)) := (Below.refl _ _).alloc (Nat.le_refl _) _
  have hS1 : w.heap.size < (w.alloc (.cells #[.int .i64 a00, .int .i64 a01, .bool a02, .int .i64 a03] 38)).heap.size := by simp
  have hOb_1 := Lib.hid (Var.new w [.int .i64 a00, .int .i64 a01, .bool a02, .int .i64 a03] 38)
  have zb0 := hOb_1.out.cell 0 (v := .int .i64 a00) rfl
  have zb1 := hOb_1.out.cell 1 (v := .int .i64 a01) rfl
  have zb2 := hOb_1.out.cell 2 (v := .bool a02) rfl
  have zb3 := hOb_1.out.cell 3 (v := .int .i64 a03) rfl
  go_wp2_with fail
  refine (toExit_any a00 a01 a02 a03 _).mono ?_
  rintro e w2 ⟨rfl, hb2⟩
  have hB2 := btr hB1 hb2
  have hS2 := hb2.size
  have hOb_2 := Lib.hid (hOb_1.out.below hb2 (by omega))
  clear hOb_1 hb2
  clear zb0 zb1 zb2 zb3
  go_wp2_with fail
  refine (HK1.out _).mono ?_
  rintro e w3 ⟨rfl, hb3⟩
  have hB3 := btr hB2 hb3
  have hS3 := hb3.size
  have hOb_3 := Lib.hid (hOb_2.out.below hb3 (by omega))
  clear hOb_2 hb3
  have zb0 := hOb_3.out.cell 0 (v := .int .i64 a00) rfl
  have zb1 := hOb_3.out.cell 1 (v := .int .i64 a01) rfl
  have zb2 := hOb_3.out.cell 2 (v := .bool a02) rfl
  have zb3 := hOb_3.out.cell 3 (v := .int .i64 a03) rfl
  go_wp2_with fail
  refine (toExit_any a00 a01 a02 a03 _).mono ?_
  rintro e w4 ⟨rfl, hb4⟩
  have hB4 := btr hB3 hb4
  have hS4 := hb4.size
  have hOb_4 := Lib.hid (hOb_3.out.below hb4 (by omega))
  clear hOb_3 hb4
  clear zb0 zb1 zb2 zb3
  go_wp2_with fail
  refine (HK2.out _ (HF.out _ hB4)).mono ?_
  rintro e w5 ⟨rfl, hb5⟩
  have hB5 := btr hB4 hb5
  have hS5 := hb5.size
  have hOb_5 := Lib.hid (hOb_4.out.below hb5 (by omega))
  clear hOb_4 hb5
  go_wp2_with fail
  go_ret
  exact ⟨rfl, hB5⟩
/-! ### The row's step, and the card -/
theorem contract (H : Type) (enc : TypeId × Value → H) (W : World) (base : Nat) (args : Array Value) (ds gs : List (DataW H)) (before : List MemPlace)
    (hval : ∀ (j : Nat) t v, Tryd.f6.params[j]? = some t → args[j]? = some v → Value.okWide Tryd.prog W .any base t v)
    (hW : DataW.Whole enc Tryd.prog Tryd.f6.params.toList Rows.fnExactExitTextSpec.vars false W args.toList ds gs before) (hL : laidMetH Tryd.prog Rows.fnExactExitTextRow.laid W) :
    Calls Tryd.prog 6 args W fun e W' => ∃ v, e = .returned v ∧ Rows.fnExactExitTextSpec.post enc Tryd.prog Tryd.f6 false true false false W args v W' := by
  have hF := facts hL
  have hW' := hW
  obtain ⟨p, q, hA0, hV0, rfl, hfz, hnd⟩ := hW
  have hA : DataW.TrodAll enc Tryd.prog W 0 (fun _ => true) true Tryd.f6.params.toList args.toList ds p := hA0
  have hA1 := hA
  obtain ⟨rfl, rfl⟩ := DataW.TrodVars.unique hV0 (ex_readF enc hF _)
  rw [Tryd.params6] at hA hval
  obtain ⟨v0, vs0, d0, ds0, p0, q0, hargs, rfl, rfl, h0, r0⟩ := trodAll_cons hA
  obtain ⟨rfl, rfl, rfl⟩ := trodAll_nil r0
  obtain rfl : args = #[v0] := by cases args; simp_all
  obtain ⟨a00, a01, a02, a03, rfl, w0⟩ := Exits.open_exit (hval 0 38 v0 rfl rfl) h0
  clear hA0 hV0
  refine (walk a00 a01 a02 a03 w0 W hF).mono fun e W' ⟨he, hg⟩ => ?_
  subst he
  exact ⟨_, rfl, StrTab.post_named Slots.laid (by kernel_rfl) rfl rfl hW' hA1 hg (fun sp => ex_readF enc (hF.below hg) sp) (fun _ _ _ => (trodAll_cons_mk (shut_bool Tryd.underlying4 _) trodAll_mk0)) (ok_one (by kernel_rfl) rfl (okWide_bool_mk Tryd.underlying4 _))⟩

theorem laid_met (os : Os) : laidMet Tryd.prog Rows.fnExactExitTextRow.laid ((World.laidAll Tryd.prog os Rows.fnExactExitTextRow.laid).forCall (fun _ _ => 0) ⟨#[], #[.agg #[.int .i64 0, .int .i64 0, .bool false, .int .i64 0]], []⟩).memory :=
  laidMet_laidAll _ (by kernel_rfl) (by kernel_rfl)

set_option maxRecDepth 100000 in
theorem lifted (os : Os) (started : os.Started) (H : Type) (enc : TypeId × Value → H) (F : Stop.Interp) :
    ReturnsInHanded {} Tryd.checked os 6 .any ((OpenSpec.ofChange Rows.fnExactExitTextSpec).preRow enc Tryd.prog Tryd.f6 Rows.fnExactExitTextRow.domain false Rows.fnExactExitTextRow.laid) (((OpenSpec.ofChange Rows.fnExactExitTextSpec).at F).post enc Tryd.prog Tryd.f6 false true false false) := by
  refine returnsInHanded_of_row (C := Tryd.checked) (s := OpenSpec.ofChange Rows.fnExactExitTextSpec) Base.own started (by kernel_rfl) Tryd.func6
    (witness_row_atRef (enc := enc) (C := Tryd.checked) false (World.laidAll Tryd.prog os Rows.fnExactExitTextRow.laid) #[.agg #[.int .i64 0, .int .i64 0, .bool false, .int .i64 0]] (World.laidAll_os _ _ _) (by kernel_rfl) (by kernel_rfl) (by kernel_rfl)
      (OpenSpec.preRow_of_B rfl 8 (by kernel_rfl) (by kernel_rfl) (laid_met os))) ?_
  intro W base args ds gs before hval hW _ _ _ hL _ _
  exact contract H enc W base args ds gs before hval hW hL

theorem said : Rows.FnExactExitTextSaid :=
  OpenClaim.holds_of_cond 6 Tryd.f6 rfl rfl rfl rfl rfl rfl rfl ⟨rfl, rfl, rfl, rfl, rfl⟩ rfl rfl rfl rfl rfl (by kernel_rfl) Tryd.func6 (by kernel_rfl)
    (of_decide_eq_true (by kernel_rfl)) (by unfold Func.isWrapper; first | (rw [if_pos (by decide +kernel)]; kernel_rfl) | (rw [if_neg (by decide +kernel)]; exact ⟨rfl, rfl⟩))
    (fun os started H enc _ F => by rw [OpenClaim.pre_eq_preRow]; exact lifted os started H enc F)

theorem plain (f : FuncId) (fn : Func) (hf : Tryd.pinned.checked.prog.funcNamed "loop.example/g00975/laws.FnExactExitText" = some f) (hfn : Tryd.pinned.checked.prog.funcs[f]? = some fn) :
    Rows.fnExactExitTextCard.stood.looks = Tryd.pinned.checked.prog.looks [] ∧ ∀ (j : Nat) t, fn.params[j]? = some t → Tryd.pinned.checked.prog.wantsStandIn t = false := by
  obtain rfl : f = 6 := Option.some.inj ((show Tryd.prog.funcNamed "loop.example/g00975/laws.FnExactExitText" = some 6 by kernel_rfl).symm.trans hf) |>.symm
  obtain rfl : fn = Tryd.f6 := (Option.some.inj (Tryd.func6.symm.trans hfn)).symm
  refine ⟨by kernel_rfl, fun j t ht => ?_⟩
  have hall : Tryd.f6.params.toList.all (fun t => !Tryd.prog.wantsStandIn t) = true := by kernel_rfl
  have hm := List.all_eq_true.1 hall t (by simpa using Array.mem_of_getElem? ht)
  exact (show Tryd.prog.wantsStandIn t = false by simpa using hm)

/-- The given statement: the card. -/
theorem proved : Rows.FnExactExitTextCardSaid :=
  Claim7.holds_tied_plain_at .later [] _ _ _ _ said (fun _ h => by cases h) (by kernel_rfl) (fun _ h => by cases h) fnExactExitText_row_tie rfl ⟨rfl, rfl⟩ (by kernel_rfl) rfl plain (by kernel_rfl)
#print axioms proved
end Go.Proofs.YtikamndjelamgaaDoor.fnExactExitText
