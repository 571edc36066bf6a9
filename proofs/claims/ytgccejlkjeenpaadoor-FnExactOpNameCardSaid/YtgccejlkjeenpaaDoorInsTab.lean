/-
  The project's table of the operations' names: its cells in a world, carried on, and as the rows list it; OpName reads it. The condition 'OpTab': the variable holds the nine names.
-/
import Derived.Test.YtgccejlkjeenpaaDoorStrTab
import Derived.Test.YtgccejlkjeenpaaDoorIns
namespace Go.Proofs.YtgccejlkjeenpaaDoor.Inss
set_option maxRecDepth 100000
open Go.ChangeShapes Go.WideShapes Go.ChangeAt Go.RowKit
open Go.Proofs.YtgccejlkjeenpaaDoor.Base Go.Proofs.YtgccejlkjeenpaaDoor.Mem Go.Proofs.YtgccejlkjeenpaaDoor.Data Go.Proofs.YtgccejlkjeenpaaDoor.StrTab
set_option linter.unusedVariables false
set_option linter.unusedSimpArgs false

def opVar : String := "loop.example/g00975/impl.opNames"
def opBytes : List (List UInt8) := [[], [115, 101, 116], [97, 100, 100], [108, 111, 97, 100], [115, 116, 111, 114, 101], [111, 117, 116], [99, 97, 108, 108], [104, 97, 108, 116], [106, 117, 109, 112]]
theorem opVarN : Tryd.prog.globalNamed opVar = some 0 := by kernel_rfl
theorem opVarT : (Tryd.prog.globals[0]?).map (·.type) = some 53 := by kernel_rfl
theorem opCe : Tryd.prog.cellsOf 9 = 1 := by kernel_rfl
theorem opCt : Tryd.prog.cellsOf 53 = 9 := by kernel_rfl

/-- The variable holds the names. -/
def OpTab (w : World) : Prop := w.var? Tryd.prog opVar = some (scol opBytes).toArray
theorem OpTab.below {w w' : World} (h : OpTab w) (hb : Below w.heap.size w w') : OpTab w' := var_below h hb
theorem OpTab.cell {w : World} (h : OpTab w) (k : Nat) (hk : k < 9) : w.cell? ⟨0, k, none⟩ = some (.string (opNames.getD k ⟨#[]⟩)) := by
  rw [World.var?_cell opVarN h k]
  match k, hk with
  | 0, _ | 1, _ | 2, _ | 3, _ | 4, _ | 5, _ | 6, _ | 7, _ | 8, _ => rfl

theorem op_tab {W : World} (h : laidMetH Tryd.prog [(opVar, Rows.laid_loop_example_g00975_impl_opNames)] W) : OpTab W :=
  var_of_laid (bs := opBytes) (rest := []) opVarN opVarT Tryd.underlying53 Tryd.underlying9 opCe opCt h
theorem op_read {H : Type} (enc : TypeId × Value → H) {X : World} (h : OpTab X) (sp : Nat → Bool) :
    DataW.TrodVars enc Tryd.prog X sp [opVar] [sdat opBytes] (MemPlace.row ⟨0, 0, none⟩ 9) :=
  ⟨0, 53, _, 3, [], [], opVarN, opVarT, h, by kernel_rfl, rfl, rfl⟩

set_option maxHeartbeats 2000000 in
theorem impl_opName (o : Int) (w : World) (ht : OpTab w) (wo : (Lit.int .i64 o).wf = true) :
    Calls Tryd.prog 19 #[.int .i64 o] w fun e w' => e = .returned (.string (opName o)) ∧ Below w.heap.size w w' := by
  by_cases h : 1 ≤ o ∧ o ≤ 8
  · have h8 : o = 1 ∨ o = 2 ∨ o = 3 ∨ o = 4 ∨ o = 5 ∨ o = 6 ∨ o = 7 ∨ o = 8 := by omega
    clear h
    rcases h8 with rfl | rfl | rfl | rfl | rfl | rfl | rfl | rfl
    all_goals
      have c1 := ht.cell 1 (by decide)
      have c2 := ht.cell 2 (by decide)
      have c3 := ht.cell 3 (by decide)
      have c4 := ht.cell 4 (by decide)
      have c5 := ht.cell 5 (by decide)
      have c6 := ht.cell 6 (by decide)
      have c7 := ht.cell 7 (by decide)
      have c8 := ht.cell 8 (by decide)
      clear ht
      go_enter Tryd.func19, Tryd.ntmps19
      go_wp2_with fail
      go_ret
      exact ⟨rfl, Below.refl _ _⟩
  · have HV := Lib.hid (opName_out (inB_false.2 (show o < 1 ∨ 8 < o by omega)))
    by_cases hlo : o < 1
    · have hd : decide (o < 1) = true := decide_eq_true hlo
      clear h hlo ht
      go_enter Tryd.func19, Tryd.ntmps19
      go_wp2_with fail
      go_ret
      exact ⟨by rw [HV.out]; rfl, Below.refl _ _⟩
    · have hd : decide (o < 1) = false := decide_eq_false hlo
      have hd2 : decide (o > 8) = true := decide_eq_true (by omega)
      clear h hlo ht
      go_enter Tryd.func19, Tryd.ntmps19
      go_wp2_with fail
      go_ret
      exact ⟨by rw [HV.out]; rfl, Below.refl _ _⟩
end Go.Proofs.YtgccejlkjeenpaaDoor.Inss
