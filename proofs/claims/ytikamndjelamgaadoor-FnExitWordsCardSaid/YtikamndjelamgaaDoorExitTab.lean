/-
  The project's table of the exits' names: its cells in a world, carried on, and as the rows list it; ExitName reads it. The condition 'ExTab': the variable holds the five names.
-/
import Derived.Test.YtikamndjelamgaaDoorStrTab
import Derived.Test.YtikamndjelamgaaDoorExit
namespace Go.Proofs.YtikamndjelamgaaDoor.Exits
set_option maxRecDepth 100000
open Go.ChangeShapes Go.WideShapes Go.ChangeAt Go.RowKit
open Go.Proofs.YtikamndjelamgaaDoor.Base Go.Proofs.YtikamndjelamgaaDoor.Mem Go.Proofs.YtikamndjelamgaaDoor.Data Go.Proofs.YtikamndjelamgaaDoor.StrTab
set_option linter.unusedVariables false
set_option linter.unusedSimpArgs false

def exVar : String := "loop.example/g00975/impl.exitNames"
def exBytes : List (List UInt8) := [[110, 111, 110, 101], [102, 97, 117, 108, 116], [99, 97, 108, 108], [111, 117, 116], [104, 97, 108, 116]]
theorem exVarN : Tryd.prog.globalNamed exVar = some 0 := by kernel_rfl
theorem exVarT : (Tryd.prog.globals[0]?).map (·.type) = some 57 := by kernel_rfl
theorem exCe : Tryd.prog.cellsOf 9 = 1 := by kernel_rfl
theorem exCt : Tryd.prog.cellsOf 57 = 5 := by kernel_rfl

/-- The variable holds the names. -/
def ExTab (w : World) : Prop := w.var? Tryd.prog exVar = some (scol exBytes).toArray
theorem ExTab.below {w w' : World} (h : ExTab w) (hb : Below w.heap.size w w') : ExTab w' := var_below h hb
theorem ExTab.cell {w : World} (h : ExTab w) (k : Nat) (hk : k < 5) : w.cell? ⟨0, k, none⟩ = some (.string (exitNames.getD k ⟨#[]⟩)) := by
  rw [World.var?_cell exVarN h k]
  match k, hk with
  | 0, _ | 1, _ | 2, _ | 3, _ | 4, _ => rfl

theorem ex_tab {W : World} {rest : List (String × DataW Unit)} (h : laidMet Tryd.prog ((exVar, Rows.laid_loop_example_g00975_impl_exitNames) :: rest) W) : ExTab W :=
  var_of_laid (bs := exBytes) exVarN exVarT Tryd.underlying57 Tryd.underlying9 exCe exCt h
theorem ex_tabH {W : World} (h : laidMetH Tryd.prog [(exVar, Rows.laid_loop_example_g00975_impl_exitNames)] W) : ExTab W := ex_tab (rest := []) h
theorem ex_read {H : Type} (enc : TypeId × Value → H) {X : World} (h : ExTab X) (sp : Nat → Bool) :
    DataW.TrodVars enc Tryd.prog X sp [exVar] [sdat exBytes] (MemPlace.row ⟨0, 0, none⟩ 5) :=
  ⟨0, 57, _, 3, [], [], exVarN, exVarT, h, by kernel_rfl, rfl, rfl⟩

set_option maxHeartbeats 2000000 in
theorem impl_exitName (o : Int) (w : World) (ht : ExTab w) :
    Calls Tryd.prog 23 #[.int .i64 o] w fun e w' => e = .returned (.string (exitName o)) ∧ Below w.heap.size w w' := by
  by_cases h : 0 ≤ o ∧ o ≤ 4
  · have h8 : o = 0 ∨ o = 1 ∨ o = 2 ∨ o = 3 ∨ o = 4 := by omega
    clear h
    rcases h8 with rfl | rfl | rfl | rfl | rfl
    all_goals
      have c0 := ht.cell 0 (by decide)
      have c1 := ht.cell 1 (by decide)
      have c2 := ht.cell 2 (by decide)
      have c3 := ht.cell 3 (by decide)
      have c4 := ht.cell 4 (by decide)
      clear ht
      go_enter Tryd.func23, Tryd.ntmps23
      go_wp2_with fail
      go_ret
      exact ⟨rfl, Below.refl _ _⟩
  · have HV := Lib.hid (exitName_out (inB_false.2 (show o < 0 ∨ 4 < o by omega)))
    by_cases hlo : o < 0
    · have hd : decide (o < 0) = true := decide_eq_true hlo
      clear h hlo ht
      go_enter Tryd.func23, Tryd.ntmps23
      go_wp2_with fail
      go_ret
      exact ⟨by rw [HV.out]; rfl, Below.refl _ _⟩
    · have hd : decide (o < 0) = false := decide_eq_false hlo
      have hd2 : decide (o > 4) = true := decide_eq_true (by omega)
      clear h hlo ht
      go_enter Tryd.func23, Tryd.ntmps23
      go_wp2_with fail
      go_ret
      exact ⟨by rw [HV.out]; rfl, Below.refl _ _⟩
end Go.Proofs.YtikamndjelamgaaDoor.Exits
