/-
  Exits as text: the project's ExitText. Conditions: ints of 64 bits; strconv's table of powers and the project's table of names hold what the rows list.
-/
import Derived.Test.YtikamndjelamgaaDoorExitText
import Derived.Test.YtikamndjelamgaaDoorExitImpl
import Derived.Test.YtikamndjelamgaaDoorExitTab
import Derived.Test.YtikamndjelamgaaDoorLaid
namespace Go.Proofs.YtikamndjelamgaaDoor.Exits
set_option maxRecDepth 100000
open Go.ChangeShapes Go.WideShapes Go.ChangeAt Go.RowKit
open Go.Proofs.YtikamndjelamgaaDoor.Base Go.Proofs.YtikamndjelamgaaDoor.Mem Go.Proofs.YtikamndjelamgaaDoor.Data Go.Proofs.YtikamndjelamgaaDoor.StrTab
set_option linter.unusedVariables false
set_option linter.unusedSimpArgs false

/-- Both tables. -/
structure ExF (w : World) : Prop where
  pow : Laid.Pow w
  tab : ExTab w
theorem ExF.below {w w' : World} (h : ExF w) (hb : Below w.heap.size w w') : ExF w' := ⟨Laid.pow_below h.pow hb, h.tab.below hb⟩
theorem ex_readF {H : Type} (enc : TypeId × Value → H) {X : World} (h : ExF X) (sp : Nat → Bool) :
    DataW.TrodVars enc Tryd.prog X sp [exVar] [sdat exBytes] (MemPlace.row ⟨0, 0, none⟩ 5) := ex_read enc h.tab sp

theorem app_assocE (x y z : ByteArray) : x ++ y ++ z = x ++ (y ++ z) := by ext1; simp
theorem impl_access (b : Bool) (w : World) :
    Calls Tryd.prog 35 #[.bool b] w fun e w' => e = .returned (.string (if b = true then ⟨#[119]⟩ else ⟨#[114]⟩)) ∧ Below w.heap.size w w' := by
  cases b
  all_goals
    go_enter Tryd.func35, Tryd.ntmps35
    go_wp2_with fail
    go_ret
    exact ⟨rfl, Below.refl _ _⟩

set_option maxRecDepth 100000 in
set_option maxHeartbeats 16000000 in
theorem impl_exitT (k p : Int) (q : Bool) (n : Int) (w : World) (ws : wfQ (k, p, q, n)) (hF : ExF w) :
    Calls Tryd.prog 21 #[.agg #[.int .i64 k, .int .i64 p, .bool q, .int .i64 n]] w fun e w' => e = .returned (.string (exitT (k, p, q, n))) ∧ Below w.heap.size w w' := by
  rcases kind_cases k with rfl | rfl | rfl | rfl | rfl | h
  · have hv : exitT (0, p, q, n) = exitName 0 := rfl
    have hn := fun (V : World) (h : ExTab V) => impl_exitName 0 V h
    have hm := exitName_size 0
    generalize exitName 0 = m at hn hm hv
    have HN := Lib.hid hn
    have HV := Lib.hid hv
    clear hn hv ws
    have HU := Lib.hid (fun V : World => impl_usedBy 0 p q n V)
    rw [usedV_0] at HU
    have hb0 : Below w.heap.size w (w.alloc (.cells #[.int .i64 0, .int .i64 p, .bool q, .int .i64 n] 28)) := (Below.refl _ _).alloc (Nat.le_refl _) _
    have t0 : Var (w.alloc (.cells #[.int .i64 0, .int .i64 p, .bool q, .int .i64 n] 28)) w.heap.size [.int .i64 0, .int .i64 p, .bool q, .int .i64 n] := Var.new w [.int .i64 0, .int .i64 p, .bool q, .int .i64 n] 28
    have hz : w.heap.size < (w.alloc (.cells #[.int .i64 0, .int .i64 p, .bool q, .int .i64 n] 28)).heap.size := by simp
    go_enter Tryd.func21, Tryd.ntmps21
    go_wp2_with fail
    generalize w.alloc (.cells #[.int .i64 0, .int .i64 p, .bool q, .int .i64 n] 28) = W0 at t0 hb0 hz ⊢
    refine (HN.out _ (hF.below hb0).tab).mono ?_
    rintro e u1 ⟨rfl, hb1⟩
    have hb1' := btr hb0 hb1
    have T1 := t0.below hb1 hz
    have v0 := T1.cell 0 (v := .int .i64 0) rfl
    have v1 := T1.cell 1 (v := .int .i64 p) rfl
    have v2 := T1.cell 2 (v := .bool q) rfl
    have v3 := T1.cell 3 (v := .int .i64 n) rfl
    clear hb0 hb1 t0
    go_wp2_with fail
    refine (HU.out _).mono ?_
    rintro e w1 ⟨rfl, hb2⟩
    have hz1' : w.heap.size < u1.heap.size := T1.2
    have hb := btr hb1' hb2
    have T := T1.below hb2 hz1'
    have hz1 : w.heap.size < w1.heap.size := T.2
    clear hb1' hb2 T1 hz HU v0 v1 v2 v3 hz1'
    have as1 := as_no_fault (.agg #[])
    have as2 := as_no_call (.agg #[])
    have as3 := as_no_out (.agg #[])
    have HB := Lib.hid hb
    clear T hb hz1
    go_wp2_with fail
    go_ret
    exact ⟨by rw [HV.out]; rfl, HB.out⟩
  · have hv : exitT (4, p, q, n) = exitName 4 := rfl
    have hn := fun (V : World) (h : ExTab V) => impl_exitName 4 V h
    have hm := exitName_size 4
    generalize exitName 4 = m at hn hm hv
    have HN := Lib.hid hn
    have HV := Lib.hid hv
    clear hn hv ws
    have HU := Lib.hid (fun V : World => impl_usedBy 4 p q n V)
    rw [usedV_4] at HU
    have hb0 : Below w.heap.size w (w.alloc (.cells #[.int .i64 4, .int .i64 p, .bool q, .int .i64 n] 28)) := (Below.refl _ _).alloc (Nat.le_refl _) _
    have t0 : Var (w.alloc (.cells #[.int .i64 4, .int .i64 p, .bool q, .int .i64 n] 28)) w.heap.size [.int .i64 4, .int .i64 p, .bool q, .int .i64 n] := Var.new w [.int .i64 4, .int .i64 p, .bool q, .int .i64 n] 28
    have hz : w.heap.size < (w.alloc (.cells #[.int .i64 4, .int .i64 p, .bool q, .int .i64 n] 28)).heap.size := by simp
    go_enter Tryd.func21, Tryd.ntmps21
    go_wp2_with fail
    generalize w.alloc (.cells #[.int .i64 4, .int .i64 p, .bool q, .int .i64 n] 28) = W0 at t0 hb0 hz ⊢
    refine (HN.out _ (hF.below hb0).tab).mono ?_
    rintro e u1 ⟨rfl, hb1⟩
    have hb1' := btr hb0 hb1
    have T1 := t0.below hb1 hz
    have v0 := T1.cell 0 (v := .int .i64 4) rfl
    have v1 := T1.cell 1 (v := .int .i64 p) rfl
    have v2 := T1.cell 2 (v := .bool q) rfl
    have v3 := T1.cell 3 (v := .int .i64 n) rfl
    clear hb0 hb1 t0
    go_wp2_with fail
    refine (HU.out _).mono ?_
    rintro e w1 ⟨rfl, hb2⟩
    have hz1' : w.heap.size < u1.heap.size := T1.2
    have hb := btr hb1' hb2
    have T := T1.below hb2 hz1'
    have hz1 : w.heap.size < w1.heap.size := T.2
    clear hb1' hb2 T1 hz HU v0 v1 v2 v3 hz1'
    have as1 := as_halt_fault (.agg #[])
    have as2 := as_halt_call (.agg #[])
    have as3 := as_halt_out (.agg #[])
    have HB := Lib.hid hb
    clear T hb hz1
    go_wp2_with fail
    go_ret
    exact ⟨by rw [HV.out]; rfl, HB.out⟩
  · have hn := fun (V : World) (h : ExTab V) => impl_exitName 1 V h
    have hm := exitName_size 1
    have hd := fun (V : World) (h : Laid.Pow V) => Laid.decimal_any p (rangeE ws.2.1).1 (rangeE ws.2.1).2 V h
    change ∀ (V : World) (h : Laid.Pow V), Calls Tryd.prog 34 #[.int .i64 p] V (fun e w' => e = .returned (.string (itoaE p)) ∧ Below V.heap.size V w') at hd
    have hy := itoaE_size ws.2.1
    dsimp only at hy
    have hv : exitT (1, p, q, n) = exitName 1 ++ ⟨#[32]⟩ ++ itoaE p ++ ⟨#[32]⟩ ++ (if q = true then ⟨#[119]⟩ else ⟨#[114]⟩) := by
      rw [app_assocE (exitName 1 ++ ⟨#[32]⟩ ++ itoaE p)]; cases q <;> rfl
    have hq : (if q = true then (⟨#[119]⟩ : ByteArray) else ⟨#[114]⟩).size = 1 := by cases q <;> rfl
    have ha := fun V : World => impl_access q V
    generalize (if q = true then (⟨#[119]⟩ : ByteArray) else ⟨#[114]⟩) = z at hv hq ha
    generalize exitName 1 = m at hn hm hv
    generalize itoaE p = y at hd hy hv
    have f1 : ¬ 9223372036854775807 < m.size + 1 := by omega
    have f2 : ¬ 9223372036854775807 < m.size + 1 + y.size := by omega
    have f3 : ¬ 9223372036854775807 < m.size + 1 + y.size + 1 := by omega
    have f4 : ¬ 9223372036854775807 < m.size + 1 + y.size + 1 + z.size := by omega
    have HD := Lib.hid hd
    clear hd
    have HA := Lib.hid ha
    clear ha hq
    have HN := Lib.hid hn
    have HV := Lib.hid hv
    clear hn hv ws
    have HU := Lib.hid (fun V : World => impl_usedBy 1 p q n V)
    rw [usedV_1] at HU
    have hb0 : Below w.heap.size w (w.alloc (.cells #[.int .i64 1, .int .i64 p, .bool q, .int .i64 n] 28)) := (Below.refl _ _).alloc (Nat.le_refl _) _
    have t0 : Var (w.alloc (.cells #[.int .i64 1, .int .i64 p, .bool q, .int .i64 n] 28)) w.heap.size [.int .i64 1, .int .i64 p, .bool q, .int .i64 n] := Var.new w [.int .i64 1, .int .i64 p, .bool q, .int .i64 n] 28
    have hz : w.heap.size < (w.alloc (.cells #[.int .i64 1, .int .i64 p, .bool q, .int .i64 n] 28)).heap.size := by simp
    go_enter Tryd.func21, Tryd.ntmps21
    go_wp2_with fail
    generalize w.alloc (.cells #[.int .i64 1, .int .i64 p, .bool q, .int .i64 n] 28) = W0 at t0 hb0 hz ⊢
    refine (HN.out _ (hF.below hb0).tab).mono ?_
    rintro e u1 ⟨rfl, hb1⟩
    have hb1' := btr hb0 hb1
    have T1 := t0.below hb1 hz
    have v0 := T1.cell 0 (v := .int .i64 1) rfl
    have v1 := T1.cell 1 (v := .int .i64 p) rfl
    have v2 := T1.cell 2 (v := .bool q) rfl
    have v3 := T1.cell 3 (v := .int .i64 n) rfl
    clear hb0 hb1 t0
    go_wp2_with fail
    refine (HU.out _).mono ?_
    rintro e w1 ⟨rfl, hb2⟩
    have hz1' : w.heap.size < u1.heap.size := T1.2
    have hb := btr hb1' hb2
    have T := T1.below hb2 hz1'
    have hz1 : w.heap.size < w1.heap.size := T.2
    clear hb1' hb2 T1 hz HU v0 v1 v2 v3 hz1'
    have as1 := as_fault_fault (.agg #[.int .i64 p, .bool q])
    have as2 := as_fault_call (.agg #[.int .i64 p, .bool q])
    have as3 := as_fault_out (.agg #[.int .i64 p, .bool q])
    have t2 : Var (w1.alloc (.cells #[.int .i64 p, .bool q] 50)) w1.heap.size [.int .i64 p, .bool q] := Var.new w1 [.int .i64 p, .bool q] 50
    have hA : Below w1.heap.size w1 (w1.alloc (.cells #[.int .i64 p, .bool q] 50)) := (Below.refl _ _).alloc (Nat.le_refl _) _
    have hB2 := btr hb hA
    clear T hb hz1 hA
    have hz2 : w1.heap.size < (w1.alloc (.cells #[.int .i64 p, .bool q] 50)).heap.size := by simp
    go_wp2_with fail
    generalize w1.alloc (.cells #[.int .i64 p, .bool q] 50) = W2 at t2 hB2 hz2 ⊢
    refine Ord.wp_region_ord (fun w' => w'.cell? ⟨w1.heap.size, 0, none⟩ = some (.int .i64 p) ∧ w'.cell? ⟨w1.heap.size, 1, none⟩ = some (.bool q)) [(0, true), (1, true), (2, true), (3, true), (7, true), (8, true), (4, false), (5, true), (6, true), (9, false), (10, true), (11, true)] (by kernel_rfl) (by kernel_rfl) rfl (by kernel_rfl) (⟨t2.cell 0 (v := .int .i64 p) rfl, t2.cell 1 (v := .bool q) rfl⟩) ?_
    simp only [Ord.ordOps, List.getElem?_toArray, List.getElem?_cons_zero, List.getElem?_cons_succ]
    repeat (first
      | (refine Ord.ord_plain (v := ?_) rfl (fun w' hS => ?_) ?_; rotate_left; (focus ((try dsimp only at hS); go_simp; first | done | with_reducible rfl)); simp only [Act.put, List.setIfInBounds_toArray, List.set_cons_zero, List.set_cons_succ])
      | (refine Ord.ord_skip (by rfl) ?_; simp only [Act.put, List.setIfInBounds_toArray, List.set_cons_zero, List.set_cons_succ])
      | (refine Ord.ord_take (v := ?_) (by rfl) (fun w' hS => ?_) ?_; rotate_left; (focus ((try dsimp only at hS); go_simp; first | done | with_reducible rfl)); simp only [Act.put, List.setIfInBounds_toArray, List.set_cons_zero, List.set_cons_succ]))
    have hbd : Below W2.heap.size W2 W2.drew := (Below.refl _ _).drew
    have hB3 := btr hB2 hbd
    have t3 := t2.below hbd hz2
    have hz4 := hbd.size
    clear hbd
    refine Ord.ord_call (fun K hK => ?_)
    go_simp
    refine (HD.out _ (hF.below hB3).pow).mono ?_
    rintro e v3 ⟨rfl, hb4⟩
    have hB4 := btr hB3 hb4
    have t4 := t3.below hb4 (by omega)
    have hy4 := hb4.size
    refine hK.out _ _ (⟨t4.cell 0 (v := .int .i64 p) rfl, t4.cell 1 (v := .bool q) rfl⟩) ?_
    clear hK K
    repeat (first
      | (refine Ord.ord_plain (v := ?_) rfl (fun w' hS => ?_) ?_; rotate_left; (focus ((try dsimp only at hS); go_simp; first | done | with_reducible rfl)); simp only [Act.put, List.setIfInBounds_toArray, List.set_cons_zero, List.set_cons_succ])
      | (refine Ord.ord_skip (by rfl) ?_; simp only [Act.put, List.setIfInBounds_toArray, List.set_cons_zero, List.set_cons_succ])
      | (refine Ord.ord_take (v := ?_) (by rfl) (fun w' hS => ?_) ?_; rotate_left; (focus ((try dsimp only at hS); go_simp; first | done | with_reducible rfl)); simp only [Act.put, List.setIfInBounds_toArray, List.set_cons_zero, List.set_cons_succ]))
    refine Ord.ord_call (fun K hK => ?_)
    go_simp
    refine (HA.out _).mono ?_
    rintro e v4 ⟨rfl, hb5⟩
    have hB5 := btr hB4 hb5
    have t5 := t4.below hb5 (by omega)
    have hy5 := hb5.size
    refine hK.out _ _ (⟨t5.cell 0 (v := .int .i64 p) rfl, t5.cell 1 (v := .bool q) rfl⟩) ?_
    clear hK K
    repeat (first
      | (refine Ord.ord_plain (v := ?_) rfl (fun w' hS => ?_) ?_; rotate_left; (focus ((try dsimp only at hS); go_simp; first | done | with_reducible rfl)); simp only [Act.put, List.setIfInBounds_toArray, List.set_cons_zero, List.set_cons_succ])
      | (refine Ord.ord_skip (by rfl) ?_; simp only [Act.put, List.setIfInBounds_toArray, List.set_cons_zero, List.set_cons_succ])
      | (refine Ord.ord_take (v := ?_) (by rfl) (fun w' hS => ?_) ?_; rotate_left; (focus ((try dsimp only at hS); go_simp; first | done | with_reducible rfl)); simp only [Act.put, List.setIfInBounds_toArray, List.set_cons_zero, List.set_cons_succ]))
    refine Ord.ord_nil ?_
    have HBF := Lib.hid hB5
    clear hB2 hB3 hB4 hB5
    go_wp2_with fail
    go_ret
    exact ⟨by rw [HV.out]; rfl, HBF.out⟩
  · have hn := fun (V : World) (h : ExTab V) => impl_exitName 2 V h
    have hm := exitName_size 2
    have hd := fun (V : World) (h : Laid.Pow V) => Laid.decimal_any n (rangeE ws.2.2.2).1 (rangeE ws.2.2.2).2 V h
    change ∀ (V : World) (h : Laid.Pow V), Calls Tryd.prog 34 #[.int .i64 n] V (fun e w' => e = .returned (.string (itoaE n)) ∧ Below V.heap.size V w') at hd
    have hy := itoaE_size ws.2.2.2
    dsimp only at hy
    have hv : exitT (2, p, q, n) = exitName 2 ++ ⟨#[32]⟩ ++ itoaE n := rfl
    generalize exitName 2 = m at hn hm hv
    generalize itoaE n = y at hd hy hv
    have f1 : ¬ 9223372036854775807 < m.size + 1 := by omega
    have f2 : ¬ 9223372036854775807 < m.size + 1 + y.size := by omega
    have f3 : ¬ 9223372036854775807 < m.size + 1 + y.size + 1 := by omega
    have HD := Lib.hid hd
    clear hd
    have HN := Lib.hid hn
    have HV := Lib.hid hv
    clear hn hv ws
    have HU := Lib.hid (fun V : World => impl_usedBy 2 p q n V)
    rw [usedV_2] at HU
    have hb0 : Below w.heap.size w (w.alloc (.cells #[.int .i64 2, .int .i64 p, .bool q, .int .i64 n] 28)) := (Below.refl _ _).alloc (Nat.le_refl _) _
    have t0 : Var (w.alloc (.cells #[.int .i64 2, .int .i64 p, .bool q, .int .i64 n] 28)) w.heap.size [.int .i64 2, .int .i64 p, .bool q, .int .i64 n] := Var.new w [.int .i64 2, .int .i64 p, .bool q, .int .i64 n] 28
    have hz : w.heap.size < (w.alloc (.cells #[.int .i64 2, .int .i64 p, .bool q, .int .i64 n] 28)).heap.size := by simp
    go_enter Tryd.func21, Tryd.ntmps21
    go_wp2_with fail
    generalize w.alloc (.cells #[.int .i64 2, .int .i64 p, .bool q, .int .i64 n] 28) = W0 at t0 hb0 hz ⊢
    refine (HN.out _ (hF.below hb0).tab).mono ?_
    rintro e u1 ⟨rfl, hb1⟩
    have hb1' := btr hb0 hb1
    have T1 := t0.below hb1 hz
    have v0 := T1.cell 0 (v := .int .i64 2) rfl
    have v1 := T1.cell 1 (v := .int .i64 p) rfl
    have v2 := T1.cell 2 (v := .bool q) rfl
    have v3 := T1.cell 3 (v := .int .i64 n) rfl
    clear hb0 hb1 t0
    go_wp2_with fail
    refine (HU.out _).mono ?_
    rintro e w1 ⟨rfl, hb2⟩
    have hz1' : w.heap.size < u1.heap.size := T1.2
    have hb := btr hb1' hb2
    have T := T1.below hb2 hz1'
    have hz1 : w.heap.size < w1.heap.size := T.2
    clear hb1' hb2 T1 hz HU v0 v1 v2 v3 hz1'
    have as1 := as_call_fault (.agg #[.int .i64 n])
    have as2 := as_call_call (.agg #[.int .i64 n])
    have as3 := as_call_out (.agg #[.int .i64 n])
    have t2 : Var (w1.alloc (.cells #[.int .i64 n] 52)) w1.heap.size [.int .i64 n] := Var.new w1 [.int .i64 n] 52
    have hA : Below w1.heap.size w1 (w1.alloc (.cells #[.int .i64 n] 52)) := (Below.refl _ _).alloc (Nat.le_refl _) _
    have hB2 := btr hb hA
    clear T hb hz1 hA
    have c0 := t2.cell 0 (v := .int .i64 n) rfl
    have HB2 := Lib.hid hB2
    clear t2 hB2
    go_wp2_with fail
    refine (HD.out _ (hF.below HB2.out).pow).mono ?_
    rintro e w3 ⟨rfl, hb3⟩
    have HB3 := Lib.hid (btr HB2.out hb3)
    clear hb3
    go_wp2_with fail
    go_ret
    exact ⟨by rw [HV.out]; rfl, HB3.out⟩
  · have hn := fun (V : World) (h : ExTab V) => impl_exitName 3 V h
    have hm := exitName_size 3
    have hd := fun (V : World) (h : Laid.Pow V) => Laid.decimal_any n (rangeE ws.2.2.2).1 (rangeE ws.2.2.2).2 V h
    change ∀ (V : World) (h : Laid.Pow V), Calls Tryd.prog 34 #[.int .i64 n] V (fun e w' => e = .returned (.string (itoaE n)) ∧ Below V.heap.size V w') at hd
    have hy := itoaE_size ws.2.2.2
    dsimp only at hy
    have hv : exitT (3, p, q, n) = exitName 3 ++ ⟨#[32]⟩ ++ itoaE n := rfl
    generalize exitName 3 = m at hn hm hv
    generalize itoaE n = y at hd hy hv
    have f1 : ¬ 9223372036854775807 < m.size + 1 := by omega
    have f2 : ¬ 9223372036854775807 < m.size + 1 + y.size := by omega
    have f3 : ¬ 9223372036854775807 < m.size + 1 + y.size + 1 := by omega
    have HD := Lib.hid hd
    clear hd
    have HN := Lib.hid hn
    have HV := Lib.hid hv
    clear hn hv ws
    have HU := Lib.hid (fun V : World => impl_usedBy 3 p q n V)
    rw [usedV_3] at HU
    have hb0 : Below w.heap.size w (w.alloc (.cells #[.int .i64 3, .int .i64 p, .bool q, .int .i64 n] 28)) := (Below.refl _ _).alloc (Nat.le_refl _) _
    have t0 : Var (w.alloc (.cells #[.int .i64 3, .int .i64 p, .bool q, .int .i64 n] 28)) w.heap.size [.int .i64 3, .int .i64 p, .bool q, .int .i64 n] := Var.new w [.int .i64 3, .int .i64 p, .bool q, .int .i64 n] 28
    have hz : w.heap.size < (w.alloc (.cells #[.int .i64 3, .int .i64 p, .bool q, .int .i64 n] 28)).heap.size := by simp
    go_enter Tryd.func21, Tryd.ntmps21
    go_wp2_with fail
    generalize w.alloc (.cells #[.int .i64 3, .int .i64 p, .bool q, .int .i64 n] 28) = W0 at t0 hb0 hz ⊢
    refine (HN.out _ (hF.below hb0).tab).mono ?_
    rintro e u1 ⟨rfl, hb1⟩
    have hb1' := btr hb0 hb1
    have T1 := t0.below hb1 hz
    have v0 := T1.cell 0 (v := .int .i64 3) rfl
    have v1 := T1.cell 1 (v := .int .i64 p) rfl
    have v2 := T1.cell 2 (v := .bool q) rfl
    have v3 := T1.cell 3 (v := .int .i64 n) rfl
    clear hb0 hb1 t0
    go_wp2_with fail
    refine (HU.out _).mono ?_
    rintro e w1 ⟨rfl, hb2⟩
    have hz1' : w.heap.size < u1.heap.size := T1.2
    have hb := btr hb1' hb2
    have T := T1.below hb2 hz1'
    have hz1 : w.heap.size < w1.heap.size := T.2
    clear hb1' hb2 T1 hz HU v0 v1 v2 v3 hz1'
    have as1 := as_out_fault (.agg #[.int .i64 n])
    have as2 := as_out_call (.agg #[.int .i64 n])
    have as3 := as_out_out (.agg #[.int .i64 n])
    have t2 : Var (w1.alloc (.cells #[.int .i64 n] 53)) w1.heap.size [.int .i64 n] := Var.new w1 [.int .i64 n] 53
    have hA : Below w1.heap.size w1 (w1.alloc (.cells #[.int .i64 n] 53)) := (Below.refl _ _).alloc (Nat.le_refl _) _
    have hB2 := btr hb hA
    clear T hb hz1 hA
    have c0 := t2.cell 0 (v := .int .i64 n) rfl
    have HB2 := Lib.hid hB2
    clear t2 hB2
    go_wp2_with fail
    refine (HD.out _ (hF.below HB2.out).pow).mono ?_
    rintro e w3 ⟨rfl, hb3⟩
    have HB3 := Lib.hid (btr HB2.out hb3)
    clear hb3
    go_wp2_with fail
    go_ret
    exact ⟨by rw [HV.out]; rfl, HB3.out⟩
  · have hv : exitT (k, p, q, n) = exitName k := by
      have h' := h
      simp only [beq_eq_false_iff_ne, ne_eq] at h'
      simp [exitT, h']
    have hn := fun (V : World) (h : ExTab V) => impl_exitName k V h
    have hm := exitName_size k
    generalize exitName k = m at hn hm hv
    have HN := Lib.hid hn
    have HV := Lib.hid hv
    clear hn hv ws
    have HU := Lib.hid (fun V : World => impl_usedBy k p q n V)
    rw [usedV_else p q n h] at HU
    have hb0 : Below w.heap.size w (w.alloc (.cells #[.int .i64 k, .int .i64 p, .bool q, .int .i64 n] 28)) := (Below.refl _ _).alloc (Nat.le_refl _) _
    have t0 : Var (w.alloc (.cells #[.int .i64 k, .int .i64 p, .bool q, .int .i64 n] 28)) w.heap.size [.int .i64 k, .int .i64 p, .bool q, .int .i64 n] := Var.new w [.int .i64 k, .int .i64 p, .bool q, .int .i64 n] 28
    have hz : w.heap.size < (w.alloc (.cells #[.int .i64 k, .int .i64 p, .bool q, .int .i64 n] 28)).heap.size := by simp
    go_enter Tryd.func21, Tryd.ntmps21
    go_wp2_with fail
    generalize w.alloc (.cells #[.int .i64 k, .int .i64 p, .bool q, .int .i64 n] 28) = W0 at t0 hb0 hz ⊢
    refine (HN.out _ (hF.below hb0).tab).mono ?_
    rintro e u1 ⟨rfl, hb1⟩
    have hb1' := btr hb0 hb1
    have T1 := t0.below hb1 hz
    have v0 := T1.cell 0 (v := .int .i64 k) rfl
    have v1 := T1.cell 1 (v := .int .i64 p) rfl
    have v2 := T1.cell 2 (v := .bool q) rfl
    have v3 := T1.cell 3 (v := .int .i64 n) rfl
    clear hb0 hb1 t0
    go_wp2_with fail
    refine (HU.out _).mono ?_
    rintro e w1 ⟨rfl, hb2⟩
    have hz1' : w.heap.size < u1.heap.size := T1.2
    have hb := btr hb1' hb2
    have T := T1.below hb2 hz1'
    have hz1 : w.heap.size < w1.heap.size := T.2
    clear hb1' hb2 T1 hz HU v0 v1 v2 v3 hz1'
    have as1 := as_nil_fault
    have as2 := as_nil_call
    have as3 := as_nil_out
    have HB := Lib.hid hb
    clear T hb hz1
    go_wp2_with fail
    go_ret
    exact ⟨by rw [HV.out]; rfl, HB.out⟩
end Go.Proofs.YtikamndjelamgaaDoor.Exits
