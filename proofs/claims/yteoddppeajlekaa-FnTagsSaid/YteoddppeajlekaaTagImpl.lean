/-
  Address space tags: the project's functions of chapter 9. No condition beyond a buffer's length and an int's range.
-/
import Derived.Test.YteoddppeajlekaaTag
import Derived.Test.YteoddppeajlekaaEntRest
import Derived.Test.YteoddppeajlekaaBroughtImpl
import Derived.Test.YteoddppeajlekaaVar
import Derived.Test.YteoddppeajlekaaShelf
import Derived.Laws.StructEq
import Derived.BigQuiet
import Derived.Lib.SmallJoins
namespace Go.Proofs.Yteoddppeajlekaa.Tags
set_option maxRecDepth 100000
open Go.ChangeShapes Go.WideShapes Go.ChangeAt Go.RowKit
open Go.Proofs.Yteoddppeajlekaa.Base Go.Proofs.Yteoddppeajlekaa.Mem Go.Proofs.Yteoddppeajlekaa.Data Go.Proofs.Yteoddppeajlekaa.Ints Go.Proofs.Yteoddppeajlekaa.Slots Go.Proofs.Yteoddppeajlekaa.Ents
set_option linter.unusedVariables false
set_option linter.unusedSimpArgs false

theorem eq_pair (x y u v : Int) (W : World) : (binOp .eql 51 (.agg #[.int .i64 x, .int .i64 y]) (.agg #[.int .i64 u, .int .i64 v])).run Try.prog W = .ok (.bool (x == u && y == v)) W := by
  have u3 := Try.underlying3
  have a3 := Try.isAgg3
  have z3 := Try.sizeOf3
  have hS : Try.prog.underlying 51 = some (.struct (Try.prog.fieldsOf 51)) := by kernel_rfl
  have hp : Try.prog.stoodInHeld 51 = false := by kernel_rfl
  rw [run_eql_struct, show (10000 : Nat) = 9999 + 1 from rfl, run_equalIn_agg W 9999 51 _ _ hS hp]
  simp only [Program.fieldsOf, Try.underlying51]
  go_simp
  by_cases hx : x = u <;> by_cases hy : y = v <;> simp [hx, hy]

theorem brought_in (x l m : Int) (h : l ≤ m) : (x == BroughtW.brought x l m) = inB x l m := by
  unfold BroughtW.brought
  cases hb : inB x l m
  · have hn : ¬ (l ≤ x ∧ x ≤ m) := fun hh => by rw [inB_iff.2 hh] at hb; cases hb
    rw [beq_eq_false_iff_ne]
    split
    · omega
    · split <;> omega
  · obtain ⟨h1, h2⟩ := inB_iff.1 hb
    rw [if_neg (by omega), if_neg (by omega), beq_self_eq_true]

set_option maxHeartbeats 2000000 in
theorem impl_inRange (m g : Int) (w : World) :
    Calls Try.prog 37 #[.agg #[.int .i64 m, .int .i64 g]] w (YesP w (inB m 0 2 && inB g 0 1)) := by
  have hq : ∀ W, (binOp .eql 51 (.agg #[.int .i64 m, .int .i64 g]) (.agg #[.int .i64 (BroughtW.brought m 0 2), .int .i64 (BroughtW.brought g 0 1)])).run Try.prog W = .ok (.bool (inB m 0 2 && inB g 0 1)) W := fun W => by
    rw [eq_pair, brought_in m 0 2 (by omega), brought_in g 0 1 (by omega)]
  generalize (inB m 0 2 && inB g 0 1) = o at hq ⊢
  have hb0 : Below w.heap.size w (w.alloc (.cells #[.int .i64 m, .int .i64 g] 51)) := (Below.refl _ _).alloc (Nat.le_refl _) _
  have k0 : (w.alloc (.cells #[.int .i64 m, .int .i64 g] 51)).cell? ⟨w.heap.size, 0, none⟩ = some (.int .i64 m) := cell_of_row _ _ 0 _ _ _ (heap_alloc_new w _)
  have k1 : (w.alloc (.cells #[.int .i64 m, .int .i64 g] 51)).cell? ⟨w.heap.size, 1, none⟩ = some (.int .i64 g) := cell_of_row _ _ 1 _ _ _ (heap_alloc_new w _)
  have HB := Lib.hid hb0
  have HC := Lib.hid (show ∀ (n l k : Int) (V : World), Calls Try.prog 49 #[.int .i64 n, .int .i64 l, .int .i64 k] V fun e w' => e = .returned (.int .i64 (BroughtW.brought n l k)) ∧ w' = V from fun n l k V => (BroughtW.impl_any n l k V).mono fun e w' h => ⟨h.1, h.2.symm⟩)
  clear hb0
  go_enter Try.func37, Try.ntmps37
  go_wp2_with fail
  generalize w.alloc (.cells #[.int .i64 m, .int .i64 g] 51) = W at k0 k1 HB ⊢
  go_quiet ((go_at_call 49; exact Calls.quiet_of_same (HC.out _ _ _ _)))
  go_wp2_with fail
  go_ret
  exact ⟨rfl, btr HB.out (below_drewN (Below.refl _ _) _)⟩

theorem pair_math (t z : Int) (hz : (t = -9223372036854775808 ∧ z = 9223372036854775807) ∨ z = t - 1) :
    ((inB (z.tdiv 2) 0 2 && inB (z.tmod 2) 0 1) = true → tagMon t = z.tdiv 2 ∧ tagGuest t = z.tmod 2) ∧ ((inB (z.tdiv 2) 0 2 && inB (z.tmod 2) 0 1) = false → tagMon t = -1 ∧ tagGuest t = -1) := by
  unfold tagMon tagGuest
  by_cases h0 : 0 ≤ z
  · rw [Int.tdiv_eq_ediv_of_nonneg h0, Int.tmod_eq_emod_of_nonneg h0]
    constructor
    · intro h
      rw [Bool.and_eq_true] at h
      obtain ⟨h1, h2⟩ := inB_iff.1 h.1
      obtain ⟨h3, h4⟩ := inB_iff.1 h.2
      rw [if_pos (inB_iff.2 ⟨by omega, by omega⟩), if_pos (inB_iff.2 ⟨by omega, by omega⟩)]
      constructor <;> omega
    · intro h
      have hn : ¬ inB t 1 6 = true := fun hh => by
        obtain ⟨h1, h2⟩ := inB_iff.1 hh
        rw [inB_iff.2 ⟨by omega, by omega⟩, inB_iff.2 ⟨by omega, by omega⟩] at h
        cases h
      rw [if_neg hn, if_neg hn]; exact ⟨rfl, rfl⟩
  · obtain ⟨y, hy⟩ : ∃ y : Int, z = -y := ⟨-z, by omega⟩
    subst hy
    rw [Int.neg_tdiv, Int.neg_tmod, Int.tdiv_eq_ediv_of_nonneg (by omega), Int.tmod_eq_emod_of_nonneg (by omega)]
    have hn : ¬ inB t 1 6 = true := fun hh => by
      obtain ⟨h1, h2⟩ := inB_iff.1 hh
      omega
    rw [if_neg hn, if_neg hn]
    refine ⟨fun h => ?_, fun _ => ⟨rfl, rfl⟩⟩
    rw [Bool.and_eq_true] at h
    obtain ⟨h1, h2⟩ := inB_iff.1 h.1
    obtain ⟨h3, h4⟩ := inB_iff.1 h.2
    omega

theorem minus_one (t : Int) (wt : (Lit.int .i64 t).wf = true) : (t = -9223372036854775808 ∧ IntKind.i64.wrap (t - 1) = 9223372036854775807) ∨ (t ≠ -9223372036854775808 ∧ IntKind.i64.wrap (t - 1) = t - 1) := by
  simp [Lit.wf] at wt
  have e1 : IntKind.i64.min = -9223372036854775808 := by decide
  have e2 : IntKind.i64.max = 9223372036854775807 := by decide
  by_cases h : t = -9223372036854775808
  · left; subst h; exact ⟨rfl, by decide⟩
  · right; exact ⟨h, IntWalk.i64_in _ (by omega)⟩

theorem halves (z : Int) (wz : -9223372036854775808 ≤ z ∧ z ≤ 9223372036854775807) : IntKind.i64.wrap (z.tdiv 2) = z.tdiv 2 ∧ IntKind.i64.wrap (z.tmod 2) = z.tmod 2 := by
  by_cases h0 : 0 ≤ z
  · rw [Int.tdiv_eq_ediv_of_nonneg h0, Int.tmod_eq_emod_of_nonneg h0]
    exact ⟨IntWalk.i64_in _ (by omega), IntWalk.i64_in _ (by omega)⟩
  · obtain ⟨y, hy⟩ : ∃ y : Int, z = -y := ⟨-z, by omega⟩
    subst hy
    rw [Int.neg_tdiv, Int.neg_tmod, Int.tdiv_eq_ediv_of_nonneg (by omega), Int.tmod_eq_emod_of_nonneg (by omega)]
    exact ⟨IntWalk.i64_in _ (by omega), IntWalk.i64_in _ (by omega)⟩

def PairP (w : World) (x y : Int) (e : Ending) (w' : World) : Prop := e = .returned (.agg #[.int .i64 x, .int .i64 y]) ∧ Below w.heap.size w w'
set_option maxHeartbeats 2000000 in
theorem impl_pairOf (t : Int) (w : World) (wt : (Lit.int .i64 t).wf = true) :
    Calls Try.prog 42 #[.int .i64 t] w (PairP w (tagMon t) (tagGuest t)) := by
  obtain ⟨z, hz⟩ : ∃ z, IntKind.i64.wrap (t - 1) = z := ⟨_, rfl⟩
  have hm := minus_one t wt
  rw [hz] at hm
  have hzw : -9223372036854775808 ≤ z ∧ z ≤ 9223372036854775807 := by
    simp [Lit.wf] at wt
    have e1 : IntKind.i64.min = -9223372036854775808 := by decide
    have e2 : IntKind.i64.max = 9223372036854775807 := by decide
    omega
  clear wt
  obtain ⟨q1, q2⟩ := halves z hzw
  obtain ⟨p1, p2⟩ := pair_math t z (hm.imp id And.right)
  clear hm hzw
  generalize hx : z.tdiv 2 = x at q1 p1 p2
  generalize hy : z.tmod 2 = y at q2 p1 p2
  have HK := Lib.hid (fun V : World => impl_inRange x y V)
  generalize (inB x 0 2 && inB y 0 1) = o at p1 p2 HK
  have P := Lib.hid (And.intro p1 p2)
  clear p1 p2
  obtain ⟨W, hW⟩ : ∃ W, W = ((w.alloc (.cells #[.int .i64 0, .int .i64 0] 51)).alloc (.cells #[.int .i64 x, .int .i64 y] 51)) := ⟨_, rfl⟩
  have hb0 : Below w.heap.size w W := by rw [hW]; exact ((Below.refl _ _).alloc (Nat.le_refl _) _).alloc (by simp) _
  have hz0 : w.heap.size + 2 ≤ W.heap.size := by rw [hW]; simp
  have v0 : Var W w.heap.size [.int .i64 0, .int .i64 0] := by
    rw [hW]
    have := (Var.new w [.int .i64 0, .int .i64 0] 51).below ((Below.refl _ _).alloc (Nat.le_refl _) (.cells #[.int .i64 x, .int .i64 y] 51)) (by simp)
    exact this
  have v1 : Var W (w.heap.size + 1) [.int .i64 x, .int .i64 y] := by
    rw [hW]
    have := Var.new (w.alloc (.cells #[.int .i64 0, .int .i64 0] 51)) [.int .i64 x, .int .i64 y] 51
    simpa using this
  have HV := Lib.hid (And.intro hb0 (And.intro hz0 (And.intro v0 v1)))
  clear hb0 hz0 v0 v1
  go_enter Try.func42, Try.ntmps42
  go_wp2_with fail
  rw [← hW]
  refine (HK.out W).mono ?_
  rintro e w1 ⟨rfl, hb1⟩
  obtain ⟨hb0, hz0, v0, v1⟩ := HV.out
  have u0 := v0.below hb1 (by omega)
  have u1 := v1.below hb1 (by omega)
  have r0 := u0.cell 0 (v := .int .i64 0) rfl
  have rf0 := u0.loose 0 (v := .int .i64 0) rfl
  have r1 := u0.cell 1 (v := .int .i64 0) rfl
  have rf1 := u0.loose 1 (v := .int .i64 0) rfl
  have s0 := u1.cell 0 (v := .int .i64 x) rfl
  have s1 := u1.cell 1 (v := .int .i64 y) rfl
  have HB := Lib.hid (btr hb0 hb1)
  clear HV hb0 hb1 v0 v1 u0 u1 hz0 hW HK
  cases o
  · obtain ⟨m1, m2⟩ := P.out.2 rfl
    have HM := Lib.hid (And.intro m1 m2)
    clear P m1 m2
    go_wp2_with fail
    exact bodyPost_ret (v := .agg #[.int .i64 (-1), .int .i64 (-1)]) (by simp [results, Try.results42, go_sem, r0, r1]) rfl ⟨by rw [HM.out.1, HM.out.2], (HB.out.setCell (p := ⟨w.heap.size, 0, none⟩) (Nat.le_refl _) _).setCell (p := ⟨w.heap.size, 1, none⟩) (Nat.le_refl _) _⟩
  · obtain ⟨m1, m2⟩ := P.out.1 rfl
    have HM := Lib.hid (And.intro m1 m2)
    clear P m1 m2
    go_wp2_with fail
    exact bodyPost_ret (v := .agg #[.int .i64 x, .int .i64 y]) (by simp [results, Try.results42, go_sem, r0, r1]) rfl ⟨by rw [HM.out.1, HM.out.2], (HB.out.setCell (p := ⟨w.heap.size, 0, none⟩) (Nat.le_refl _) _).setCell (p := ⟨w.heap.size, 1, none⟩) (Nat.le_refl _) _⟩

theorem impl_tagMon (t : Int) (w : World) (wt : (Lit.int .i64 t).wf = true) :
    Calls Try.prog 17 #[.int .i64 t] w fun e w' => e = .returned (.int .i64 (tagMon t)) ∧ Below w.heap.size w w' := by
  have HK := Lib.hid (fun V : World => impl_pairOf t V wt)
  clear wt
  generalize tagMon t = x at HK ⊢
  generalize tagGuest t = y at HK
  have hf : ∀ W : World, (Instr.field 51 (.agg #[.int .i64 x, .int .i64 y]) 0).run Try.prog W = .ok (.int .i64 x) W := fun _ => by kernel_rfl
  go_enter Try.func17, Try.ntmps17
  go_wp2_with fail
  refine (HK.out _).mono ?_
  rintro e w1 ⟨rfl, hb1⟩
  have HB := Lib.hid hb1
  clear hb1 HK
  go_wp2_with fail
  go_ret
  exact ⟨rfl, HB.out⟩

theorem impl_tagGuest (t : Int) (w : World) (wt : (Lit.int .i64 t).wf = true) :
    Calls Try.prog 19 #[.int .i64 t] w fun e w' => e = .returned (.int .i64 (tagGuest t)) ∧ Below w.heap.size w w' := by
  have HK := Lib.hid (fun V : World => impl_pairOf t V wt)
  clear wt
  generalize tagMon t = x at HK
  generalize tagGuest t = y at HK ⊢
  have hf : ∀ W : World, (Instr.field 51 (.agg #[.int .i64 x, .int .i64 y]) 1).run Try.prog W = .ok (.int .i64 y) W := fun _ => by kernel_rfl
  go_enter Try.func19, Try.ntmps19
  go_wp2_with fail
  refine (HK.out _).mono ?_
  rintro e w1 ⟨rfl, hb1⟩
  have HB := Lib.hid hb1
  clear hb1 HK
  go_wp2_with fail
  go_ret
  exact ⟨rfl, HB.out⟩

set_option maxHeartbeats 2000000 in
theorem impl_tagOf (m g : Int) (w : World) (wm : (Lit.int .i64 m).wf = true) (wg : (Lit.int .i64 g).wf = true) :
    Calls Try.prog 12 #[.int .i64 m, .int .i64 g] w fun e w' => e = .returned (.int .i64 (tagOf m g)) ∧ Below w.heap.size w w' := by
  have HK := Lib.hid (fun V : World => impl_inRange m g V)
  have hv : tagOf m g = if inB m 0 2 && inB g 0 1 then 1 + g + m * 2 else 0 := rfl
  have hr : (inB m 0 2 && inB g 0 1) = true → IntKind.i64.wrap (1 + g) = 1 + g ∧ IntKind.i64.wrap (m * 2) = m * 2 ∧ IntKind.i64.wrap (1 + g + m * 2) = 1 + g + m * 2 := fun h => by
    rw [Bool.and_eq_true] at h
    obtain ⟨h1, h2⟩ := inB_iff.1 h.1
    obtain ⟨h3, h4⟩ := inB_iff.1 h.2
    exact ⟨IntWalk.i64_in _ (by omega), IntWalk.i64_in _ (by omega), IntWalk.i64_in _ (by omega)⟩
  generalize (inB m 0 2 && inB g 0 1) = o at HK hv hr
  have HR := Lib.hid (And.intro hv hr)
  have v0 := Var.new w [.int .i64 m, .int .i64 g] 51
  change Var (w.alloc (.cells #[.int .i64 m, .int .i64 g] 51)) w.heap.size [.int .i64 m, .int .i64 g] at v0
  have hb0 : Below w.heap.size w (w.alloc (.cells #[.int .i64 m, .int .i64 g] 51)) := (Below.refl _ _).alloc (Nat.le_refl _) _
  have hz0 : w.heap.size + 1 ≤ (w.alloc (.cells #[.int .i64 m, .int .i64 g] 51)).heap.size := by simp
  have HV := Lib.hid (And.intro v0 (And.intro hb0 hz0))
  clear wm wg hv hr v0 hb0 hz0
  go_enter Try.func12, Try.ntmps12
  go_wp2_with fail
  generalize w.alloc (.cells #[.int .i64 m, .int .i64 g] 51) = W at HV ⊢
  refine (HK.out W).mono ?_
  rintro e w1 ⟨rfl, hb1⟩
  obtain ⟨v0, hb0, hz0⟩ := HV.out
  have u0 := v0.below hb1 (by omega)
  have r0 := u0.cell 0 (v := .int .i64 m) rfl
  have r1 := u0.cell 1 (v := .int .i64 g) rfl
  have HB := Lib.hid (btr hb0 hb1)
  obtain ⟨hv, hr⟩ := HR.out
  clear HV hb0 hb1 v0 u0 hz0 HK HR
  cases o
  · rw [if_neg (by simp)] at hv
    have HX := Lib.hid hv
    clear hv hr
    go_wp2_with fail
    go_ret
    exact ⟨by rw [HX.out]; rfl, HB.out⟩
  · rw [if_pos rfl] at hv
    obtain ⟨e1, e2, e3⟩ := hr rfl
    have HX := Lib.hid hv
    clear hv hr
    go_wp2_with fail
    go_ret
    exact ⟨by rw [HX.out]; rfl, HB.out⟩

theorem own_free {w : World} {base size n : Nat} {e : TypeId} {v : Value} {xs : List Value} (h : w.ownsRow base e size v n xs) : v.ownBlock = none ∨ v.ownBlock ≠ none := by
  rcases Go.Joins.ownsRow_forms h with ⟨rfl, _⟩ | ⟨g, cap, rfl⟩
  · exact .inl rfl
  · exact .inr (by simp [Value.ownBlock])
set_option maxHeartbeats 4000000 in
theorem impl_tagsM (m : Int) (w : World) (wm : (Lit.int .i64 m).wf = true) :
    Calls Try.prog 22 #[.int .i64 m] w (UsesPost w (tagsM m)) := by
  obtain ⟨i0, hi0, hz0, hz1, hz2⟩ := info_parts Try.infoNum
  have hv : tagsM m = if inB m 0 2 then tagsK m 2 else [] := rfl
  have wk : ∀ k : Nat, k < 2 → (Lit.int .i64 (k : Int)).wf = true := fun k hk => by
    have : k = 0 ∨ k = 1 := by omega
    rcases this with rfl | rfl <;> decide
  have hc := Lib.hid (fun (k : Nat) (hk : k < 2) (V : World) => impl_tagOf m k V wm (wk k hk))
  clear wk wm
  cases hx : inB m 0 2
  · rw [hx, if_neg (by simp)] at hv
    have ho : ∀ k : Nat, tagOf m k = 0 := fun k => by unfold tagOf; rw [hx]; rfl
    have HV := Lib.hid (And.intro hv ho)
    clear hv ho hx
    go_enter Try.func22, Try.ntmps22
    go_wp2_with fail
    go_loopw [3, 4, 5, 6] (fun v _ _ i wr => ∃ (k : Nat), k ≤ 2 ∧ i = .int .i64 k ∧ v = .slice none 0 0 ∧ Below w.heap.size w wr) (fun _ _ _ i _ => 2 - (intOf i).toNat)
    case atStart => exact ⟨0, Nat.zero_le _, rfl, rfl, Below.refl _ _⟩
    case round =>
      obtain ⟨k, hk, rfl, rfl, hb⟩ := hrel
      by_cases hlt : k < 2
      · have hj1 : (k : Int) < 2 := by omega
        have hcall := hc.out k hlt wr
        rw [HV.out.2 k] at hcall
        have HCALL := Lib.hid hcall
        have HB := Lib.hid hb
        clear hcall hb
        go_wp2_with fail
        refine HCALL.out.mono ?_
        rintro e w1 ⟨rfl, hb1⟩
        have HB1 := Lib.hid (btr HB.out hb1)
        clear hb1 HCALL
        go_wp2_with fail
        go_roundw
        case rel => exact ⟨k + 1, by omega, by go_num, rfl, HB1.out⟩
        case measure => simp [intOf]; omega
      · have hj1 : ¬ (k : Int) < 2 := by omega
        have HB := Lib.hid hb
        clear hb
        go_wp2_with fail
        go_ret
        rw [HV.out.1]
        exact ⟨none, 0, 0, rfl, rfl, ⟨Lies.nil, fun _ _ _ hn => absurd hn (by simp [ncells])⟩, HB.out⟩
  · rw [hx, if_pos rfl] at hv
    have hne : ∀ k : Nat, 1 + (k : Int) + m * 2 ≠ 0 := fun k => by
      have := inB_iff.1 hx
      omega
    have HV := Lib.hid (And.intro hv (And.intro hne (fun (k : Nat) (hk : k < 2) => tagOf_in hx hk)))
    clear hv hne hx
    go_enter Try.func22, Try.ntmps22
    go_wp2_with fail
    go_loopw [3, 4, 5, 6] (fun v _ _ i wr => ∃ (k : Nat), k ≤ 2 ∧ i = .int .i64 k ∧ wr.ownsRow w.heap.size 3 1 v k (ncells (tagsK m k)) ∧ Below w.heap.size w wr) (fun _ _ _ i _ => 2 - (intOf i).toNat)
    case atStart => exact ⟨0, Nat.zero_le _, rfl, World.ownsRow_nil _ _ _ _, Below.refl _ _⟩
    case round =>
      obtain ⟨k, hk, rfl, hown, hb⟩ := hrel
      by_cases hlt : k < 2
      · have hj1 : (k : Int) < 2 := by omega
        have hj0 : (0 : Int) ≤ (k : Int) := Int.natCast_nonneg _
        have hcall := hc.out k hlt wr
        rw [HV.out.2.2 k hlt] at hcall
        obtain ⟨tt, htt⟩ : ∃ z, z = 1 + (k : Int) + m * 2 := ⟨_, rfl⟩
        have hsn := tagsK_snoc m k
        have hne := HV.out.2.1 k
        rw [← htt] at hcall hsn hne
        have hne' : (tt != 0) = true := by simpa using hne
        have HSN := Lib.hid hsn
        have HCALL := Lib.hid hcall
        have HB := Lib.hid (And.intro hb hown)
        clear hcall hb hown hsn htt hne
        go_wp2_with fail
        refine HCALL.out.mono ?_
        rintro e w1 ⟨rfl, hb1⟩
        have hbb := btr HB.out.1 hb1
        have hown := HB.out.2.kept (Slots.grown_of_below hb1 none) (own_free HB.out.2)
        have hbs := hbb.size
        have HO := Lib.hid hown
        have HB1 := Lib.hid hbb
        clear hb1 HCALL HB hbb hown
        go_wp2_with (at_builtin; refine wpList_append_lies _ rfl _ _ 33 rfl w.heap.size 3 i0 _ 1 8 Try.underlying33 hi0 hz0 hz1 hz2 rfl (by omega) u3 k _ rfl (HO.out.alloc _) ⟨w1.heap.size, 0, none⟩ 1 1 [.int .i64 tt] rfl rfl (World.news_of_block (heap_alloc_new w1 _)) (by simp [Value.oneCell']) (by omega) (by simp only [maxLen]; omega) (by omega) (by simp; omega) (w1.heap.size + 1) (by simp) ?_; intro g' cap' w2 hown2 hgrow hat hg2)
        have hown3 : w2.ownsRow w.heap.size 3 1 (.slice (some ⟨g', 0, none⟩) (k + 1) cap') (k + 1) (ncells (tagsK m (k + 1))) := by rw [HSN.out]; simpa [ncells] using hown2
        have hbw2 : Below w.heap.size w w2 := (HB1.out.alloc (by first | omega | (simp; omega)) _).grown hgrow (by first | omega | (simp; omega)) (fun j hj => (HO.out.lt j hj).1)
        have HF := Lib.hid (And.intro hown3 hbw2)
        clear hown2 hgrow hat hg2 hown3 hbw2
        go_roundw
        case rel => exact ⟨k + 1, by omega, by go_num, HF.out.1, HF.out.2⟩
        case measure => simp [intOf]; omega
      · have hj1 : ¬ (k : Int) < 2 := by omega
        have hk2 : k = 2 := by omega
        have HF := Lib.hid (And.intro hown hb)
        have HK2 := Lib.hid hk2
        clear hown hb hk2
        go_wp2_with fail
        go_ret
        rw [HV.out.1]
        have hf := HF.out
        rw [HK2.out] at hf
        rcases Go.Joins.ownsRow_forms hf.1 with ⟨_, h0⟩ | ⟨g, cap, hg⟩
        · omega
        · have hf1 := hf.1
          rw [hg] at hf1
          exact ⟨some ⟨g, 0, none⟩, 2, cap, by first | exact congrArg Ending.returned hg | (rw [hg]; rfl), tagsK_len _ _, Owned.of_row hf1, hf.2⟩

theorem contains_lies (A : Option Addr) (n c : Nat) (T : List Int) (x : Int) (w : World) (h : Lies w 0 w.heap.size A (ncells T)) (hT : T.length = n) (hT2 : T.length ≤ 2) :
    Calls Try.prog 45 #[.slice A n c, .int .i64 x] w fun e w' => e = .returned (.bool (decide (x ∈ T))) ∧ w' = w := by
  subst hT
  cases T with
  | nil => exact (Try.slices_Contains_int_empty A c x w).mono fun e w' hh => ⟨by rw [hh.1]; simp, hh.2⟩
  | cons y T =>
    obtain ⟨b, off, rfl, _⟩ := h 0 (.int .i64 y) (by simp [ncells])
    refine (Try.slices_Contains_int b off (y :: T).length c (y :: T) x w (Nat.le_refl _) (by omega) fun j hj => ?_).mono fun e w' hh => ⟨by rw [hh.1, List.take_of_length_le (Nat.le_refl _)]; simp, hh.2⟩
    obtain ⟨b', off', hA, _, _, hc⟩ := h j (.int .i64 ((y :: T).getD j 0)) (by
      unfold ncells
      rw [List.getElem?_map, List.getElem?_eq_getElem hj, List.getD_eq_getElem?_getD, List.getElem?_eq_getElem hj]
      rfl)
    cases hA
    exact hc

set_option maxHeartbeats 2000000 in
theorem flushM_yes (z0 n c : Nat) (A : Option Addr) (T : List Int) (x0 x1 x2 x3 : Int) (w : World) (k0 : w.cell? ⟨z0, 0, none⟩ = some (.slice A n c)) (h : Lies w 0 w.heap.size A (ncells T)) (hT : T.length = n) (hT2 : T.length ≤ 2) :
    Calls Try.prog 44 #[.agg #[.int .i64 x0, .int .i64 x1, .int .i64 x2, .int .i64 x3], .pointer (some ⟨z0, 0, none⟩)] w (YesP w (decide (x0 ∈ T))) := by
  have hb0 : Below w.heap.size w (w.alloc (.cells #[.int .i64 x0, .int .i64 x1, .int .i64 x2, .int .i64 x3] 37)) := (Below.refl _ _).alloc (Nat.le_refl _) _
  obtain ⟨q0, _⟩ := Four.new w (x0, x1, x2, x3) 37
  have j0 := (hb0.cell (p := ⟨z0, 0, none⟩) (World.block_lt_of_cell? w _ k0)).trans k0
  have HK := Lib.hid (contains_lies A n c T x0 (w.alloc (.cells #[.int .i64 x0, .int .i64 x1, .int .i64 x2, .int .i64 x3] 37)) ((h.below hb0 (Nat.le_refl _)).wide (Nat.le_refl _) hb0.size) hT hT2)
  clear k0 h hT hT2
  generalize decide (x0 ∈ T) = o at HK ⊢
  have HB := Lib.hid hb0
  clear hb0
  go_enter Try.func44, Try.ntmps44
  go_wp2_with fail
  refine HK.out.mono ?_
  rintro e w1 ⟨rfl, rfl⟩
  go_wp2_with fail
  go_ret
  exact ⟨rfl, HB.out⟩

def outM (l : List ET) (T : List Int) : List ET := l.filter fun e => !decide (e.1 ∈ T)
theorem outM_snoc (l : List ET) (s : ET) (T : List Int) : outM (l ++ [s]) T = outM l T ++ if decide (s.1 ∈ T) = true then [] else [s] := by
  unfold outM
  rw [List.filter_append]
  congr 1
  by_cases h : s.1 ∈ T <;> simp [h]

set_option maxHeartbeats 8000000 in
theorem flushM_rest (A A' : Option Addr) (n c n' c' z0 : Nat) (T : List Int) (l : List ET) (w : World) (hn : n ≤ 1048576) (hl : l.length = n) (h1 : Lies w 0 w.heap.size A (ecells l)) (k0 : w.cell? ⟨z0, 0, none⟩ = some (.slice A' n' c')) (h2 : Lies w 0 w.heap.size A' (ncells T)) (hT : T.length = n') (hT2 : T.length ≤ 2) :
    Calls Try.prog 43 #[.slice A n c, .func (.func 44) #[] #[.pointer (some ⟨z0, 0, none⟩)]] w (EntRow w (outM l T)) := by
  obtain ⟨i0, hi0, hz0, hz1, hz2⟩ := info_parts Try.infoEntry
  have HK := Lib.hid (show ∀ V, Below w.heap.size w V → ∀ x0 x1 x2 x3, Calls Try.prog 44 #[.agg #[.int .i64 x0, .int .i64 x1, .int .i64 x2, .int .i64 x3], .pointer (some ⟨z0, 0, none⟩)] V (YesP V (decide (x0 ∈ T))) from fun V hb x0 x1 x2 x3 => flushM_yes z0 n' c' A' T x0 x1 x2 x3 V ((hb.cell (p := ⟨z0, 0, none⟩) (World.block_lt_of_cell? w _ k0)).trans k0) ((h2.below hb (Nat.le_refl _)).wide (Nat.le_refl _) hb.size) hT hT2)
  have H1 := Lib.hid h1
  have HL := Lib.hid hl
  clear h1 hl k0 h2
  go_enter Try.func43, Try.ntmps43
  go_wp2
  go_loopw [5, 11] (fun v i wr => ∃ (k g cap m : Nat), k ≤ n ∧ i = .int .i64 k ∧ m ≤ k ∧ v = .slice (some ⟨g, 0, none⟩) m cap ∧ (outM (l.take k) T).length = m ∧ wr.ownsRow w.heap.size 37 4 (.slice (some ⟨g, 0, none⟩) m cap) m (ecells (outM (l.take k) T)) ∧ Below w.heap.size w wr) (fun _ i _ => n - (intOf i).toNat)
  case atStart => exact ⟨0, w.heap.size, 0, 0, Nat.zero_le _, rfl, Nat.le_refl _, rfl, rfl, World.ownsRow_made w #[] 0 (Nat.le_refl _) (Nat.zero_le _) rfl, (Below.refl _ _).alloc (Nat.le_refl _) _⟩
  case round =>
    obtain ⟨k, g, cap, m, hk, rfl, hmk, rfl, hlen, hown, hb⟩ := hrel
    have HN := Lib.hid hlen
    clear hlen
    by_cases hlt : k < n
    · have hkl : k < l.length := by have := HL.out; omega
      obtain ⟨b, off, rfl, _, hbw, c0, c1, c2, c3⟩ := e_at H1.out k hkl
      have d0 := (hb.cell (p := ⟨b, off + k * 4, none⟩) hbw).trans c0
      have d1 := (hb.cell (p := ⟨b, off + k * 4 + 1, none⟩) hbw).trans c1
      have d2 := (hb.cell (p := ⟨b, off + k * 4 + 2, none⟩) hbw).trans c2
      have d3 := (hb.cell (p := ⟨b, off + k * 4 + 3, none⟩) hbw).trans c3
      have hj0 : (0 : Int) ≤ (k : Int) := Int.natCast_nonneg _
      have hj1 : (k : Int) < (n : Int) := by omega
      have hs := outM_snoc (l.take k) l[k] T
      rw [← List.take_succ_eq_append_getElem hkl] at hs
      clear c0 c1 c2 c3
      obtain ⟨⟨x0, x1, x2, x3⟩, hxy⟩ : ∃ s, s = l[k] := ⟨_, rfl⟩
      rw [← hxy] at d0 d1 d2 d3 hs
      dsimp only at d0 d1 d2 d3 hs
      clear hxy
      have hs' : outM (l.take (k + 1)) T = outM (l.take k) T ++ if (decide (x0 ∈ T)) = true then [] else [(x0, x1, x2, x3)] := by first | exact hs | (rw [hs]; simp)
      clear hs
      obtain ⟨t1, hb1⟩ := four_made hb (x0, x1, x2, x3) 37
      have hsz := hb.size
      have hown1 := hown.alloc (.cells #[.int .i64 x0, .int .i64 x1, .int .i64 x2, .int .i64 x3] 37)
      have HO := Lib.hid hown1
      have HB1 := Lib.hid hb1
      have HT1 := Lib.hid t1
      have HS := Lib.hid hs'
      clear hb1 t1 hown1 hs'
      go_wp2_with fail
      have hb1 := HB1.out
      have t1 := HT1.out
      have hown1 := HO.out
      (try dsimp only at hb1 t1)
      have hzz : wr.heap.size < (wr.alloc (.cells #[.int .i64 x0, .int .i64 x1, .int .i64 x2, .int .i64 x3] 37)).heap.size := by simp
      clear HB1 HT1 HO
      generalize wr.alloc (.cells #[.int .i64 x0, .int .i64 x1, .int .i64 x2, .int .i64 x3] 37) = W1 at t1 hb1 hown1 hzz ⊢
      refine (HK.out W1 hb1 x0 x1 x2 x3).mono ?_
      rintro e w2 ⟨rfl, hb2⟩
      have hs1 := hb1.size
      have t2 := t1.below hb2 (by omega)
      have hb3 := hb1.trans (hb2.mono hs1)
      have hs3 := hb3.size
      have hown2 := row_kept hown1 hb2
      clear t1 hb1 hb2 hown1
      obtain ⟨j0, j1, j2, j3, _, _, _, _, _⟩ := t2
      (try dsimp only at j0 j1 j2 j3)
      have HB3 := Lib.hid hb3
      have HO := Lib.hid hown2
      clear hb3 hown2
      cases hE : decide (x0 ∈ T)
      · have hs := HS.out
        rw [hE, if_neg (by simp)] at hs
        have HS := Lib.hid hs
        clear hs
        go_wp2_with (at_builtin; refine wpList_append_lies _ rfl _ _ 28 rfl w.heap.size 37 i0 _ 4 32 Try.underlying28 hi0 hz0 hz1 hz2 rfl (by omega) (.slice (some ⟨g, 0, none⟩) m cap) m _ rfl (HO.out.alloc _) ⟨w2.heap.size, 0, none⟩ 1 1 [.int .i64 x0, .int .i64 x1, .int .i64 x2, .int .i64 x3] rfl rfl (World.news_of_block (heap_alloc_new w2 _)) (by simp [Value.oneCell']) (by omega) (by simp only [maxLen]; omega) (by omega) (by simp; omega) (w2.heap.size + 1) (by simp) ?_; intro g' cap' w4 hown4 hgrow hat hg2)
        have hown5 : w4.ownsRow w.heap.size 37 4 (.slice (some ⟨g', 0, none⟩) (m + 1) cap') (m + 1) (ecells (outM (l.take (k + 1)) T)) := by rw [HS.out, ecells_append]; simpa [ecells] using hown4
        have hbw5 : Below w.heap.size w w4 := (HB3.out.alloc (by first | omega | (simp; omega)) _).grown hgrow (by first | omega | (simp; omega)) (fun j hj => (HO.out.lt j hj).1)
        have hlen5 : (outM (l.take (k + 1)) T).length = m + 1 := by rw [HS.out]; simp [HN.out]
        have HF := Lib.hid (And.intro hown5 (And.intro hbw5 hlen5))
        clear hown4 hgrow hat hg2 hown5 hbw5 hlen5
        go_roundw
        case rel => exact ⟨k + 1, g', cap', m + 1, by omega, by go_num, by omega, rfl, HF.out.2.2, HF.out.1, HF.out.2.1⟩
        case measure => simp [intOf]; omega
      · have hs := HS.out
        rw [hE, if_pos rfl, List.append_nil] at hs
        have HS := Lib.hid hs
        clear hs
        go_wp2_with fail
        go_roundw
        case rel => exact ⟨k + 1, g, cap, m, by omega, by go_num, by omega, rfl, by rw [HS.out]; exact HN.out, by rw [HS.out]; exact HO.out, HB3.out⟩
        case measure => simp [intOf]; omega
    · have hkn : k = n := by omega
      subst hkn
      rw [List.take_of_length_le (by have := HL.out; omega)] at hown
      have hlen2 := HN.out
      rw [List.take_of_length_le (by have := HL.out; omega)] at hlen2
      have HN := Lib.hid hlen2
      clear hlen2
      go_wp2
      go_ret
      exact ⟨_, _, _, rfl, HN.out, hown, hb⟩

set_option maxHeartbeats 2000000 in
theorem impl_flushM (A : Option Addr) (n c : Nat) (m : Int) (l : List ET) (w : World) (hn : n ≤ 1048576) (hl : l.length = n) (h1 : Lies w 0 w.heap.size A (ecells l)) (wl : wfEL l) (wm : (Lit.int .i64 m).wf = true) :
    Calls Try.prog 24 #[.slice A n c, .int .i64 m] w (EntsP w (flushM l m)) := by
  have hm : flushM l m = outM l (tagsM m) := flushM_filter l m
  have HM := Lib.hid hm
  have HT := Lib.hid (impl_tagsM m w wm)
  have HA := Lib.hid (And.intro hl h1)
  have ht := tagsM_le m
  clear hm wm hl h1 wl
  generalize tagsM m = T at HM HT ht
  have HT2 := Lib.hid ht
  clear ht
  go_enter Try.func24, Try.ntmps24
  go_wp2_with fail
  refine HT.out.mono ?_
  rintro e w1 ⟨A', n', c', rfl, hT, hO, hb1⟩
  have hbA : Below w1.heap.size w1 (w1.alloc (.cells #[.slice A' n' c'] 33)) := (Below.refl _ _).alloc (Nat.le_refl _) _
  have k0 : (w1.alloc (.cells #[.slice A' n' c'] 33)).cell? ⟨w1.heap.size, 0, none⟩ = some (.slice A' n' c') := cell_of_row _ _ 0 _ _ _ (heap_alloc_new w1 _)
  have hK := flushM_rest A A' n c n' c' w1.heap.size T l (w1.alloc (.cells #[.slice A' n' c'] 33)) hn HA.out.1 ((HA.out.2.below (btr hb1 hbA) (Nat.le_refl _)).wide (Nat.le_refl _) (btr hb1 hbA).size) k0 ((hO.1.below hbA (Nat.le_refl _)).wide (Nat.zero_le _) hbA.size) hT HT2.out
  have HB := Lib.hid (btr hb1 hbA)
  have HK := Lib.hid hK
  clear hK k0 hbA hT hO hb1 HT HT2 HA
  go_wp2_with fail
  generalize w1.alloc (.cells #[.slice A' n' c'] 33) = W at HB HK ⊢
  refine HK.out.mono ?_
  rintro e w2 ⟨g, k, cap, rfl, hlen, hown, hb2⟩
  have HR := Lib.hid (And.intro hlen (And.intro (row_mono hown HB.out.size) (btr HB.out hb2)))
  clear hlen hown hb2 HB HK
  go_wp2_with fail
  go_ret
  rw [HM.out]
  exact EntRow.ents _ _ ⟨g, k, cap, rfl, HR.out⟩
end Go.Proofs.Yteoddppeajlekaa.Tags
