/-
  For every string the law FnExactPartsOf returns true: the project's PartsOf answers as the given model's PartsOf, both results, and its slice is memory of its own. No condition.
-/
import Derived.Test.YtocnhnhklpfdgaaPartsWalk
namespace Go.Proofs.Ytocnhnhklpfdgaa.fnExactPartsOf
open Go.ChangeShapes Go.WideShapes Go.ChangeAt Go.RowKit
open Go.Proofs.Ytocnhnhklpfdgaa.Base Go.Proofs.Ytocnhnhklpfdgaa.Str
set_option linter.unusedVariables false

theorem spec_any (s : ByteArray) (w : World) :
    Calls Try.prog 11 #[.string s] w fun e w' => ∃ A c, e = .returned (.tuple #[.slice A (outF s).length c, .bool (okB s)]) ∧ w'.ownsRow w.heap.size 9 1 (.slice A (outF s).length c) (outF s).length (scells (outF s)) ∧ Below w.heap.size w w' := by
  by_cases h : 600 < s.size
  · exact spec_long s w h
  · exact spec_short s w (by omega)
theorem impl_any (s : ByteArray) (w : World) :
    Calls Try.prog 12 #[.string s] w fun e w' => ∃ A c, e = .returned (.tuple #[.slice A (outF s).length c, .bool (okB s)]) ∧ w'.ownsRow w.heap.size 9 1 (.slice A (outF s).length c) (outF s).length (scells (outF s)) ∧ Below w.heap.size w w' := by
  by_cases h : 600 < s.size
  · exact impl_long s w h
  · exact impl_short s w (by omega)
theorem outF_len (s : ByteArray) : (outF s).length ≤ 12 := by
  unfold outF
  split
  · rename_i h
    unfold okB at h
    simp only [Bool.and_eq_true, decide_eq_true_eq] at h
    exact h.2
  · simp
theorem own_keep {w w' : World} {b n : Nat} {e : TypeId} {v : Value} {xs : List Value} (h : w.ownsRow b e 1 v n xs) (hb : Below w.heap.size w w') : w'.ownsRow b e 1 v n xs := by
  rcases hv : v.ownBlock with _ | g
  · exact h.kept (grown_of_below hb none) (.inl hv)
  · exact h.kept (grown_of_below hb none) (.inr (by rw [hv]; simp))
theorem below_drewN' (w : World) (m : Nat) : Below w.heap.size w (w.drewN m) := below_drewN (Below.refl _ _) m

theorem mark_one (A : Option Addr) (n c b1 : Nat) (l : List ByteArray) (w : World) (hn : n ≤ 1000000) (h1 : w.ownsRow b1 9 1 (.slice A n c) n (scells l)) :
    Calls Try.prog 14 #[.slice A n c, .int .i64 1] w fun e w' => e = .returned (.int .i64 (1 + (n : Int))) ∧
      w'.ownsRow b1 9 1 (.slice A n c) n (scells (marks 1 n)) ∧ w.grownBy w' (Value.slice A n c).ownBlock := mark_any A n c b1 1 l w hn (by omega) (by omega) h1
theorem held_one (A : Option Addr) (n c b1 : Nat) (w : World) (hn : n ≤ 1000000) (h1 : w.ownsRow b1 9 1 (.slice A n c) n (scells (marks 1 n))) :
    Calls Try.prog 15 #[.slice A n c, .int .i64 1] w fun e w' => e = .returned (.int .i64 (1 + (n : Int))) ∧ Below w.heap.size w w' := held_any A n c b1 1 w hn (by omega) (by omega) h1
theorem apart_of {w w' : World} {b n n' : Nat} {e e' : TypeId} {v v' : Value} {xs ys : List Value} (h : w.ownsRow b e 1 v n xs) (h' : w'.ownsRow w.heap.size e' 1 v' n' ys) : v.ownBlock = none ∨ v.ownBlock ≠ v'.ownBlock := by
  rcases hv : v.ownBlock with _ | g
  · exact .inl rfl
  · refine .inr fun he => ?_
    have h1 := (h.lt g hv).2
    have h2 := (h'.lt g he.symm).1
    omega

set_option maxHeartbeats 2000000 in
theorem walk (s : ByteArray) (hs : s.size ≤ maxLen) (w : World) :
    Calls Try.prog 5 #[.string s] w fun e w' => e = .returned (.bool true) ∧ Below w.heap.size w w' := by
  by_cases h1 : 1048576 < s.size
  · go_enter Try.func5, Try.ntmps5
    go_wp2
    go_ret
    exact ⟨rfl, Below.refl _ _⟩
  · have cs := fun w => spec_any s w
    have ci := fun w => impl_any s w
    have hl := outF_len s
    generalize okB s = ok at cs ci
    generalize outF s = l at cs ci hl
    generalize hn : l.length = n at cs ci hl
    have HC := Lib.hid cs
    have HI := Lib.hid ci
    have HN := Lib.hid hn
    clear cs ci hn
    go_enter Try.func5, Try.ntmps5
    go_wp2_with fail
    refine (HC.out _).mono ?_
    rintro e w1 ⟨A, c, rfl, hownS, hb1⟩
    go_wp2_with fail
    refine (HI.out _).mono ?_
    rintro e w2 ⟨B, d, rfl, hownG, hb2⟩
    have hownS2 := own_keep hownS hb2
    go_wp2_with fail
    refine (eq_same B A n d c _ _ l _ (by omega) hownG hownS2).mono ?_
    rintro e w3' ⟨rfl, m3, rfl⟩
    go_wp2_with fail
    refine (mark_one B n d _ l _ (by omega) (show (w2.drewN m3).ownsRow w1.heap.size 9 1 (.slice B n d) n (scells l) from hownG)).mono ?_
    rintro e w4 ⟨rfl, hownG4, hgr4⟩
    have hne : (Value.slice A n c).ownBlock = none ∨ (Value.slice A n c).ownBlock ≠ (Value.slice B n d).ownBlock := apart_of hownS hownG
    have hownS4 : w4.ownsRow w.heap.size 9 1 (.slice A n c) n (scells l) := (show (w2.drewN m3).ownsRow w.heap.size 9 1 (.slice A n c) n (scells l) from hownS2).kept hgr4 hne
    have hb4 : Below w.heap.size w w4 := (below_drewN (hb1.trans (hb2.mono hb1.size)) m3).grown hgr4 (Nat.le_trans hb1.size hb2.size) (fun j hj => Nat.le_trans hb1.size (hownG.lt j hj).1)
    have hz4 := hb4.size
    clear hgr4
    go_wp2_with fail
    refine (held_one B n d _ _ (by omega) hownG4).mono ?_
    rintro e w5 ⟨rfl, hb5⟩
    have hownG5 := own_keep hownG4 hb5
    have hownS5 := own_keep hownS4 hb5
    have hz5 := hb5.size
    go_wp2_with fail
    refine (HI.out _).mono ?_
    rintro e w6 ⟨E, f, rfl, hownH, hb6⟩
    have hownG6 := own_keep hownG5 hb6
    have hownS6 := own_keep hownS5 hb6
    have hz6 := hb6.size
    go_wp2_with fail
    refine (eq_same E A n f c _ _ l _ (by omega) hownH hownS6).mono ?_
    rintro e w7' ⟨rfl, m7, rfl⟩
    go_wp2_with fail
    refine (held_one B n d _ _ (by omega) (show (w6.drewN m7).ownsRow w1.heap.size 9 1 (.slice B n d) n (scells (marks 1 n)) from hownG6)).mono ?_
    rintro e w8 ⟨rfl, hb8⟩
    go_wp2_with fail
    go_ret
    exact ⟨rfl, ((hb4.trans (hb5.mono hz4)).trans (hb6.mono (Nat.le_trans hz4 hz5))).trans ((below_drewN' w6 m7).mono (Nat.le_trans hz4 (Nat.le_trans hz5 hz6)) |>.trans (hb8.mono (Nat.le_trans hz4 (Nat.le_trans hz5 hz6))))⟩

/-! ### The row's step -/
set_option maxRecDepth 100000 in
theorem lifted (os : Os) (started : os.Started) (H : Type) (enc : TypeId × Value → H) :
    ReturnsInHanded {} Try.checked os 5 .any (Rows.fnExactPartsOfSpec.pre6 enc Try.prog Try.f5 Rows.fnExactPartsOfRow.domain false) (Rows.fnExactPartsOfSpec.post enc Try.prog Try.f5 false true false false) := by
  refine returnsInHanded_of_change (C := Try.checked) own started (by kernel_rfl) Try.func5
    (ChangeSpec.witness6 (enc := enc) (C := Try.checked) false ⟨#[], #[.string ⟨#[]⟩], []⟩ 8 (by kernel_rfl) (by kernel_rfl) (by kernel_rfl) (by kernel_rfl)) ?_
  intro W base args ds gs before hval0 hW hcnd _
  have hval : ∀ (j : Nat) t v, Try.f5.params[j]? = some t → args[j]? = some v → Value.okWide Try.prog W .any base t v := hval0
  have hW' := hW
  obtain ⟨p, q, hA0, hV, rfl, hfz, hnd⟩ := hW
  have hA : DataW.TrodAll enc Try.prog W 0 (fun _ => true) true Try.f5.params.toList args.toList ds p := hA0
  rw [Try.params5] at hA hval
  obtain ⟨v0, vs0, d0, ds0, p0, q0, hargs, rfl, rfl, h0, r0⟩ := trodAll_cons hA
  obtain ⟨rfl, rfl, rfl⟩ := trodAll_nil r0
  obtain rfl : args = #[v0] := by cases args; simp_all
  obtain ⟨rfl, rfl⟩ := trodVars_none hV
  obtain ⟨a0, rfl, rfl, rfl, w0⟩ := ChangeMaps.open_string Try.underlying9 (hval 0 9 v0 rfl rfl) h0
  clear hA0 hval0
  simp only [List.append_nil] at hW'
  refine (walk a0 w0 W).mono fun e W' ⟨he, hg⟩ => ?_
  subst he
  exact ⟨_, rfl, Base.post_kept rfl rfl hW' hg (fun _ _ _ => (trodAll_cons_mk (shut_bool Try.underlying4 _) trodAll_mk0)) (fun sp _ => (trodAll_cons_mk (ChangeMaps.shut_string Try.underlying9 w0) trodAll_mk0)) (ok_one (by kernel_rfl) rfl (okWide_bool_mk Try.underlying4 _))⟩

theorem over : Rows.fnExactPartsOfRow.holds Try.pinned (OpenSpec.ofChange Rows.fnExactPartsOfSpec) :=
  OpenClaim.holds_of_wide 5 Try.f5 rfl rfl rfl rfl rfl rfl rfl ⟨rfl, rfl, rfl, rfl, rfl⟩ rfl rfl rfl rfl rfl (by kernel_rfl) Try.func5 (by kernel_rfl)
    (of_decide_eq_true (by kernel_rfl)) (by unfold Func.isWrapper; first | (rw [if_pos (by decide +kernel)]; kernel_rfl) | (rw [if_neg (by decide +kernel)]; exact ⟨rfl, rfl⟩))
    (fun os started H enc _ => lifted os started H enc)

/-- The given statement. -/
theorem proved : Rows.FnExactPartsOfSaid :=
  over
#print axioms proved
end Go.Proofs.Ytocnhnhklpfdgaa.fnExactPartsOf
