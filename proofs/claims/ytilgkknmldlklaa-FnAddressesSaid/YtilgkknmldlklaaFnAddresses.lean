/-
  For every slice of bytes the law FnAddresses returns true: an address is determined by its page and its cell. No condition.
-/
import Derived.Test.YtilgkknmldlklaaAddrs
import Derived.Test.YtilgkknmldlklaaPlaces
import Derived.Test.YtilgkknmldlklaaBig
import Derived.Test.YtilgkknmldlklaaSlotDraw
import Derived.Test.YtilgkknmldlklaaSlotArgs
namespace Go.Proofs.Ytilgkknmldlklaa.fnAddresses
set_option maxRecDepth 100000
open Go.ChangeShapes Go.WideShapes Go.ChangeAt Go.RowKit
open Go.Proofs.Ytilgkknmldlklaa.Base Go.Proofs.Ytilgkknmldlklaa.Mem Go.Proofs.Ytilgkknmldlklaa.Draw Go.Proofs.Ytilgkknmldlklaa.Addrs
set_option linter.unusedVariables false

theorem split16 {p : Int} (h0 : 0 ≤ p) (h1 : p < 10000) : ∃ x y : Int, (0 ≤ x ∧ x ≤ 3) ∧ (0 ≤ y ∧ y < 4) ∧ p % 16 = x * 4 + y ∧ addrP (x * 4 + y) = x ∧ addrC (x * 4 + y) = y := by
  refine ⟨p % 16 / 4, p % 16 % 4, by omega, by omega, by omega, ?_, ?_⟩
  · unfold addrP; rw [if_neg (by omega)]; omega
  · unfold addrC; rw [if_neg (by omega)]; omega

set_option maxRecDepth 100000 in
set_option maxHeartbeats 8000000 in
theorem walk (A : Option Addr) (n c : Nat) (hn : n ≤ maxLen) {w : World} (hcode : CodeAt w A n) :
    Calls Try.prog 3 #[.slice A n c] w fun e w' => e = .returned (.bool true) ∧ Below w.heap.size w w' := by
  have hn' : n ≤ 9223372036854775807 := hn
  have HC := Lib.hid (show ∀ W, Below w.heap.size w W → CodeAt W A n from fun W hb => hcode.below hb)
  clear hcode hn
  by_cases h1 : 1048576 < n
  · go_enter Try.func3, Try.ntmps3
    go_wp2_with (go_at_call 6; refine (big_yes A n c _ hn' h1).mono ?_; rintro e w' ⟨rfl, rfl⟩)
    go_ret
    exact ⟨rfl, Below.refl _ _⟩
  · have hn2 : n ≤ 1048576 := by omega
    clear h1 hn'
    go_enter Try.func3, Try.ntmps3
    go_wp2_with (go_at_call 6; refine (big_no A n c _ hn2).mono ?_; rintro e w' ⟨rfl, rfl⟩)
    refine (places_any A n c _ hn2 (HC.out _ (Below.refl _ _))).mono ?_
    rintro e w1 ⟨g, cap, l, rfl, hl, hall, hown, hb1⟩
    have k0 : w1.cell? ⟨g, 0, none⟩ = some (.int .i64 (l[0]'(by omega))) := by rw [hown.cellAt 0 (by omega)]; simp [icells]
    obtain ⟨h0, h1⟩ := hall (l[0]'(by omega)) (by simp)
    have HB := Lib.hid hb1
    clear hall hown hb1 HC
    generalize l[0]'(by omega) = p at k0 h0 h1
    clear hl
    obtain ⟨x, y, ⟨hx0, hx1⟩, ⟨hy0, hy1⟩, hp, hP, hC⟩ := split16 h0 h1
    have hwf : (Lit.int .i64 (x * 4 + y)).wf = true := SDraw.wf_small (m := 16) (by omega) (by omega) (by omega)
    have hK1 := fun V : World => impl_addrP (x * 4 + y) V hwf
    have hK2 := fun V : World => impl_addrC (x * 4 + y) V hwf
    rw [hP] at hK1
    rw [hC] at hK2
    have HK1 := Lib.hid hK1
    have HK2 := Lib.hid hK2
    have HN1 := Lib.hid (fun V : World => impl_addrP (-1) V (by decide))
    have HN2 := Lib.hid (fun V : World => impl_addrC (-1) V (by decide))
    rw [show addrP (-1) = -1 from rfl] at HN1
    rw [show addrC (-1) = -1 from rfl] at HN2
    clear hK1 hK2 hP hC hwf
    go_wp2_with fail
    rw [hp]
    refine (HK1.out _).mono ?_
    rintro e w' ⟨rfl, rfl⟩
    go_wp2_with fail
    refine (HK2.out _).mono ?_
    rintro e w' ⟨rfl, rfl⟩
    go_wp2_with fail
    refine (HN1.out _).mono ?_
    rintro e w' ⟨rfl, rfl⟩
    go_wp2_with fail
    refine (HN2.out _).mono ?_
    rintro e w' ⟨rfl, rfl⟩
    go_wp2_with fail
    go_ret
    exact ⟨rfl, HB.out⟩

/-! ### The row's step -/
set_option maxRecDepth 100000 in
theorem lifted (os : Os) (started : os.Started) (H : Type) (enc : TypeId × Value → H) :
    ReturnsInHanded {} Try.checked os 3 .any (Rows.fnAddressesSpec.pre6 enc Try.prog Try.f3 Rows.fnAddressesRow.domain false) (Rows.fnAddressesSpec.post enc Try.prog Try.f3 false true false false) := by
  refine returnsInHanded_of_change (C := Try.checked) Base.own started (by kernel_rfl) Try.func3
    (ChangeSpec.witness6 (enc := enc) (C := Try.checked) false ⟨#[], #[.slice none 0 0], []⟩ 8 (by kernel_rfl) (by kernel_rfl) (by kernel_rfl) (by kernel_rfl)) ?_
  intro W base args ds gs before hval0 hW hcnd _
  have hval : ∀ (j : Nat) t v, Try.f3.params[j]? = some t → args[j]? = some v → Value.okWide Try.prog W .any base t v := hval0
  have hW' := hW
  obtain ⟨p, q, hA0, hV, rfl, hfz, hnd⟩ := hW
  have hA : DataW.TrodAll enc Try.prog W 0 (fun _ => true) true Try.f3.params.toList args.toList ds p := hA0
  have hA1 := hA
  rw [Try.params3] at hA hval
  obtain ⟨v0, vs0, d0, ds0, p0, q0, hargs, rfl, rfl, h0, r0⟩ := trodAll_cons hA
  obtain ⟨rfl, rfl, rfl⟩ := trodAll_nil r0
  obtain rfl : args = #[v0] := by cases args; simp_all
  obtain ⟨rfl, rfl⟩ := trodVars_none hV
  obtain ⟨A0, n0, c0, rfl, hn0, hcode0, _⟩ := Draw.open_code (hval 0 22 v0 rfl rfl) h0
  clear hA0 hval0
  rw [List.append_nil] at hW'
  refine (walk A0 n0 c0 hn0 hcode0).mono fun e W' ⟨he, hg⟩ => ?_
  subst he
  exact ⟨_, rfl, Mem.post_args Slots.laid (by kernel_rfl) rfl rfl rfl hW' hA1 hg (fun _ _ _ => (trodAll_cons_mk (shut_bool Try.underlying4 _) trodAll_mk0)) (ok_one (by kernel_rfl) rfl (okWide_bool_mk Try.underlying4 _))⟩

theorem over : Rows.fnAddressesRow.holds Try.pinned (OpenSpec.ofChange Rows.fnAddressesSpec) :=
  OpenClaim.holds_of_wide 3 Try.f3 rfl rfl rfl rfl rfl rfl rfl ⟨rfl, rfl, rfl, rfl, rfl⟩ rfl rfl rfl rfl rfl (by kernel_rfl) Try.func3 (by kernel_rfl)
    (of_decide_eq_true (by kernel_rfl)) (by unfold Func.isWrapper; first | (rw [if_pos (by decide +kernel)]; kernel_rfl) | (rw [if_neg (by decide +kernel)]; exact ⟨rfl, rfl⟩))
    (fun os started H enc _ => lifted os started H enc)

/-- The given statement. -/
theorem proved : Rows.FnAddressesSaid :=
  over
#print axioms proved
end Go.Proofs.Ytilgkknmldlklaa.fnAddresses
