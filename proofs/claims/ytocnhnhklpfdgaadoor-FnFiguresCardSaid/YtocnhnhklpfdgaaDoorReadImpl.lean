/-
  The project's ReadDecimal, called at any string in a world where the listed variables of strconv hold what its text lays: what it returns; it changes no memory that was there. No other condition.
-/
import Derived.Test.YtocnhnhklpfdgaaDoorReadMath
import Derived.Test.YtocnhnhklpfdgaaDoorLaid
import Derived.Lib.AtoiErrMem
import Derived.Lib.AtoiAllCases
namespace Go.Proofs.YtocnhnhklpfdgaaDoor.ReadW
open Go.ChangeShapes Go.WideShapes Go.ChangeAt Go.RowKit
open Go.Proofs.YtocnhnhklpfdgaaDoor.Base Go.Proofs.YtocnhnhklpfdgaaDoor.Num Go.Proofs.YtocnhnhklpfdgaaDoor.Laid

/-- A variable that holds an interface value with something in it. -/
def ErrVar (n : String) (W : World) : Prop := ∃ (tp : TypeId) (p : Value), W.var? Tryd.prog n = some #[.iface tp p]
theorem err_below {n : String} {W w' : World} (h : ErrVar n W) (hb : Below W.heap.size W w') : ErrVar n w' := by
  obtain ⟨tp, p, h⟩ := h
  exact ⟨tp, p, var_below h hb⟩
structure Facts (W : World) : Prop where
  pow : Pow W
  syn : ErrVar "strconv.ErrSyntax" W
  ran : ErrVar "strconv.ErrRange" W
theorem Facts.below {W w' : World} (h : Facts W) (hb : Below W.heap.size W w') : Facts w' := ⟨pow_below h.pow hb, err_below h.syn hb, err_below h.ran hb⟩

/-- strconv.Atoi in this program: the number and no error, or some number and an error. -/
theorem atoi_any (s : ByteArray) (hs : s.size ≤ 1048576) (w : World) (hF : Facts w) :
    Calls Tryd.prog 19 #[.string s] w fun e w' => ((∃ v, Lib.atoiAll s.data.toList = .ok v ∧ e = .returned (.tuple #[.int .i64 v, .nilIface])) ∨
      ((∀ v, Lib.atoiAll s.data.toList ≠ .ok v) ∧ ∃ v t a, e = .returned (.tuple #[.int .i64 v, .iface t (.pointer a)]))) ∧ Below w.heap.size w w' := by
  obtain ⟨tp1, p1, h1⟩ := hF.syn
  obtain ⟨tp2, p2, h2⟩ := hF.ran
  cases hx : Lib.atoiAll s.data.toList with
  | ok v =>
    refine (Go.Proofs.Any.strconv_Atoi_ok Tryd.laysC172 s (by omega) v hx w).mono fun e w' ⟨he, hw⟩ => ⟨.inl ⟨v, rfl, he⟩, ?_⟩
    rcases hw with rfl | ⟨t, rfl⟩
    · exact Below.refl _ _
    · exact Lib.bytesWorld_below w _ t
  | range => exact (Go.Proofs.Any.strconv_Atoi_range_var Tryd.laysC172 s (by omega) hx tp2 p2 w h2).mono fun e w' ⟨N, he, _, _, hb⟩ => ⟨.inr ⟨fun v h => (by cases h), _, _, _, he⟩, hb⟩
  | _ => exact (Go.Proofs.Any.strconv_Atoi_syntax_var Tryd.laysC172 s (by omega) hx tp1 p1 w h1).mono fun e w' ⟨N, he, _, _, hb⟩ => ⟨.inr ⟨fun v h => (by cases h), _, _, _, he⟩, hb⟩

set_option maxHeartbeats 1000000 in
theorem impl_any (s : ByteArray) (hs : s.size ≤ 1048576) (w : World) (hF : Facts w) :
    Calls Tryd.prog 11 #[.string s] w fun e w' => e = .returned (.tuple #[.int .i64 (numV s.data.toList), .bool (numB s.data.toList)]) ∧ Below w.heap.size w w' := by
  have ca := fun W (hW : Facts W) => atoi_any s hs W hW
  have HA := Lib.hid ca
  have HF := Lib.hid hF
  clear ca hF
  go_enter Tryd.func11, Tryd.ntmps11
  go_wp2_with fail
  refine (HA.out _ HF.out).mono ?_
  rintro e w1 ⟨⟨v, hv, rfl⟩ | ⟨hno, v, t, a, rfl⟩, hb1⟩
  · have hvb := Lib.atoiAll_bounds hv
    obtain ⟨hv0, hv1⟩ := hvb
    have HP := Lib.hid (HF.out.below hb1).pow
    by_cases hrange : 0 ≤ v ∧ v ≤ 1000000000
    · obtain ⟨m, rfl⟩ := Int.eq_ofNat_of_zero_le hrange.1
      have hm : m ≤ 1000000000 := by omega
      have hnl : ¬ (m : Int) < 0 := by omega
      have hnb : ¬ 1000000000 < m := by omega
      have c := Laid.decimal_any (m : Int) (by omega) (by omega) w1 HP.out
      by_cases heq : Lib.itoa (m : Int) = s.data.toList
      · have hV := Lib.hid (some_V (numOf_of hm heq))
        have hx : (⟨(Lib.itoa (m : Int)).toArray⟩ : ByteArray) = s := by rw [heq]
        rw [hx] at c
        have H := Lib.hid c
        clear c hx heq hv hrange
        go_wp2_with (go_at_call 8; refine H.out.mono ?_; rintro e w2 ⟨rfl, hb2⟩)
        go_ret2
        rw [hV.out.1, hV.out.2]
        exact ⟨rfl, hb1.trans (hb2.mono hb1.size)⟩
      · have hn : numOf s.data.toList = none := by
          cases hx : numOf s.data.toList with
          | none => rfl
          | some k =>
            have h1 := numOf_atoi hx
            rw [hv] at h1
            injection h1 with h1
            obtain ⟨_, h2, _⟩ := numOf_some hx
            rw [← h1] at h2
            exact absurd h2 heq
        have hV := Lib.hid (none_V hn)
        have hne : (⟨(Lib.itoa (m : Int)).toArray⟩ : ByteArray) ≠ s := fun h => heq (by rw [← h])
        generalize (⟨(Lib.itoa (m : Int)).toArray⟩ : ByteArray) = x at c hne
        have hne1 : (x.toList == s.toList) = false := str_ne hne
        have H := Lib.hid c
        clear c heq hn hv hrange hne
        go_wp2_with (go_at_call 8; refine H.out.mono ?_; rintro e w2 ⟨rfl, hb2⟩)
        go_ret2
        rw [hV.out.1, hV.out.2]
        exact ⟨rfl, hb1.trans (hb2.mono hb1.size)⟩
    · have hn : numOf s.data.toList = none := by
        cases hx : numOf s.data.toList with
        | none => rfl
        | some k =>
          have h1 := numOf_atoi hx
          rw [hv] at h1
          injection h1 with h1
          have := (numOf_some hx).1
          omega
      have hV := Lib.hid (none_V hn)
      clear hn hv
      by_cases hneg : v < 0
      · clear hrange
        go_wp2
        go_ret2
        rw [hV.out.1, hV.out.2]
        exact ⟨rfl, hb1⟩
      · have hbig : 1000000000 < v := by omega
        clear hrange
        go_wp2
        go_ret2
        rw [hV.out.1, hV.out.2]
        exact ⟨rfl, hb1⟩
  · have hn : numOf s.data.toList = none := by
      cases hx : numOf s.data.toList with
      | none => rfl
      | some k => exact absurd (numOf_atoi hx) (hno _)
    have hV := Lib.hid (none_V hn)
    clear hn hno
    go_wp2
    go_ret2
    rw [hV.out.1, hV.out.2]
    exact ⟨rfl, hb1⟩
end Go.Proofs.YtocnhnhklpfdgaaDoor.ReadW
