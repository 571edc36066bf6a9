/-
  The laws' own test of long arguments (big), and twelve drawn numbers as cells; no statement about the project's code stands here. No condition.
-/
import Derived.Test.YtflnjbcediecjaaCode
namespace Go.Proofs.Ytflnjbcediecjaa.Draw
set_option maxRecDepth 100000
open Go.ChangeShapes Go.WideShapes Go.ChangeAt Go.RowKit
open Go.Proofs.Ytflnjbcediecjaa.Base

theorem big_yes (A : Option Addr) (n c : Nat) (w : World) (hn : n ≤ 9223372036854775807) (h : 1048576 < n) :
    Calls Try.prog 11 #[.slice A n c] w fun e w' => e = .returned (.bool true) ∧ w = w' := by
  go_enter Try.func11, Try.ntmps11
  go_wp2
  go_ret
  exact ⟨by simp; omega, rfl⟩
theorem big_no (A : Option Addr) (n c : Nat) (w : World) (h : n ≤ 1048576) :
    Calls Try.prog 11 #[.slice A n c] w fun e w' => e = .returned (.bool false) ∧ w = w' := by
  go_enter Try.func11, Try.ntmps11
  go_wp2
  go_ret
  exact ⟨by simp; omega, rfl⟩

theorem list12 {l : List Int} (h : l.length = 12) : ∃ p0 p1 p2 p3 p4 p5 p6 p7 p8 p9 p10 p11, l = [p0, p1, p2, p3, p4, p5, p6, p7, p8, p9, p10, p11] := by
  rcases l with _ | ⟨p0, l⟩; · simp at h
  rcases l with _ | ⟨p1, l⟩; · simp at h
  rcases l with _ | ⟨p2, l⟩; · simp at h
  rcases l with _ | ⟨p3, l⟩; · simp at h
  rcases l with _ | ⟨p4, l⟩; · simp at h
  rcases l with _ | ⟨p5, l⟩; · simp at h
  rcases l with _ | ⟨p6, l⟩; · simp at h
  rcases l with _ | ⟨p7, l⟩; · simp at h
  rcases l with _ | ⟨p8, l⟩; · simp at h
  rcases l with _ | ⟨p9, l⟩; · simp at h
  rcases l with _ | ⟨p10, l⟩; · simp at h
  rcases l with _ | ⟨p11, l⟩; · simp at h
  rcases l with _ | ⟨p12, l⟩
  · exact ⟨p0, p1, p2, p3, p4, p5, p6, p7, p8, p9, p10, p11, rfl⟩
  · simp at h
end Go.Proofs.Ytflnjbcediecjaa.Draw
