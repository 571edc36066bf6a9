/-
  Contracts of the law package's helpers over slices of slices of ints (equality, marking, looking the marks up, size); no statement about the project's code stands here. No condition.
-/
import Derived.Test.YtdbhfadiinmgiaaGridH
namespace Go.Proofs.Ytdbhfadiinmgiaa.Grid
set_option maxRecDepth 100000
open Go.ChangeShapes Go.WideShapes Go.ChangeAt Go.RowKit
open Go.Proofs.Ytdbhfadiinmgiaa.Base Go.Proofs.Ytdbhfadiinmgiaa.Mem Go.Proofs.Ytdbhfadiinmgiaa.Ints

/-- The marks, page by page. -/
def gmarks : Nat → List (List Int) → List (List Int)
  | _, [] => []
  | k, r :: M => nmarks k r.length :: gmarks (k + r.length) M
theorem gmarks_len : ∀ k M, (gmarks k M).length = M.length
  | _, [] => rfl
  | k, r :: M => by simp [gmarks, gmarks_len (k + r.length) M]
theorem gmarks_append : ∀ k M N, gmarks k (M ++ N) = gmarks k M ++ gmarks (k + tot M) N
  | k, [], N => by simp [gmarks, tot]
  | k, r :: M, N => by simp [gmarks, tot, gmarks_append (k + r.length) M N, Nat.add_assoc]
theorem gmarks_at (k : Nat) (M : List (List Int)) (i : Nat) (hi : i < M.length) (h : i < (gmarks k M).length) : (gmarks k M)[i] = nmarks (k + tot (M.take i)) M[i].length := by
  have h1 : gmarks k M = gmarks k (M.take i) ++ gmarks (k + tot (M.take i)) (M.drop i) := by rw [← gmarks_append, List.take_append_drop]
  have h2 : M.drop i = M[i] :: M.drop (i + 1) := List.drop_eq_getElem_cons hi
  have hl : (gmarks k (M.take i)).length = i := by rw [gmarks_len, List.length_take, Nat.min_eq_left (by omega)]
  have h3 : (gmarks k M)[i]? = some (nmarks (k + tot (M.take i)) M[i].length) := by
    rw [h1, List.getElem?_append_right (by omega), hl, Nat.sub_self, h2]
    rfl
  exact (List.getElem?_eq_some_iff.1 h3).2
theorem gmarks_step (k0 k : Nat) (M : List (List Int)) (hk : k < M.length) :
    (gmarks k0 (M.take k) ++ M.drop k).set k (nmarks (k0 + tot (M.take k)) M[k].length) = gmarks k0 (M.take (k + 1)) ++ M.drop (k + 1) := by
  have h1 : M.drop k = M[k] :: M.drop (k + 1) := List.drop_eq_getElem_cons hk
  have hl : (gmarks k0 (M.take k)).length = k := by rw [gmarks_len, List.length_take, Nat.min_eq_left (by omega)]
  rw [List.set_append_right _ _ (by omega), hl, Nat.sub_self, h1, List.take_succ_eq_append_getElem hk, gmarks_append]
  simp only [gmarks, List.set_cons_zero, List.append_assoc, List.cons_append, List.nil_append]
theorem gmarks_tot : ∀ k M, tot (gmarks k M) = tot M
  | _, [] => rfl
  | k, r :: M => by simp [gmarks, tot, gmarks_tot (k + r.length) M, nmarks_len]

theorem szIntS_no (A : Option Addr) (n c : Nat) (k : Int) (w : World) (hk : 0 ≤ k) (hk1 : k ≤ 1048576) (hn : n ≤ 9223372036854775807) (h : k < n) :
    Calls Try.prog 68 #[.slice A n c, .int .i64 k] w fun e w' => e = .returned (.int .i64 (-1)) ∧ w = w' := by
  go_enter Try.func68, Try.ntmps68
  have hx : k - n < 0 := by omega
  go_wp2
  go_ret
  exact ⟨rfl, rfl⟩
theorem szIntS_yes (A : Option Addr) (n c : Nat) (k : Int) (w : World) (hk1 : k ≤ 1048576) (h : (n : Int) ≤ k) :
    Calls Try.prog 68 #[.slice A n c, .int .i64 k] w fun e w' => e = .returned (.int .i64 (k - n)) ∧ w = w' := by
  go_enter Try.func68, Try.ntmps68
  have hx : ¬ k - n < 0 := by omega
  go_wp2
  go_ret
  exact ⟨rfl, rfl⟩

/-- Each page is no longer than a machine allows. -/
def fitG (M : List (List Int)) : Prop := ∀ r ∈ M, r.length ≤ 9223372036854775807

/-- What is left of k. -/
def szv (n t k : Int) : Int := if n + t ≤ k then k - n - t else -1
theorem szv_no {n t k : Int} (h : k < n + t) : szv n t k = -1 := if_neg (by omega)
theorem szv_yes {n t k : Int} (h : n + t ≤ k) : szv n t k = k - n - t := if_pos h

end Go.Proofs.Ytdbhfadiinmgiaa.Grid
