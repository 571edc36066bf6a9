/-
  Texts that a law wants, merged: KitM KitF GuestR KitG KitL. No condition.
-/
import Derived.Test.YtmiokacihcpepaaHole
import Derived.Test.YtmiokacihcpepaaSq
import Derived.Test.YtmiokacihcpepaaStOp
import Derived.Test.YtmiokacihcpepaaGuestH
namespace Go.Proofs.Ytmiokacihcpepaa.Kit
set_option maxRecDepth 100000
open Go.ChangeShapes Go.WideShapes Go.ChangeAt Go.RowKit Go.Deep
open Go.Proofs.Ytmiokacihcpepaa.Base Go.Proofs.Ytmiokacihcpepaa.Mem Go.Proofs.Ytmiokacihcpepaa.Data Go.Proofs.Ytmiokacihcpepaa.Stt
set_option linter.unusedVariables false
set_option linter.unusedSimpArgs false
set_option linter.unnecessarySimpa false
/-- What a helper that takes a size leaves: what is left, or -1. -/
def Sz (left : Int) (s : Nat) (l : Int) : Prop := ((s : Int) ≤ left ∧ l = left - s) ∨ (left < (s : Int) ∧ l = -1)
section
variable {α : Type} (r : Rp α)
theorem mk_len : ∀ (k : Nat) (xs : List α), (mkAll r k xs).length = xs.length
  | _, [] => rfl
  | k, x :: xs => by rw [mkAll, List.length_cons, List.length_cons, mk_len]
theorem cnt_append : ∀ (xs ys : List α), cntAll r (xs ++ ys) = cntAll r xs + cntAll r ys
  | [], ys => by simp [cntAll]
  | x :: xs, ys => by rw [List.cons_append, cntAll, cntAll, cnt_append, Nat.add_assoc]
theorem size_append : ∀ (xs ys : List α), sizeAll r (xs ++ ys) = sizeAll r xs + sizeAll r ys
  | [], ys => by simp [sizeAll]
  | x :: xs, ys => by rw [List.cons_append, sizeAll, sizeAll, size_append, Nat.add_assoc]
theorem mk_append : ∀ (k : Nat) (xs ys : List α), mkAll r k (xs ++ ys) = mkAll r k xs ++ mkAll r (k + cntAll r xs) ys
  | k, [], ys => by simp [mkAll, cntAll]
  | k, x :: xs, ys => by rw [List.cons_append, mkAll, mkAll, mk_append, List.cons_append, cntAll, Nat.add_assoc]
variable {r} {xs : List α} {i : Nat}
theorem take_step (h : i < xs.length) : xs.take (i + 1) = xs.take i ++ [xs[i]] := List.take_succ_eq_append_getElem h
theorem drop_step (h : i < xs.length) : xs.drop i = xs[i] :: xs.drop (i + 1) := List.drop_eq_getElem_cons h
theorem cnt_step (h : i < xs.length) : cntAll r (xs.take (i + 1)) = cntAll r (xs.take i) + r.cnt xs[i] := by rw [take_step h, cnt_append]; simp [cntAll]
theorem size_step (h : i < xs.length) : sizeAll r (xs.take (i + 1)) = sizeAll r (xs.take i) + r.size xs[i] := by rw [take_step h, size_append]; simp [sizeAll]
theorem mk_step (k : Nat) (h : i < xs.length) : mkAll r k (xs.take i) ++ r.mark (k + cntAll r (xs.take i)) xs[i] :: xs.drop (i + 1) = mkAll r k (xs.take (i + 1)) ++ xs.drop (i + 1) := by
  rw [take_step h, mk_append, List.append_assoc]; rfl
theorem size_le (i : Nat) : sizeAll r (xs.take i) ≤ sizeAll r xs := by
  have := size_append r (xs.take i) (xs.drop i)
  rw [List.take_append_drop] at this
  omega
theorem cnt_le (i : Nat) : cntAll r (xs.take i) ≤ cntAll r xs := by
  have := cnt_append r (xs.take i) (xs.drop i)
  rw [List.take_append_drop] at this
  omega
theorem mk_get (k : Nat) (h : i < xs.length) : (mkAll r k xs)[i]'(by rw [mk_len]; exact h) = r.mark (k + cntAll r (xs.take i)) xs[i] := by
  have e : mkAll r k xs = mkAll r k (xs.take i) ++ (r.mark (k + cntAll r (xs.take i)) xs[i] :: mkAll r (k + cntAll r (xs.take i) + r.cnt xs[i]) (xs.drop (i + 1))) := by
    have h1 := congrArg (mkAll r k) (List.take_append_drop i xs).symm
    rw [mk_append, drop_step h, mkAll] at h1
    exact h1
  have hl : (mkAll r k (xs.take i)).length = i := by rw [mk_len, List.length_take]; omega
  simp only [e]
  rw [List.getElem_append_right (by omega)]
  simp [hl]
end
section
variable {α : Type} {r : Rp α}
theorem size_mem : ∀ {xs : List α} {x : α}, x ∈ xs → r.size x ≤ sizeAll r xs
  | y :: xs, x, h => by
    rw [sizeAll]
    rcases List.mem_cons.1 h with rfl | h
    · omega
    · have := size_mem h; omega
theorem cntz {c : Nat} (h : ∀ x, r.cnt x ≤ 16 * r.size x + c) (hc : c ≤ 16) : ∀ xs : List α, cntAll r xs ≤ 16 * (xs.length + sizeAll r xs)
  | [] => by simp [cntAll]
  | x :: xs => by
    have h1 := h x
    have h2 := cntz h hc xs
    rw [cntAll, sizeAll, List.length_cons]
    omega
theorem capz (h : ∀ x, r.size x ≤ 1048576 → r.cap x) {xs : List α} (hs : xs.length + sizeAll r xs ≤ 1048576) : (rLsw r).cap xs := ⟨by omega, fun x hx => h x (by have := size_mem (r := r) hx; omega)⟩
end
theorem tmod3 (n : Nat) : ((((n : Nat) : Int).tmod 3) == 0) = (n % 3 == 0) := by
  rw [Int.tmod_eq_emod_of_nonneg (by omega), Bool.eq_iff_iff]
  simp only [beq_iff_eq]
  omega
/-- What holds of a claim at the front holds of it anywhere. -/
theorem anywhere {P : Program} {f : FuncId} {args : Array Value} {w0 w : World} {L : List Res} {q q' : Res} {v : Value} (h : ∀ R, St w0 w (q :: R) → Calls P f args w fun e w' => e = .returned v ∧ St w0 w' (q' :: R)) (S : St w0 w L) (i : Nat) (hi : L[i]? = some q) :
    Calls P f args w fun e w' => e = .returned v ∧ St w0 w' (L.set i q') :=
  (h _ (Sx.St.front S i hi)).mono fun e w' ⟨h1, h2⟩ => ⟨h1, Sx.St.back h2 (List.getElem?_eq_some_iff.1 hi).1⟩
end Go.Proofs.Ytmiokacihcpepaa.Kit
namespace Go.Proofs.Ytmiokacihcpepaa.Kit
set_option maxRecDepth 100000
open Go.ChangeShapes Go.WideShapes Go.ChangeAt Go.RowKit Go.Deep
open Go.Proofs.Ytmiokacihcpepaa.Base Go.Proofs.Ytmiokacihcpepaa.Mem Go.Proofs.Ytmiokacihcpepaa.Data Go.Proofs.Ytmiokacihcpepaa.Stt
set_option linter.unusedVariables false
set_option linter.unusedSimpArgs false
theorem open_nil {α : Type} {r : Rp α} {w : World} {lo hi : Nat} {es : List Value} {F : List Nat} (h : (rLsw r).own w lo hi [] es F) : ∃ A c, es = [.slice A 0 c] := by
  obtain ⟨A, c, ds, F1, e, -⟩ := h
  exact ⟨A, c, e⟩
theorem own_nil {α : Type} {r : Rp α} (w : World) (lo hi : Nat) : (rLsw r).own w lo hi [] [.slice none 0 0] [] := ⟨none, 0, [], [], rfl, Nat.le_refl _, rfl, ⟨rfl, rfl⟩, ⟨Lies.nil, fun b off e => by cases e⟩⟩
theorem rd_Int {w : World} {lo hi : Nat} {x : Int} {es : List Value} (h : rInt.rd w lo hi x es) : es = [.int .i64 x] := by
  exact h
theorem own_Int {w : World} {lo hi : Nat} {x : Int} {es : List Value} {F : List Nat} (h : rInt.own w lo hi x es F) : es = [.int .i64 x] ∧ F = [] := by
  exact h
theorem own_mk_Int (w : World) (lo hi : Nat) (x : Int) : rInt.own w lo hi x [.int .i64 x] [] := ⟨rfl, rfl⟩
theorem sz0_Int : ∀ xs : List Int, sizeAll rInt xs = 0
  | [] => rfl
  | x :: xs => by rw [sizeAll, sz0_Int xs]; rfl
theorem rd_Slot {w : World} {lo hi : Nat} {x : (Int × Int)} {es : List Value} (h : (rPair rInt rInt).rd w lo hi x es) : es = [.int .i64 x.1, .int .i64 x.2] := by
  obtain ⟨u0, v0, rfl, x0, h⟩ := h
  obtain rfl := show _ = _ from x0
  obtain rfl := show _ = _ from h
  rfl
theorem own_Slot {w : World} {lo hi : Nat} {x : (Int × Int)} {es : List Value} {F : List Nat} (h : (rPair rInt rInt).own w lo hi x es F) : es = [.int .i64 x.1, .int .i64 x.2] ∧ F = [] := by
  obtain ⟨u0, v0, U0, V0, rfl, rfl, ⟨rfl, rfl⟩, h⟩ := h
  obtain ⟨rfl, rfl⟩ := h
  exact ⟨rfl, rfl⟩
theorem own_mk_Slot (w : World) (lo hi : Nat) (x : (Int × Int)) : (rPair rInt rInt).own w lo hi x [.int .i64 x.1, .int .i64 x.2] [] := ⟨[_], _, [], [], rfl, rfl, ⟨rfl, rfl⟩, ⟨rfl, rfl⟩⟩
theorem sz0_Slot : ∀ xs : List (Int × Int), sizeAll (rPair rInt rInt) xs = 0
  | [] => rfl
  | x :: xs => by rw [sizeAll, sz0_Slot xs]; rfl

set_option maxRecDepth 100000 in
set_option maxHeartbeats 4000000 in
theorem keq_Slot (x : (Int × Int)) (w : World)  : Calls Try.prog 59 #[.agg #[.int .i64 x.1, .int .i64 x.2], .agg #[.int .i64 x.1, .int .i64 x.2]] w (fun e w' => e = .returned (.bool true) ∧ Below w.heap.size w w') := by
  refine Sx.enter (args := [.agg #[.int .i64 x.1, .int .i64 x.2], .agg #[.int .i64 x.1, .int .i64 x.2]]) Try.func59 rfl Try.ntmps59 rfl ?_
  refine Sx.C.seq (Sx.C.region ?_)
  refine Sx.G.b [.int .i64 x.1, .int .i64 x.2] (fun b1 => ?_)
  refine Sx.G.b [.int .i64 x.1, .int .i64 x.2] (fun b2 => ?_)
  refine Sx.G.p (.bool false) ?_
  refine Sx.G.nil (Sx.E.next (Sx.C.seq (Sx.C.seq (Sx.C.region ?_))))
  refine Sx.G.p (.pointer (some ⟨b1, 0, none⟩)) ?_
  refine Sx.G.g (.int .i64 x.1) .m1 .m0 ?_
  refine Sx.G.p (.pointer (some ⟨b2, 0, none⟩)) ?_
  refine Sx.G.g (.int .i64 x.1) .m0 .m0 ?_
  refine Sx.G.q (.bool (x.1 != x.1)) (.bool false) (congrArg Value.bool (bne_self_eq_false _)) ?_
  refine Sx.G.nil (Sx.E.next ?_)
  refine Sx.C.nn ?_
  refine Sx.C.skip (Sx.E.next (Sx.C.seq (Sx.C.seq (Sx.C.region ?_))))
  refine Sx.G.p (.pointer (some ⟨b1, 1, none⟩)) ?_
  refine Sx.G.g (.int .i64 x.2) .m1 .m1 ?_
  refine Sx.G.p (.pointer (some ⟨b2, 1, none⟩)) ?_
  refine Sx.G.g (.int .i64 x.2) .m0 .m1 ?_
  refine Sx.G.q (.bool (x.2 != x.2)) (.bool false) (congrArg Value.bool (bne_self_eq_false _)) ?_
  refine Sx.G.nil (Sx.E.next ?_)
  refine Sx.C.nn ?_
  refine Sx.C.skip (Sx.E.next (Sx.C.seq (Sx.C.region ?_)))
  refine Sx.G.p (.bool true) ?_
  refine Sx.G.nil (Sx.E.next (Sx.C.ret ?_))
  refine Sx.E.ret1 (.bool true) rfl (by kernel_rfl) (fun w S => ?_)
  exact ⟨rfl, S.below⟩

set_option maxRecDepth 100000 in
set_option maxHeartbeats 4000000 in
theorem kto_Slot (x : (Int × Int)) (w : World)  : Calls Try.prog 57 #[.agg #[.int .i64 x.1, .int .i64 x.2]] w (fun e w' => e = .returned (.agg #[.int .i64 x.1, .int .i64 x.2]) ∧ Below w.heap.size w w') := by
  refine Sx.enter (args := [.agg #[.int .i64 x.1, .int .i64 x.2]]) Try.func57 rfl Try.ntmps57 rfl ?_
  refine Sx.C.seq (Sx.C.region ?_)
  refine Sx.G.b [.int .i64 x.1, .int .i64 x.2] (fun b1 => ?_)
  refine Sx.G.ar [.int .i64 0, .int .i64 0] (fun b2 => ?_)
  refine Sx.G.nil (Sx.E.next (Sx.C.seq (Sx.C.region ?_)))
  refine Sx.G.ar [.int .i64 0, .int .i64 0] (fun b3 => ?_)
  refine Sx.G.nil (Sx.E.next (Sx.C.seq (Sx.C.region ?_)))
  refine Sx.G.p (.pointer (some ⟨b1, 0, none⟩)) ?_
  refine Sx.G.g (.int .i64 x.1) .m2 .m0 ?_
  refine Sx.G.p (.pointer (some ⟨b3, 0, none⟩)) ?_
  refine Sx.G.s (.int .i64 x.1) .a0 .a0 ?_
  refine Sx.G.nil (Sx.E.next (Sx.C.seq (Sx.C.region ?_)))
  refine Sx.G.p (.pointer (some ⟨b1, 1, none⟩)) ?_
  refine Sx.G.g (.int .i64 x.2) .m2 .m1 ?_
  refine Sx.G.p (.pointer (some ⟨b3, 1, none⟩)) ?_
  refine Sx.G.s (.int .i64 x.2) .a0 .a1 ?_
  refine Sx.G.nil (Sx.E.next (Sx.C.seq (Sx.C.region ?_)))
  refine Sx.G.lw .m0 ?_
  refine Sx.G.sw [.int .i64 x.1, .int .i64 x.2] .a1 ?_
  refine Sx.G.nil (Sx.E.next (Sx.C.ret ?_))
  refine Sx.E.retc b2 1 [.int .i64 x.1, .int .i64 x.2] rfl (by kernel_rfl) rfl (by kernel_rfl) (by kernel_rfl) (fun w S => ?_)
  exact ⟨rfl, S.below⟩
theorem rd_Ins {w : World} {lo hi : Nat} {x : (Int × Int)} {es : List Value} (h : (rPair rInt rInt).rd w lo hi x es) : es = [.int .i64 x.1, .int .i64 x.2] := by
  obtain ⟨u0, v0, rfl, x0, h⟩ := h
  obtain rfl := show _ = _ from x0
  obtain rfl := show _ = _ from h
  rfl
theorem own_Ins {w : World} {lo hi : Nat} {x : (Int × Int)} {es : List Value} {F : List Nat} (h : (rPair rInt rInt).own w lo hi x es F) : es = [.int .i64 x.1, .int .i64 x.2] ∧ F = [] := by
  obtain ⟨u0, v0, U0, V0, rfl, rfl, ⟨rfl, rfl⟩, h⟩ := h
  obtain ⟨rfl, rfl⟩ := h
  exact ⟨rfl, rfl⟩
theorem own_mk_Ins (w : World) (lo hi : Nat) (x : (Int × Int)) : (rPair rInt rInt).own w lo hi x [.int .i64 x.1, .int .i64 x.2] [] := ⟨[_], _, [], [], rfl, rfl, ⟨rfl, rfl⟩, ⟨rfl, rfl⟩⟩
theorem sz0_Ins : ∀ xs : List (Int × Int), sizeAll (rPair rInt rInt) xs = 0
  | [] => rfl
  | x :: xs => by rw [sizeAll, sz0_Ins xs]; rfl

set_option maxRecDepth 100000 in
set_option maxHeartbeats 4000000 in
theorem keq_Ins (x : (Int × Int)) (w : World)  : Calls Try.prog 58 #[.agg #[.int .i64 x.1, .int .i64 x.2], .agg #[.int .i64 x.1, .int .i64 x.2]] w (fun e w' => e = .returned (.bool true) ∧ Below w.heap.size w w') := by
  refine Sx.enter (args := [.agg #[.int .i64 x.1, .int .i64 x.2], .agg #[.int .i64 x.1, .int .i64 x.2]]) Try.func58 rfl Try.ntmps58 rfl ?_
  refine Sx.C.seq (Sx.C.region ?_)
  refine Sx.G.b [.int .i64 x.1, .int .i64 x.2] (fun b1 => ?_)
  refine Sx.G.b [.int .i64 x.1, .int .i64 x.2] (fun b2 => ?_)
  refine Sx.G.p (.bool false) ?_
  refine Sx.G.nil (Sx.E.next (Sx.C.seq (Sx.C.seq (Sx.C.region ?_))))
  refine Sx.G.p (.pointer (some ⟨b1, 0, none⟩)) ?_
  refine Sx.G.g (.int .i64 x.1) .m1 .m0 ?_
  refine Sx.G.p (.pointer (some ⟨b2, 0, none⟩)) ?_
  refine Sx.G.g (.int .i64 x.1) .m0 .m0 ?_
  refine Sx.G.q (.bool (x.1 != x.1)) (.bool false) (congrArg Value.bool (bne_self_eq_false _)) ?_
  refine Sx.G.nil (Sx.E.next ?_)
  refine Sx.C.nn ?_
  refine Sx.C.skip (Sx.E.next (Sx.C.seq (Sx.C.seq (Sx.C.region ?_))))
  refine Sx.G.p (.pointer (some ⟨b1, 1, none⟩)) ?_
  refine Sx.G.g (.int .i64 x.2) .m1 .m1 ?_
  refine Sx.G.p (.pointer (some ⟨b2, 1, none⟩)) ?_
  refine Sx.G.g (.int .i64 x.2) .m0 .m1 ?_
  refine Sx.G.q (.bool (x.2 != x.2)) (.bool false) (congrArg Value.bool (bne_self_eq_false _)) ?_
  refine Sx.G.nil (Sx.E.next ?_)
  refine Sx.C.nn ?_
  refine Sx.C.skip (Sx.E.next (Sx.C.seq (Sx.C.region ?_)))
  refine Sx.G.p (.bool true) ?_
  refine Sx.G.nil (Sx.E.next (Sx.C.ret ?_))
  refine Sx.E.ret1 (.bool true) rfl (by kernel_rfl) (fun w S => ?_)
  exact ⟨rfl, S.below⟩

set_option maxRecDepth 100000 in
set_option maxHeartbeats 4000000 in
theorem kto_Ins (x : (Int × Int)) (w : World)  : Calls Try.prog 56 #[.agg #[.int .i64 x.1, .int .i64 x.2]] w (fun e w' => e = .returned (.agg #[.int .i64 x.1, .int .i64 x.2]) ∧ Below w.heap.size w w') := by
  refine Sx.enter (args := [.agg #[.int .i64 x.1, .int .i64 x.2]]) Try.func56 rfl Try.ntmps56 rfl ?_
  refine Sx.C.seq (Sx.C.region ?_)
  refine Sx.G.b [.int .i64 x.1, .int .i64 x.2] (fun b1 => ?_)
  refine Sx.G.ar [.int .i64 0, .int .i64 0] (fun b2 => ?_)
  refine Sx.G.nil (Sx.E.next (Sx.C.seq (Sx.C.region ?_)))
  refine Sx.G.ar [.int .i64 0, .int .i64 0] (fun b3 => ?_)
  refine Sx.G.nil (Sx.E.next (Sx.C.seq (Sx.C.region ?_)))
  refine Sx.G.p (.pointer (some ⟨b1, 0, none⟩)) ?_
  refine Sx.G.g (.int .i64 x.1) .m2 .m0 ?_
  refine Sx.G.p (.pointer (some ⟨b3, 0, none⟩)) ?_
  refine Sx.G.s (.int .i64 x.1) .a0 .a0 ?_
  refine Sx.G.nil (Sx.E.next (Sx.C.seq (Sx.C.region ?_)))
  refine Sx.G.p (.pointer (some ⟨b1, 1, none⟩)) ?_
  refine Sx.G.g (.int .i64 x.2) .m2 .m1 ?_
  refine Sx.G.p (.pointer (some ⟨b3, 1, none⟩)) ?_
  refine Sx.G.s (.int .i64 x.2) .a0 .a1 ?_
  refine Sx.G.nil (Sx.E.next (Sx.C.seq (Sx.C.region ?_)))
  refine Sx.G.lw .m0 ?_
  refine Sx.G.sw [.int .i64 x.1, .int .i64 x.2] .a1 ?_
  refine Sx.G.nil (Sx.E.next (Sx.C.ret ?_))
  refine Sx.E.retc b2 1 [.int .i64 x.1, .int .i64 x.2] rfl (by kernel_rfl) rfl (by kernel_rfl) (by kernel_rfl) (fun w S => ?_)
  exact ⟨rfl, S.below⟩

set_option maxRecDepth 100000 in
set_option maxHeartbeats 4000000 in
theorem keq_IntS (xs : (List Int)) (A : Option Addr) (c : Nat) (B : Option Addr) (d : Nat) (w : World) (hc : (rLsw rInt).cap xs) (h : rdLst rInt w 0 w.heap.size xs [.slice A xs.length c]) (j : rdLst rInt w 0 w.heap.size xs [.slice B xs.length d]) : Calls Try.prog 10 #[.slice A xs.length c, .slice B xs.length d] w (fun e w' => e = .returned (.bool true) ∧ Below w.heap.size w w') := by
  obtain ⟨hl, hce⟩ := hc
  refine Sx.enter (args := [.slice A xs.length c, .slice B xs.length d]) Try.func10 rfl Try.ntmps10 rfl ?_
  refine Sx.C.seq (Sx.C.region ?_)
  refine Sx.G.p (.bool false) ?_
  refine Sx.G.nil (Sx.E.next (Sx.C.seq (Sx.C.seq (Sx.C.region ?_))))
  refine Sx.G.p (.slice A xs.length c) ?_
  refine Sx.G.p (.int .i64 ((xs.length : Nat) : Int)) ?_
  refine Sx.G.p (.slice B xs.length d) ?_
  refine Sx.G.p (.int .i64 ((xs.length : Nat) : Int)) ?_
  refine Sx.G.q (.bool (((xs.length : Nat) : Int) != ((xs.length : Nat) : Int))) (.bool false) (congrArg Value.bool (bne_self_eq_false _)) ?_
  refine Sx.G.nil (Sx.E.next ?_)
  refine Sx.C.nn ?_
  refine Sx.C.skip (Sx.E.next (Sx.C.seq (Sx.C.seq (Sx.C.region ?_))))
  refine Sx.G.p (.int .i64 0) ?_
  refine Sx.G.nil (Sx.E.next (Sx.C.block ?_))
  refine Sx.C.loop (α := Nat) (fun i => i ≤ xs.length) (fun i => [(5, .int .i64 (i : Int)), (0, .slice A xs.length c), (1, .slice B xs.length d), (4, .bool false)]) (fun i => []) (fun i => xs.length - i) 0 (Nat.zero_le _) (fun a hA => (Sx.Ag.sub hA (by kernel_rfl))) (fun w S => S) (fun i hx => ?_)
  refine Sx.C.seq (Sx.C.seq (Sx.C.region ?_))
  refine Sx.G.p (.int .i64 (i : Int)) ?_
  refine Sx.G.p (.slice A xs.length c) ?_
  refine Sx.G.p (.int .i64 ((xs.length : Nat) : Int)) ?_
  refine Sx.G.p (.bool (decide ((i : Int) < ((xs.length : Nat) : Int)))) ?_
  refine Sx.G.nil (Sx.E.next ?_)
  cases hc1 : (decide ((i : Int) < ((xs.length : Nat) : Int)))
  · have hb1 := hc1
    replace hc1 := of_decide_eq_false hc1
    refine Sx.C.nn ?_
    refine Sx.C.exit (Sx.E.then_exit (Sx.E.then_exit (Sx.E.block_hit (Sx.E.next (Sx.C.seq (Sx.C.region ?_))))))
    refine Sx.G.p (.bool true) ?_
    refine Sx.G.nil (Sx.E.next (Sx.C.ret ?_))
    refine Sx.E.ret1 (.bool true) rfl (by kernel_rfl) (fun w S => ?_)
    exact ⟨rfl, S.below⟩
  · have hb1 := hc1
    replace hc1 := of_decide_eq_true hc1
    refine Sx.C.yy ?_
    refine Sx.C.skip (Sx.E.next (Sx.C.seq (Sx.C.block (Sx.C.seq ?_))))
    refine Sx.C.draw (.take 0 (.take 1 (.take 2 (.take 3 (.take 4 (.take 5 (.take 6 (.take 7 (.take 8 .nil))))))))) [] (fun w S => St.pick S [] _ rfl (by decide)) (by kernel_rfl) (by kernel_rfl) (by kernel_rfl) ?_
    refine Sx.GT.p (.slice A xs.length c) ?_
    refine Sx.GT.p (.int .i64 (i : Int)) ?_
    obtain ⟨b2, f2, es2, eA2, hr2, hl2, hm2⟩ := Sx.old_elem (by decide) h i (by omega)
    subst eA2
    obtain ⟨x2, hx2⟩ : ∃ z_, z_ = (xs[i]'(by omega)) := ⟨_, rfl⟩
    rw [← hx2] at hr2
    obtain rfl := Kit.rd_Int hr2
    refine Sx.GT.elem 24 3 (.tmp 17) (.tmp 18) 1 8 b2 f2 xs.length c i 2 (by rfl) (by rfl) (by kernel_rfl) (by kernel_rfl) (by kernel_rfl) (by kernel_rfl) (by omega) ?_
    refine Sx.GT.ldr1 3 (.tmp 19) b2 ((f2 + i * 1) + 0) (.int .i64 x2) 3 (by rfl) (by rfl) (by kernel_rfl) (by kernel_rfl) (fun w S => hm2 w _ S 0 _ rfl) (by kernel_rfl) ?_
    refine Sx.GT.p (.slice B xs.length d) ?_
    refine Sx.GT.p (.int .i64 (i : Int)) ?_
    obtain ⟨b3, f3, es3, eA3, hr3, hl3, hm3⟩ := Sx.old_elem (by decide) j i (by omega)
    subst eA3
    rw [← hx2] at hr3
    obtain rfl := Kit.rd_Int hr3
    refine Sx.GT.elem 24 3 (.tmp 21) (.tmp 22) 1 8 b3 f3 xs.length d i 6 (by rfl) (by rfl) (by kernel_rfl) (by kernel_rfl) (by kernel_rfl) (by kernel_rfl) (by omega) ?_
    refine Sx.GT.ldr1 3 (.tmp 23) b3 ((f3 + i * 1) + 0) (.int .i64 x2) 7 (by rfl) (by rfl) (by kernel_rfl) (by kernel_rfl) (fun w S => hm3 w _ S 0 _ rfl) (by kernel_rfl) ?_
    refine Sx.GT.q (.bool (x2 != x2)) (.bool false) (congrArg Value.bool (bne_self_eq_false _)) ?_
    refine Sx.GT.nil (Sx.E.next ?_)
    refine Sx.C.nn ?_
    refine Sx.C.skip (Sx.E.block_normal (Sx.E.next (Sx.C.region ?_)))
    refine Sx.G.p (.int .i64 (i : Int)) ?_
    refine Sx.G.q (.int .i64 (IntKind.i64.wrap ((i : Int) + 1))) (.int .i64 ((i + 1 : Nat) : Int)) (congrArg (Value.int .i64) (Sx.wrap_up i (by omega))) ?_
    refine Sx.G.p (.int .i64 ((i + 1 : Nat) : Int)) ?_
    refine Sx.G.nil ?_
    exact Sx.E.again (i + 1) (by omega) (by omega) (fun a hA => (Sx.Ag.sub hA (by kernel_rfl))) (fun w S => S)

set_option maxRecDepth 100000 in
set_option maxHeartbeats 4000000 in
theorem ksz_IntS (xs : (List Int)) (A : Option Addr) (c : Nat) (left : Int) (w : World) (hw : (rLsw rInt).wf xs) (h0 : 0 ≤ left) (h1 : left ≤ 1048576) (h : rdLst rInt w 0 w.heap.size xs [.slice A xs.length c]) : Calls Try.prog 22 #[.slice A xs.length c, .int .i64 left] w (fun e w' => ∃ l, e = .returned (.int .i64 l) ∧ Kit.Sz left ((rLsw rInt).size xs) l ∧ Below w.heap.size w w') := by
  obtain ⟨hl, hwe⟩ := hw
  simp only [maxLen] at hl
  refine Sx.enter (args := [.slice A xs.length c, .int .i64 left]) Try.func22 rfl Try.ntmps22 rfl ?_
  refine Sx.C.seq (Sx.C.region ?_)
  refine Sx.G.p (.int .i64 0) ?_
  refine Sx.G.nil (Sx.E.next (Sx.C.seq (Sx.C.region ?_)))
  refine Sx.G.p (.int .i64 left) ?_
  refine Sx.G.p (.slice A xs.length c) ?_
  refine Sx.G.p (.int .i64 ((xs.length : Nat) : Int)) ?_
  refine Sx.G.q (.int .i64 (IntKind.i64.wrap (left - ((xs.length : Nat) : Int)))) (.int .i64 (left - ((xs.length : Nat) : Int))) (congrArg (Value.int .i64) (by rw [IntKind.wrap_i64]; omega)) ?_
  refine Sx.G.p (.int .i64 (left - ((xs.length : Nat) : Int))) ?_
  refine Sx.G.nil (Sx.E.next (Sx.C.seq (Sx.C.seq (Sx.C.region ?_))))
  refine Sx.G.p (.int .i64 (left - ((xs.length : Nat) : Int))) ?_
  refine Sx.G.p (.bool (decide ((left - ((xs.length : Nat) : Int)) < 0))) ?_
  refine Sx.G.nil (Sx.E.next ?_)
  cases hc1 : (decide ((left - ((xs.length : Nat) : Int)) < 0))
  · have hb1 := hc1
    replace hc1 := of_decide_eq_false hc1
    refine Sx.C.nn ?_
    refine Sx.C.skip (Sx.E.next (Sx.C.seq (Sx.C.region ?_)))
    refine Sx.G.p (.int .i64 (left - ((xs.length : Nat) : Int))) ?_
    refine Sx.G.p (.int .i64 (left - ((xs.length : Nat) : Int))) ?_
    refine Sx.G.nil (Sx.E.next (Sx.C.ret ?_))
    refine Sx.E.ret1 (.int .i64 (left - ((xs.length : Nat) : Int))) rfl (by kernel_rfl) (fun w S => ?_)
    exact ⟨_, rfl, show Kit.Sz left (xs.length + sizeAll rInt xs) _ by rw [sz0_Int]; unfold Kit.Sz; omega, S.below⟩
  · have hb1 := hc1
    replace hc1 := of_decide_eq_true hc1
    refine Sx.C.yy ?_
    refine Sx.C.seq (Sx.C.region ?_)
    refine Sx.G.p (.int .i64 (-1)) ?_
    refine Sx.G.nil (Sx.E.next (Sx.C.ret (Sx.E.then_ret ?_)))
    refine Sx.E.ret1 (.int .i64 (-1)) rfl (by kernel_rfl) (fun w S => ?_)
    exact ⟨_, rfl, show Kit.Sz left (xs.length + sizeAll rInt xs) _ by rw [sz0_Int]; unfold Kit.Sz; omega, S.below⟩

set_option maxRecDepth 100000 in
set_option maxHeartbeats 4000000 in
theorem khd_IntS (xs : (List Int)) (A : Option Addr) (c k : Nat) (w : World) (hc : (rLsw rInt).cap xs) (hk : k + cntAll rInt xs ≤ 1000000000000) (h : rdLst rInt w 0 w.heap.size (mkAll rInt k xs) [.slice A xs.length c]) : Calls Try.prog 14 #[.slice A xs.length c, .int .i64 ((k : Nat) : Int)] w (fun e w' => e = .returned (.int .i64 ((k + cntAll rInt xs : Nat) : Int)) ∧ Below w.heap.size w w') := by
  obtain ⟨hl, hce⟩ := hc
  have hml := Kit.mk_len rInt k xs
  refine Sx.enter (args := [.slice A xs.length c, .int .i64 ((k : Nat) : Int)]) Try.func14 rfl Try.ntmps14 rfl ?_
  refine Sx.C.seq (Sx.C.region ?_)
  refine Sx.G.p (.int .i64 0) ?_
  refine Sx.G.nil (Sx.E.next (Sx.C.seq (Sx.C.seq (Sx.C.region ?_))))
  refine Sx.G.p (.int .i64 0) ?_
  refine Sx.G.nil (Sx.E.next (Sx.C.block ?_))
  refine Sx.C.loop (α := Nat × Nat) (fun x => x.1 ≤ xs.length ∧ x.2 = k + cntAll rInt (xs.take x.1)) (fun x => [(5, .int .i64 (x.1 : Int)), (1, .int .i64 ((x.2 : Nat) : Int)), (0, .slice A xs.length c), (4, .int .i64 0)]) (fun x => []) (fun x => xs.length - x.1) (0, k) (by refine ⟨Nat.zero_le _, ?_⟩; simp [cntAll]) (fun a hA => (Sx.Ag.sub hA (by kernel_rfl))) (fun w S => S) (fun x hx => ?_)
  obtain ⟨i, q⟩ := x
  dsimp only at hx
  obtain ⟨hi, hq⟩ := hx
  have hqm := Kit.cnt_le (r := rInt) (xs := xs) i
  refine Sx.C.seq (Sx.C.seq (Sx.C.region ?_))
  refine Sx.G.p (.int .i64 (i : Int)) ?_
  refine Sx.G.p (.slice A xs.length c) ?_
  refine Sx.G.p (.int .i64 ((xs.length : Nat) : Int)) ?_
  refine Sx.G.p (.bool (decide ((i : Int) < ((xs.length : Nat) : Int)))) ?_
  refine Sx.G.nil (Sx.E.next ?_)
  cases hc1 : (decide ((i : Int) < ((xs.length : Nat) : Int)))
  · have hb1 := hc1
    replace hc1 := of_decide_eq_false hc1
    refine Sx.C.nn ?_
    refine Sx.C.exit (Sx.E.then_exit (Sx.E.then_exit (Sx.E.block_hit (Sx.E.next (Sx.C.seq (Sx.C.region ?_))))))
    refine Sx.G.p (.int .i64 ((q : Nat) : Int)) ?_
    refine Sx.G.p (.int .i64 ((q : Nat) : Int)) ?_
    refine Sx.G.nil (Sx.E.next (Sx.C.ret ?_))
    refine Sx.E.ret1 (.int .i64 ((q : Nat) : Int)) rfl (by kernel_rfl) (fun w S => ?_)
    have h2' : xs.take i = xs := List.take_of_length_le (by omega)
    rw [h2'] at hq
    subst hq
    exact ⟨rfl, S.below⟩
  · have hb1 := hc1
    replace hc1 := of_decide_eq_true hc1
    refine Sx.C.yy ?_
    refine Sx.C.skip (Sx.E.next (Sx.C.seq (Sx.C.block (Sx.C.seq (Sx.C.seq (Sx.C.region ?_))))))
    refine Sx.G.p (.slice A xs.length c) ?_
    refine Sx.G.p (.int .i64 (i : Int)) ?_
    obtain ⟨b2, f2, es2, eA2, hr2, hl2, hm2⟩ := Sx.old_elem (by decide) h i (by omega)
    subst eA2
    obtain ⟨x2, hx2⟩ : ∃ x, x = (xs[i]'(by omega)) := ⟨_, rfl⟩
    rw [Kit.mk_get k (show i < xs.length by omega), ← hq, ← hx2] at hr2
    obtain rfl := Kit.rd_Int hr2
    refine Sx.G.elem 24 3 (.tmp 12) (.tmp 13) 1 8 b2 f2 xs.length c i rfl (by kernel_rfl) (by kernel_rfl) (by kernel_rfl) (by kernel_rfl) (by omega) ?_
    refine Sx.G.ldr1 3 (.tmp 14) b2 ((f2 + i * 1) + 0) (.int .i64 ((q : Nat) : Int)) rfl (by kernel_rfl) (by kernel_rfl) (fun w S => hm2 w _ S 0 _ rfl) (by kernel_rfl) ?_
    refine Sx.G.p (.int .i64 ((q : Nat) : Int)) ?_
    refine Sx.G.q (.bool (((q : Nat) : Int) != ((q : Nat) : Int))) (.bool false) (congrArg Value.bool (bne_self_eq_false _)) ?_
    refine Sx.G.nil (Sx.E.next ?_)
    refine Sx.C.nn ?_
    refine Sx.C.skip (Sx.E.next (Sx.C.region ?_))
    refine Sx.G.p (.int .i64 ((q : Nat) : Int)) ?_
    refine Sx.G.q (.int .i64 (IntKind.i64.wrap (((q : Nat) : Int) + 1))) (.int .i64 ((q + 1 : Nat) : Int)) (congrArg (Value.int .i64) (Sx.wrap_up q (by omega))) ?_
    refine Sx.G.p (.int .i64 ((q + 1 : Nat) : Int)) ?_
    refine Sx.G.nil (Sx.E.block_normal (Sx.E.next (Sx.C.region ?_)))
    refine Sx.G.p (.int .i64 (i : Int)) ?_
    refine Sx.G.q (.int .i64 (IntKind.i64.wrap ((i : Int) + 1))) (.int .i64 ((i + 1 : Nat) : Int)) (congrArg (Value.int .i64) (Sx.wrap_up i (by omega))) ?_
    refine Sx.G.p (.int .i64 ((i + 1 : Nat) : Int)) ?_
    refine Sx.G.nil ?_
    have hst := Kit.cnt_step (r := rInt) (show i < xs.length by omega)
    rw [← hx2] at hst
    exact Sx.E.again (i + 1, (q + 1 : Nat)) (by refine ⟨by omega, ?_⟩; show _ = k + cntAll rInt (xs.take (i + 1)); rw [hst, hq]; rfl) (show xs.length - (i + 1) < xs.length - i by omega) (fun a hA => (Sx.Ag.sub hA (by kernel_rfl))) (fun w S => S)

set_option maxRecDepth 100000 in
set_option maxHeartbeats 4000000 in
theorem kmk0_IntS {w0 w : World} {lo hi : Nat} {R : List Res} (xs : (List Int)) (A : Option Addr) (c k : Nat) (F : List Nat) (hc : (rLsw rInt).cap xs) (hk : k + cntAll rInt xs ≤ 1000000000000) (S : St w0 w (ow (rLsw rInt) lo hi xs [.slice A xs.length c] F :: R)) : Calls Try.prog 13 #[.slice A xs.length c, .int .i64 ((k : Nat) : Int)] w fun e w' => e = .returned (.int .i64 ((k + cntAll rInt xs : Nat) : Int)) ∧ St w0 w' (ow (rLsw rInt) lo hi (mkAll rInt k xs) [.slice A xs.length c] F :: R) := by
  obtain ⟨hl, hce⟩ := hc
  refine Sx.enterS (args := [.slice A xs.length c, .int .i64 ((k : Nat) : Int)]) S Try.func13 rfl Try.ntmps13 rfl ?_
  refine Sx.C.seq (Sx.C.region ?_)
  refine Sx.G.p (.int .i64 0) ?_
  refine Sx.G.nil (Sx.E.next (Sx.C.seq (Sx.C.seq (Sx.C.region ?_))))
  refine Sx.G.p (.int .i64 0) ?_
  refine Sx.G.nil (Sx.E.next (Sx.C.block ?_))
  refine Sx.C.loop (α := Nat × Nat) (fun x => x.1 ≤ xs.length ∧ x.2 = k + cntAll rInt (xs.take x.1)) (fun x => [(5, .int .i64 (x.1 : Int)), (1, .int .i64 ((x.2 : Nat) : Int)), (0, .slice A xs.length c), (4, .int .i64 0)]) (fun x => (ow (rLsw rInt) lo hi (mkAll rInt k (xs.take x.1) ++ xs.drop x.1) [.slice A xs.length c] F :: R)) (fun x => xs.length - x.1) (0, k) (by refine ⟨Nat.zero_le _, ?_⟩; simp [cntAll]) (fun a hA => (Sx.Ag.sub hA (by kernel_rfl))) (fun w S => S) (fun x hx => ?_)
  obtain ⟨i, q⟩ := x
  dsimp only at hx
  obtain ⟨hi', hq⟩ := hx
  have hqm := Kit.cnt_le (r := rInt) (xs := xs) i
  refine Sx.C.seq (Sx.C.seq (Sx.C.region ?_))
  refine Sx.G.p (.int .i64 (i : Int)) ?_
  refine Sx.G.p (.slice A xs.length c) ?_
  refine Sx.G.p (.int .i64 ((xs.length : Nat) : Int)) ?_
  refine Sx.G.p (.bool (decide ((i : Int) < ((xs.length : Nat) : Int)))) ?_
  refine Sx.G.nil (Sx.E.next ?_)
  cases hc1 : (decide ((i : Int) < ((xs.length : Nat) : Int)))
  · have hb1 := hc1
    replace hc1 := of_decide_eq_false hc1
    refine Sx.C.nn ?_
    refine Sx.C.exit (Sx.E.then_exit (Sx.E.then_exit (Sx.E.block_hit (Sx.E.next (Sx.C.seq (Sx.C.region ?_))))))
    refine Sx.G.p (.int .i64 ((q : Nat) : Int)) ?_
    refine Sx.G.p (.int .i64 ((q : Nat) : Int)) ?_
    refine Sx.G.nil (Sx.E.next (Sx.C.ret ?_))
    refine Sx.E.ret1 (.int .i64 ((q : Nat) : Int)) rfl (by kernel_rfl) (fun w S => ?_)
    have h2' : xs.take i = xs := List.take_of_length_le (by omega)
    have h3' : xs.drop i = [] := List.drop_of_length_le (by omega)
    rw [h2'] at hq
    rw [h2', h3', List.append_nil] at S
    subst hq
    exact ⟨rfl, S⟩
  · have hb1 := hc1
    replace hc1 := of_decide_eq_true hc1
    refine Sx.C.yy ?_
    refine Sx.C.skip (Sx.E.next (Sx.C.seq ?_))
    have hlt : i < xs.length := by omega
    obtain ⟨x1, hx1⟩ : ∃ x, x = xs[i] := ⟨_, rfl⟩
    have hm1 : x1 ∈ xs := hx1 ▸ List.getElem_mem _
    refine Sx.C.open (r := rInt) (pre := mkAll rInt k (xs.take i)) (x := x1) (post := xs.drop (i + 1)) (by rw [hx1, ← Kit.drop_step hlt]) (by decide) (fun b off es F1 Fi F2 eA eF hes hm hmc => ?_)
    subst eA eF
    refine Sx.C.know (p := es = [.int .i64 x1] ∧ Fi = []) (fun w S => Kit.own_Int (St.at_ S 1 rfl).1) ?_
    rintro ⟨rfl, rfl⟩
    refine Sx.C.block (Sx.C.seq (Sx.C.region ?_))
    refine Sx.G.p (.slice (some ⟨b, off, none⟩) xs.length c) ?_
    refine Sx.G.p (.int .i64 (i : Int)) ?_
    refine Sx.G.p (.int .i64 ((q : Nat) : Int)) ?_
    refine Sx.G.elem 24 3 (.tmp 12) (.tmp 13) 1 8 b off xs.length c i rfl (by kernel_rfl) (by kernel_rfl) (by kernel_rfl) (by kernel_rfl) (by omega) ?_
    refine Sx.G.hw i [.int .i64 ((q : Nat) : Int)] .a0 (by rw [Kit.mk_len, List.length_take]; omega) ?_
    refine Sx.G.nil (Sx.E.next (Sx.C.region ?_))
    refine Sx.G.p (.int .i64 ((q : Nat) : Int)) ?_
    refine Sx.G.q (.int .i64 (IntKind.i64.wrap (((q : Nat) : Int) + 1))) (.int .i64 ((q + 1 : Nat) : Int)) (congrArg (Value.int .i64) (Sx.wrap_up q (by omega))) ?_
    refine Sx.G.p (.int .i64 ((q + 1 : Nat) : Int)) ?_
    refine Sx.G.nil (Sx.E.block_normal (Sx.E.next (Sx.C.region ?_)))
    refine Sx.G.p (.int .i64 (i : Int)) ?_
    refine Sx.G.q (.int .i64 (IntKind.i64.wrap ((i : Int) + 1))) (.int .i64 ((i + 1 : Nat) : Int)) (congrArg (Value.int .i64) (Sx.wrap_up i (by omega))) ?_
    refine Sx.G.p (.int .i64 ((i + 1 : Nat) : Int)) ?_
    refine Sx.G.nil ?_
    exact Sx.E.again (i + 1, (q + 1 : Nat)) (by refine ⟨by omega, ?_⟩; show _ = k + cntAll rInt (xs.take (i + 1)); rw [Kit.cnt_step hlt, ← hx1, hq]; rfl) (show xs.length - (i + 1) < xs.length - i by omega) (fun a hA => (Sx.Ag.sub hA (by kernel_rfl))) (fun w S => by
      have S := Sx.St.flat S 1 rfl (rInt.mark q x1) [.int .i64 ((q : Nat) : Int)] (fun w => Kit.own_mk_Int w lo hi (rInt.mark q x1))
      have S3 := Sx.St.close S (by decide) xs.length c (by simp [Kit.mk_len, List.length_take, List.length_drop]; omega) hmc
      rw [hq, hx1, Kit.mk_step k hlt] at S3
      exact S3
      )
theorem kmk_IntS {w0 w : World} {lo hi : Nat} {L : List Res} (xs : (List Int)) (A : Option Addr) (c k : Nat) (F : List Nat) (hc : (rLsw rInt).cap xs) (hk : k + cntAll rInt xs ≤ 1000000000000) (S : St w0 w L) (i : Nat) (hi' : L[i]? = some (ow (rLsw rInt) lo hi xs [.slice A xs.length c] F)) : Calls Try.prog 13 #[.slice A xs.length c, .int .i64 ((k : Nat) : Int)] w fun e w' => e = .returned (.int .i64 ((k + cntAll rInt xs : Nat) : Int)) ∧ St w0 w' (L.set i (ow (rLsw rInt) lo hi (mkAll rInt k xs) [.slice A xs.length c] F)) :=
  anywhere (fun R S => kmk0_IntS xs A c k F hc hk S) S i hi'

set_option maxRecDepth 100000 in
set_option maxHeartbeats 4000000 in
theorem kto_IntS (xs : (List Int)) (A : Option Addr) (c : Nat) (w : World) (hc : (rLsw rInt).cap xs) (h : rdLst rInt w 0 w.heap.size xs [.slice A xs.length c]) : Calls Try.prog 26 #[.slice A xs.length c] w (Gives (rLsw rInt) w xs) := by
  obtain ⟨hl, hce⟩ := hc
  refine Sx.enter (args := [.slice A xs.length c]) Try.func26 rfl Try.ntmps26 rfl ?_
  refine Sx.C.seq (Sx.C.region ?_)
  refine Sx.G.p (.slice none 0 0) ?_
  refine Sx.G.nil (Sx.E.next (Sx.C.seq (Sx.C.region ?_)))
  refine Sx.G.p (.slice A xs.length c) ?_
  refine Sx.G.p (.int .i64 ((xs.length : Nat) : Int)) ?_
  refine Sx.G.mks (r := rInt) (0 : Int) [.int .i64 0] 24 3 (.tmp 6) (.tmp 6) 1 8 xs.length rfl (by kernel_rfl) (by kernel_rfl) (by kernel_rfl) rfl rfl (fun w lo hi => Kit.own_mk_Int w lo hi 0) (by kernel_rfl) (by kernel_rfl) (by simp only [maxLen]; omega) (by omega) (fun b1 hi1 F1 => ?_)
  refine Sx.G.p (.slice (some ⟨b1, 0, none⟩) xs.length xs.length) ?_
  refine Sx.G.nil (Sx.E.next (Sx.C.seq (Sx.C.seq (Sx.C.region ?_))))
  refine Sx.G.p (.int .i64 0) ?_
  refine Sx.G.nil (Sx.E.next (Sx.C.block ?_))
  refine Sx.C.loop (α := Nat × Nat × List Nat) (fun x => x.1 ≤ xs.length) (fun x => [(4, .int .i64 (x.1 : Int)), (0, .slice A xs.length c), (2, .slice none 0 0), (3, .slice (some ⟨b1, 0, none⟩) xs.length xs.length)]) (fun x => [ow (rLsw rInt) w.heap.size x.2.1 (xs.take x.1 ++ List.replicate (xs.length - x.1) (0 : Int)) [.slice (some ⟨b1, 0, none⟩) xs.length xs.length] x.2.2]) (fun x => xs.length - x.1) (0, hi1, F1) (Nat.zero_le _) (fun a hA => (Sx.Ag.sub hA (by kernel_rfl))) (fun w' S => by have S2 := Sx.St.widen S 0 rfl (Nat.le_refl _) (S.hi 0 _ rfl); exact S2) (fun x hx => ?_)
  obtain ⟨i, hi, F⟩ := x
  dsimp only at hx
  obtain hi' := hx
  refine Sx.C.seq (Sx.C.seq (Sx.C.region ?_))
  refine Sx.G.p (.int .i64 (i : Int)) ?_
  refine Sx.G.p (.slice A xs.length c) ?_
  refine Sx.G.p (.int .i64 ((xs.length : Nat) : Int)) ?_
  refine Sx.G.p (.bool (decide ((i : Int) < ((xs.length : Nat) : Int)))) ?_
  refine Sx.G.nil (Sx.E.next ?_)
  cases hc2 : (decide ((i : Int) < ((xs.length : Nat) : Int)))
  · have hb2 := hc2
    replace hc2 := of_decide_eq_false hc2
    refine Sx.C.nn ?_
    refine Sx.C.exit (Sx.E.then_exit (Sx.E.then_exit (Sx.E.block_hit (Sx.E.next (Sx.C.seq (Sx.C.region ?_))))))
    refine Sx.G.p (.slice (some ⟨b1, 0, none⟩) xs.length xs.length) ?_
    refine Sx.G.p (.slice (some ⟨b1, 0, none⟩) xs.length xs.length) ?_
    refine Sx.G.nil (Sx.E.next (Sx.C.ret ?_))
    refine Sx.E.ret1 (.slice (some ⟨b1, 0, none⟩) xs.length xs.length) rfl (by kernel_rfl) (fun w S => ?_)
    have h2' : xs.take i = xs := List.take_of_length_le (by omega)
    rw [h2', show xs.length - i = 0 by omega, List.replicate_zero, List.append_nil] at S
    exact ⟨[_], F, rfl, S.own 0 rfl, S.nodup 0 rfl, S.below⟩
  · have hb2 := hc2
    replace hc2 := of_decide_eq_true hc2
    refine Sx.C.yy ?_
    refine Sx.C.skip (Sx.E.next (Sx.C.seq ?_))
    have hlt : i < xs.length := by omega
    refine Sx.C.open (r := rInt) (pre := xs.take i) (x := (0 : Int)) (post := List.replicate (xs.length - (i + 1)) (0 : Int)) (by rw [show xs.length - i = (xs.length - (i + 1)) + 1 by omega, List.replicate_succ]) (by decide) (fun b off es F1 Fi F2 eA eF hes hm hmc => ?_)
    obtain ⟨rfl, rfl⟩ : b1 = b ∧ 0 = off := by cases eA; exact ⟨rfl, rfl⟩
    subst eF
    refine Sx.C.know (p := es = [.int .i64 0] ∧ Fi = []) (fun w S => Kit.own_Int (St.at_ S 1 rfl).1) ?_
    rintro ⟨rfl, rfl⟩
    refine Sx.C.block (Sx.C.region ?_)
    refine Sx.G.p (.slice (some ⟨b1, 0, none⟩) xs.length xs.length) ?_
    refine Sx.G.p (.int .i64 (i : Int)) ?_
    refine Sx.G.p (.slice A xs.length c) ?_
    refine Sx.G.p (.int .i64 (i : Int)) ?_
    obtain ⟨b3, f3, es3, eA3, hr3, hl3, hm3⟩ := Sx.old_elem (by decide) h i (by omega)
    subst eA3
    obtain ⟨x3, hx3⟩ : ∃ z_, z_ = (xs[i]'(by omega)) := ⟨_, rfl⟩
    rw [← hx3] at hr3
    obtain rfl := Kit.rd_Int hr3
    refine Sx.G.elem 24 3 (.tmp 16) (.tmp 17) 1 8 b3 f3 xs.length c i rfl (by kernel_rfl) (by kernel_rfl) (by kernel_rfl) (by kernel_rfl) (by omega) ?_
    refine Sx.G.ldr1 3 (.tmp 18) b3 ((f3 + i * 1) + 0) (.int .i64 x3) rfl (by kernel_rfl) (by kernel_rfl) (fun w S => hm3 w _ S 0 _ rfl) (by kernel_rfl) ?_
    refine Sx.G.elem 24 3 (.tmp 14) (.tmp 15) 1 8 b1 0 xs.length xs.length i rfl (by kernel_rfl) (by kernel_rfl) (by kernel_rfl) (by kernel_rfl) (by omega) ?_
    refine Sx.G.hw i [.int .i64 x3] .a0 (by rw [List.length_take]; omega) ?_
    refine Sx.G.nil (Sx.E.block_normal (Sx.E.next (Sx.C.region ?_)))
    refine Sx.G.p (.int .i64 (i : Int)) ?_
    refine Sx.G.q (.int .i64 (IntKind.i64.wrap ((i : Int) + 1))) (.int .i64 ((i + 1 : Nat) : Int)) (congrArg (Value.int .i64) (Sx.wrap_up i (by omega))) ?_
    refine Sx.G.p (.int .i64 ((i + 1 : Nat) : Int)) ?_
    refine Sx.G.nil ?_
    exact Sx.E.again (i + 1, hi, _) (show i + 1 ≤ xs.length by omega) (show xs.length - (i + 1) < xs.length - i by omega) (fun a hA => (Sx.Ag.sub hA (by kernel_rfl))) (fun w' S => by
      have S := Sx.St.flat S 1 rfl x3 [.int .i64 x3] (fun w => Kit.own_mk_Int w _ _ x3)
      have S3 := Sx.St.close S (by decide) xs.length xs.length (by simp [List.length_take]; omega) hmc
      rw [hx3] at S3
      rw [show xs.take i ++ xs[i] :: List.replicate (xs.length - (i + 1)) (0 : Int) = xs.take (i + 1) ++ List.replicate (xs.length - (i + 1)) (0 : Int) by rw [Kit.take_step hlt, List.append_assoc]; rfl] at S3
      exact S3
      )

set_option maxRecDepth 100000 in
set_option maxHeartbeats 4000000 in
theorem keq_SlotS (xs : (List (Int × Int))) (A : Option Addr) (c : Nat) (B : Option Addr) (d : Nat) (w : World) (hc : (rLsw (rPair rInt rInt)).cap xs) (h : rdLst (rPair rInt rInt) w 0 w.heap.size xs [.slice A xs.length c]) (j : rdLst (rPair rInt rInt) w 0 w.heap.size xs [.slice B xs.length d]) : Calls Try.prog 52 #[.slice A xs.length c, .slice B xs.length d] w (fun e w' => e = .returned (.bool true) ∧ Below w.heap.size w w') := by
  obtain ⟨hl, hce⟩ := hc
  refine Sx.enter (args := [.slice A xs.length c, .slice B xs.length d]) Try.func52 rfl Try.ntmps52 rfl ?_
  refine Sx.C.seq (Sx.C.region ?_)
  refine Sx.G.p (.bool false) ?_
  refine Sx.G.nil (Sx.E.next (Sx.C.seq (Sx.C.seq (Sx.C.region ?_))))
  refine Sx.G.p (.slice A xs.length c) ?_
  refine Sx.G.p (.int .i64 ((xs.length : Nat) : Int)) ?_
  refine Sx.G.p (.slice B xs.length d) ?_
  refine Sx.G.p (.int .i64 ((xs.length : Nat) : Int)) ?_
  refine Sx.G.q (.bool (((xs.length : Nat) : Int) != ((xs.length : Nat) : Int))) (.bool false) (congrArg Value.bool (bne_self_eq_false _)) ?_
  refine Sx.G.nil (Sx.E.next ?_)
  refine Sx.C.nn ?_
  refine Sx.C.skip (Sx.E.next (Sx.C.seq (Sx.C.seq (Sx.C.region ?_))))
  refine Sx.G.p (.int .i64 0) ?_
  refine Sx.G.nil (Sx.E.next (Sx.C.block ?_))
  refine Sx.C.loop (α := Nat) (fun i => i ≤ xs.length) (fun i => [(5, .int .i64 (i : Int)), (0, .slice A xs.length c), (1, .slice B xs.length d), (4, .bool false)]) (fun i => []) (fun i => xs.length - i) 0 (Nat.zero_le _) (fun a hA => (Sx.Ag.sub hA (by kernel_rfl))) (fun w S => S) (fun i hx => ?_)
  refine Sx.C.seq (Sx.C.seq (Sx.C.region ?_))
  refine Sx.G.p (.int .i64 (i : Int)) ?_
  refine Sx.G.p (.slice A xs.length c) ?_
  refine Sx.G.p (.int .i64 ((xs.length : Nat) : Int)) ?_
  refine Sx.G.p (.bool (decide ((i : Int) < ((xs.length : Nat) : Int)))) ?_
  refine Sx.G.nil (Sx.E.next ?_)
  cases hc1 : (decide ((i : Int) < ((xs.length : Nat) : Int)))
  · have hb1 := hc1
    replace hc1 := of_decide_eq_false hc1
    refine Sx.C.nn ?_
    refine Sx.C.exit (Sx.E.then_exit (Sx.E.then_exit (Sx.E.block_hit (Sx.E.next (Sx.C.seq (Sx.C.region ?_))))))
    refine Sx.G.p (.bool true) ?_
    refine Sx.G.nil (Sx.E.next (Sx.C.ret ?_))
    refine Sx.E.ret1 (.bool true) rfl (by kernel_rfl) (fun w S => ?_)
    exact ⟨rfl, S.below⟩
  · have hb1 := hc1
    replace hc1 := of_decide_eq_true hc1
    refine Sx.C.yy ?_
    refine Sx.C.skip (Sx.E.next (Sx.C.seq (Sx.C.block (Sx.C.seq ?_))))
    refine Sx.C.draw (.take 0 (.take 1 (.take 2 (.take 3 (.take 4 (.take 5 (.take 6 (.take 7 (.alone 8 (.take 9 .nil)))))))))) [] (fun w S => St.pick S [] _ rfl (by decide)) (by kernel_rfl) (by kernel_rfl) (by kernel_rfl) ?_
    refine Sx.GT.p (.slice A xs.length c) ?_
    refine Sx.GT.p (.int .i64 (i : Int)) ?_
    obtain ⟨b2, f2, es2, eA2, hr2, hl2, hm2⟩ := Sx.old_elem (by decide) h i (by omega)
    subst eA2
    obtain ⟨x2, hx2⟩ : ∃ z_, z_ = (xs[i]'(by omega)) := ⟨_, rfl⟩
    rw [← hx2] at hr2
    obtain rfl := Kit.rd_Slot hr2
    refine Sx.GT.elem 48 91 (.tmp 17) (.tmp 18) 2 16 b2 f2 xs.length c i 2 (by rfl) (by rfl) (by kernel_rfl) (by kernel_rfl) (by kernel_rfl) (by kernel_rfl) (by omega) ?_
    refine Sx.GT.ldr 91 (.tmp 19) b2 (f2 + i * 2) [.int .i64 x2.1, .int .i64 x2.2] 3 (by rfl) (by rfl) (by kernel_rfl) (by kernel_rfl) (fun w S => hm2 w _ S) (by kernel_rfl) (by kernel_rfl) ?_
    refine Sx.GT.p (.slice B xs.length d) ?_
    refine Sx.GT.p (.int .i64 (i : Int)) ?_
    obtain ⟨b3, f3, es3, eA3, hr3, hl3, hm3⟩ := Sx.old_elem (by decide) j i (by omega)
    subst eA3
    rw [← hx2] at hr3
    obtain rfl := Kit.rd_Slot hr3
    refine Sx.GT.elem 48 91 (.tmp 21) (.tmp 22) 2 16 b3 f3 xs.length d i 6 (by rfl) (by rfl) (by kernel_rfl) (by kernel_rfl) (by kernel_rfl) (by kernel_rfl) (by omega) ?_
    refine Sx.GT.ldr 91 (.tmp 23) b3 (f3 + i * 2) [.int .i64 x2.1, .int .i64 x2.2] 7 (by rfl) (by rfl) (by kernel_rfl) (by kernel_rfl) (fun w S => hm3 w _ S) (by kernel_rfl) (by kernel_rfl) ?_
    refine Sx.GT.alone (Sx.Alone.cp 59 #[.agg #[.int .i64 x2.1, .int .i64 x2.2], .agg #[.int .i64 x2.1, .int .i64 x2.2]] (.bool true) (fun w S => by exact Kit.keq_Slot x2 _) (fun w S => St.pick S [] _ rfl (by decide)) ?_)
    refine Sx.GT.p (.bool false) ?_
    refine Sx.GT.nil (Sx.E.next ?_)
    refine Sx.C.nn ?_
    refine Sx.C.skip (Sx.E.block_normal (Sx.E.next (Sx.C.region ?_)))
    refine Sx.G.p (.int .i64 (i : Int)) ?_
    refine Sx.G.q (.int .i64 (IntKind.i64.wrap ((i : Int) + 1))) (.int .i64 ((i + 1 : Nat) : Int)) (congrArg (Value.int .i64) (Sx.wrap_up i (by omega))) ?_
    refine Sx.G.p (.int .i64 ((i + 1 : Nat) : Int)) ?_
    refine Sx.G.nil ?_
    exact Sx.E.again (i + 1) (by omega) (by omega) (fun a hA => (Sx.Ag.sub hA (by kernel_rfl))) (fun w S => S)

set_option maxRecDepth 100000 in
set_option maxHeartbeats 4000000 in
theorem ksz_SlotS (xs : (List (Int × Int))) (A : Option Addr) (c : Nat) (left : Int) (w : World) (hw : (rLsw (rPair rInt rInt)).wf xs) (h0 : 0 ≤ left) (h1 : left ≤ 1048576) (h : rdLst (rPair rInt rInt) w 0 w.heap.size xs [.slice A xs.length c]) : Calls Try.prog 46 #[.slice A xs.length c, .int .i64 left] w (fun e w' => ∃ l, e = .returned (.int .i64 l) ∧ Kit.Sz left ((rLsw (rPair rInt rInt)).size xs) l ∧ Below w.heap.size w w') := by
  obtain ⟨hl, hwe⟩ := hw
  simp only [maxLen] at hl
  refine Sx.enter (args := [.slice A xs.length c, .int .i64 left]) Try.func46 rfl Try.ntmps46 rfl ?_
  refine Sx.C.seq (Sx.C.region ?_)
  refine Sx.G.p (.int .i64 0) ?_
  refine Sx.G.nil (Sx.E.next (Sx.C.seq (Sx.C.region ?_)))
  refine Sx.G.p (.int .i64 left) ?_
  refine Sx.G.p (.slice A xs.length c) ?_
  refine Sx.G.p (.int .i64 ((xs.length : Nat) : Int)) ?_
  refine Sx.G.q (.int .i64 (IntKind.i64.wrap (left - ((xs.length : Nat) : Int)))) (.int .i64 (left - ((xs.length : Nat) : Int))) (congrArg (Value.int .i64) (by rw [IntKind.wrap_i64]; omega)) ?_
  refine Sx.G.p (.int .i64 (left - ((xs.length : Nat) : Int))) ?_
  refine Sx.G.nil (Sx.E.next (Sx.C.seq (Sx.C.seq (Sx.C.region ?_))))
  refine Sx.G.p (.int .i64 (left - ((xs.length : Nat) : Int))) ?_
  refine Sx.G.p (.bool (decide ((left - ((xs.length : Nat) : Int)) < 0))) ?_
  refine Sx.G.nil (Sx.E.next ?_)
  cases hc1 : (decide ((left - ((xs.length : Nat) : Int)) < 0))
  · have hb1 := hc1
    replace hc1 := of_decide_eq_false hc1
    refine Sx.C.nn ?_
    refine Sx.C.skip (Sx.E.next (Sx.C.seq (Sx.C.region ?_)))
    refine Sx.G.p (.int .i64 (left - ((xs.length : Nat) : Int))) ?_
    refine Sx.G.p (.int .i64 (left - ((xs.length : Nat) : Int))) ?_
    refine Sx.G.nil (Sx.E.next (Sx.C.ret ?_))
    refine Sx.E.ret1 (.int .i64 (left - ((xs.length : Nat) : Int))) rfl (by kernel_rfl) (fun w S => ?_)
    exact ⟨_, rfl, show Kit.Sz left (xs.length + sizeAll (rPair rInt rInt) xs) _ by rw [sz0_Slot]; unfold Kit.Sz; omega, S.below⟩
  · have hb1 := hc1
    replace hc1 := of_decide_eq_true hc1
    refine Sx.C.yy ?_
    refine Sx.C.seq (Sx.C.region ?_)
    refine Sx.G.p (.int .i64 (-1)) ?_
    refine Sx.G.nil (Sx.E.next (Sx.C.ret (Sx.E.then_ret ?_)))
    refine Sx.E.ret1 (.int .i64 (-1)) rfl (by kernel_rfl) (fun w S => ?_)
    exact ⟨_, rfl, show Kit.Sz left (xs.length + sizeAll (rPair rInt rInt) xs) _ by rw [sz0_Slot]; unfold Kit.Sz; omega, S.below⟩

set_option maxRecDepth 100000 in
set_option maxHeartbeats 4000000 in
theorem kmk0_SlotS {w0 w : World} {lo hi : Nat} {R : List Res} (xs : (List (Int × Int))) (A : Option Addr) (c k : Nat) (F : List Nat) (hc : (rLsw (rPair rInt rInt)).cap xs) (hk : k + cntAll (rPair rInt rInt) xs ≤ 1000000000000) (S : St w0 w (ow (rLsw (rPair rInt rInt)) lo hi xs [.slice A xs.length c] F :: R)) : Calls Try.prog 40 #[.slice A xs.length c, .int .i64 ((k : Nat) : Int)] w fun e w' => e = .returned (.int .i64 ((k + cntAll (rPair rInt rInt) xs : Nat) : Int)) ∧ St w0 w' (ow (rLsw (rPair rInt rInt)) lo hi (mkAll (rPair rInt rInt) k xs) [.slice A xs.length c] F :: R) := by
  obtain ⟨hl, hce⟩ := hc
  refine Sx.enterS (args := [.slice A xs.length c, .int .i64 ((k : Nat) : Int)]) S Try.func40 rfl Try.ntmps40 rfl ?_
  refine Sx.C.seq (Sx.C.region ?_)
  refine Sx.G.p (.int .i64 0) ?_
  refine Sx.G.nil (Sx.E.next (Sx.C.seq (Sx.C.seq (Sx.C.region ?_))))
  refine Sx.G.p (.int .i64 0) ?_
  refine Sx.G.nil (Sx.E.next (Sx.C.block ?_))
  refine Sx.C.loop (α := Nat × Nat) (fun x => x.1 ≤ xs.length ∧ x.2 = k + cntAll (rPair rInt rInt) (xs.take x.1)) (fun x => [(5, .int .i64 (x.1 : Int)), (1, .int .i64 ((x.2 : Nat) : Int)), (0, .slice A xs.length c), (4, .int .i64 0)]) (fun x => (ow (rLsw (rPair rInt rInt)) lo hi (mkAll (rPair rInt rInt) k (xs.take x.1) ++ xs.drop x.1) [.slice A xs.length c] F :: R)) (fun x => xs.length - x.1) (0, k) (by refine ⟨Nat.zero_le _, ?_⟩; simp [cntAll]) (fun a hA => (Sx.Ag.sub hA (by kernel_rfl))) (fun w S => S) (fun x hx => ?_)
  obtain ⟨i, q⟩ := x
  dsimp only at hx
  obtain ⟨hi', hq⟩ := hx
  have hqm := Kit.cnt_le (r := (rPair rInt rInt)) (xs := xs) i
  refine Sx.C.seq (Sx.C.seq (Sx.C.region ?_))
  refine Sx.G.p (.int .i64 (i : Int)) ?_
  refine Sx.G.p (.slice A xs.length c) ?_
  refine Sx.G.p (.int .i64 ((xs.length : Nat) : Int)) ?_
  refine Sx.G.p (.bool (decide ((i : Int) < ((xs.length : Nat) : Int)))) ?_
  refine Sx.G.nil (Sx.E.next ?_)
  cases hc1 : (decide ((i : Int) < ((xs.length : Nat) : Int)))
  · have hb1 := hc1
    replace hc1 := of_decide_eq_false hc1
    refine Sx.C.nn ?_
    refine Sx.C.exit (Sx.E.then_exit (Sx.E.then_exit (Sx.E.block_hit (Sx.E.next (Sx.C.seq (Sx.C.region ?_))))))
    refine Sx.G.p (.int .i64 ((q : Nat) : Int)) ?_
    refine Sx.G.p (.int .i64 ((q : Nat) : Int)) ?_
    refine Sx.G.nil (Sx.E.next (Sx.C.ret ?_))
    refine Sx.E.ret1 (.int .i64 ((q : Nat) : Int)) rfl (by kernel_rfl) (fun w S => ?_)
    have h2' : xs.take i = xs := List.take_of_length_le (by omega)
    have h3' : xs.drop i = [] := List.drop_of_length_le (by omega)
    rw [h2'] at hq
    rw [h2', h3', List.append_nil] at S
    subst hq
    exact ⟨rfl, S⟩
  · have hb1 := hc1
    replace hc1 := of_decide_eq_true hc1
    refine Sx.C.yy ?_
    refine Sx.C.skip (Sx.E.next (Sx.C.seq ?_))
    have hlt : i < xs.length := by omega
    obtain ⟨x1, hx1⟩ : ∃ x, x = xs[i] := ⟨_, rfl⟩
    have hm1 : x1 ∈ xs := hx1 ▸ List.getElem_mem _
    refine Sx.C.open (r := (rPair rInt rInt)) (pre := mkAll (rPair rInt rInt) k (xs.take i)) (x := x1) (post := xs.drop (i + 1)) (by rw [hx1, ← Kit.drop_step hlt]) (by decide) (fun b off es F1 Fi F2 eA eF hes hm hmc => ?_)
    subst eA eF
    refine Sx.C.know (p := es = [.int .i64 x1.1, .int .i64 x1.2] ∧ Fi = []) (fun w S => Kit.own_Slot (St.at_ S 1 rfl).1) ?_
    rintro ⟨rfl, rfl⟩
    refine Sx.C.block (Sx.C.seq (Sx.C.region ?_))
    refine Sx.G.p (.slice (some ⟨b, off, none⟩) xs.length c) ?_
    refine Sx.G.p (.int .i64 (i : Int)) ?_
    refine Sx.G.p (.int .i64 ((q : Nat) : Int)) ?_
    refine Sx.G.elem 48 91 (.tmp 12) (.tmp 13) 2 16 b off xs.length c i rfl (by kernel_rfl) (by kernel_rfl) (by kernel_rfl) (by kernel_rfl) (by omega) ?_
    refine Sx.G.p (.pointer (some ⟨b, (off + i * 2), none⟩)) ?_
    refine Sx.G.hsto (k := i) (size := 2) 3 (.tmp 16) (.tmp 14) b ((off + i * 2) + 0) 0 0 [.int .i64 ((q : Nat) : Int)] [.int .i64 ((q : Nat) : Int), .int .i64 x1.2] (Sx.hole (rPair rInt rInt) b off lo hi (mkAll (rPair rInt rInt) k (xs.take i)) (xs.drop (i + 1)) [.int .i64 ((q : Nat) : Int), .int .i64 x1.2] F1 F2 :: ow (rPair rInt rInt) lo hi x1 [.int .i64 x1.1, .int .i64 x1.2] [] :: R) rfl (by kernel_rfl) (by kernel_rfl) (by kernel_rfl) rfl (by rw [Kit.mk_len, List.length_take]; omega) rfl rfl rfl rfl (by kernel_rfl) (by kernel_rfl) (by kernel_rfl) ?_
    refine Sx.G.nil (Sx.E.next (Sx.C.seq (Sx.C.region ?_)))
    refine Sx.G.p (.int .i64 ((q : Nat) : Int)) ?_
    refine Sx.G.q (.int .i64 (IntKind.i64.wrap (((q : Nat) : Int) + 1))) (.int .i64 ((q + 1 : Nat) : Int)) (congrArg (Value.int .i64) (Sx.wrap_up q (by omega))) ?_
    refine Sx.G.p (.int .i64 ((q + 1 : Nat) : Int)) ?_
    refine Sx.G.nil (Sx.E.next (Sx.C.seq (Sx.C.region ?_)))
    refine Sx.G.p (.slice (some ⟨b, off, none⟩) xs.length c) ?_
    refine Sx.G.p (.int .i64 (i : Int)) ?_
    refine Sx.G.p (.int .i64 ((q + 1 : Nat) : Int)) ?_
    refine Sx.G.elem 48 91 (.tmp 19) (.tmp 20) 2 16 b off xs.length c i rfl (by kernel_rfl) (by kernel_rfl) (by kernel_rfl) (by kernel_rfl) (by omega) ?_
    refine Sx.G.p (.pointer (some ⟨b, (off + i * 2) + 1, none⟩)) ?_
    refine Sx.G.hsto (k := i) (size := 2) 3 (.tmp 23) (.tmp 21) b ((off + i * 2) + 1) 1 0 [.int .i64 ((q + 1 : Nat) : Int)] [.int .i64 ((q : Nat) : Int), .int .i64 ((q + 1 : Nat) : Int)] (Sx.hole (rPair rInt rInt) b off lo hi (mkAll (rPair rInt rInt) k (xs.take i)) (xs.drop (i + 1)) [.int .i64 ((q : Nat) : Int), .int .i64 ((q + 1 : Nat) : Int)] F1 F2 :: ow (rPair rInt rInt) lo hi x1 [.int .i64 x1.1, .int .i64 x1.2] [] :: R) rfl (by kernel_rfl) (by kernel_rfl) (by kernel_rfl) rfl (by rw [Kit.mk_len, List.length_take]; omega) rfl rfl rfl rfl (by kernel_rfl) (by kernel_rfl) (by kernel_rfl) ?_
    refine Sx.G.nil (Sx.E.next (Sx.C.region ?_))
    refine Sx.G.p (.int .i64 ((q + 1 : Nat) : Int)) ?_
    refine Sx.G.q (.int .i64 (IntKind.i64.wrap (((q + 1 : Nat) : Int) + 1))) (.int .i64 ((q + 2 : Nat) : Int)) (congrArg (Value.int .i64) (Sx.wrap_up (q + 1) (by omega))) ?_
    refine Sx.G.p (.int .i64 ((q + 2 : Nat) : Int)) ?_
    refine Sx.G.nil (Sx.E.block_normal (Sx.E.next (Sx.C.region ?_)))
    refine Sx.G.p (.int .i64 (i : Int)) ?_
    refine Sx.G.q (.int .i64 (IntKind.i64.wrap ((i : Int) + 1))) (.int .i64 ((i + 1 : Nat) : Int)) (congrArg (Value.int .i64) (Sx.wrap_up i (by omega))) ?_
    refine Sx.G.p (.int .i64 ((i + 1 : Nat) : Int)) ?_
    refine Sx.G.nil ?_
    exact Sx.E.again (i + 1, (q + 2 : Nat)) (by refine ⟨by omega, ?_⟩; show _ = k + cntAll (rPair rInt rInt) (xs.take (i + 1)); rw [Kit.cnt_step hlt, ← hx1, hq]; rfl) (show xs.length - (i + 1) < xs.length - i by omega) (fun a hA => (Sx.Ag.sub hA (by kernel_rfl))) (fun w S => by
      have S := Sx.St.flat S 1 rfl ((rPair rInt rInt).mark q x1) [.int .i64 ((q : Nat) : Int), .int .i64 ((q + 1 : Nat) : Int)] (fun w => Kit.own_mk_Slot w lo hi ((rPair rInt rInt).mark q x1))
      have S3 := Sx.St.close S (by decide) xs.length c (by simp [Kit.mk_len, List.length_take, List.length_drop]; omega) hmc
      rw [hq, hx1, Kit.mk_step k hlt] at S3
      exact S3
      )
theorem kmk_SlotS {w0 w : World} {lo hi : Nat} {L : List Res} (xs : (List (Int × Int))) (A : Option Addr) (c k : Nat) (F : List Nat) (hc : (rLsw (rPair rInt rInt)).cap xs) (hk : k + cntAll (rPair rInt rInt) xs ≤ 1000000000000) (S : St w0 w L) (i : Nat) (hi' : L[i]? = some (ow (rLsw (rPair rInt rInt)) lo hi xs [.slice A xs.length c] F)) : Calls Try.prog 40 #[.slice A xs.length c, .int .i64 ((k : Nat) : Int)] w fun e w' => e = .returned (.int .i64 ((k + cntAll (rPair rInt rInt) xs : Nat) : Int)) ∧ St w0 w' (L.set i (ow (rLsw (rPair rInt rInt)) lo hi (mkAll (rPair rInt rInt) k xs) [.slice A xs.length c] F)) :=
  anywhere (fun R S => kmk0_SlotS xs A c k F hc hk S) S i hi'

set_option maxRecDepth 100000 in
set_option maxHeartbeats 4000000 in
theorem kto_SlotS (xs : (List (Int × Int))) (A : Option Addr) (c : Nat) (w : World) (hc : (rLsw (rPair rInt rInt)).cap xs) (h : rdLst (rPair rInt rInt) w 0 w.heap.size xs [.slice A xs.length c]) : Calls Try.prog 48 #[.slice A xs.length c] w (Gives (rLsw (rPair rInt rInt)) w xs) := by
  obtain ⟨hl, hce⟩ := hc
  refine Sx.enter (args := [.slice A xs.length c]) Try.func48 rfl Try.ntmps48 rfl ?_
  refine Sx.C.seq (Sx.C.region ?_)
  refine Sx.G.p (.slice none 0 0) ?_
  refine Sx.G.nil (Sx.E.next (Sx.C.seq (Sx.C.region ?_)))
  refine Sx.G.p (.slice A xs.length c) ?_
  refine Sx.G.p (.int .i64 ((xs.length : Nat) : Int)) ?_
  refine Sx.G.mks (r := (rPair rInt rInt)) ((0, 0) : (Int × Int)) [.int .i64 0, .int .i64 0] 48 91 (.tmp 6) (.tmp 6) 2 16 xs.length rfl (by kernel_rfl) (by kernel_rfl) (by kernel_rfl) rfl rfl (fun w lo hi => Kit.own_mk_Slot w lo hi (0, 0)) (by kernel_rfl) (by kernel_rfl) (by simp only [maxLen]; omega) (by omega) (fun b1 hi1 F1 => ?_)
  refine Sx.G.p (.slice (some ⟨b1, 0, none⟩) xs.length xs.length) ?_
  refine Sx.G.nil (Sx.E.next (Sx.C.seq (Sx.C.seq (Sx.C.region ?_))))
  refine Sx.G.p (.int .i64 0) ?_
  refine Sx.G.nil (Sx.E.next (Sx.C.block ?_))
  refine Sx.C.loop (α := Nat × Nat × List Nat) (fun x => x.1 ≤ xs.length) (fun x => [(4, .int .i64 (x.1 : Int)), (0, .slice A xs.length c), (2, .slice none 0 0), (3, .slice (some ⟨b1, 0, none⟩) xs.length xs.length)]) (fun x => [ow (rLsw (rPair rInt rInt)) w.heap.size x.2.1 (xs.take x.1 ++ List.replicate (xs.length - x.1) ((0, 0) : (Int × Int))) [.slice (some ⟨b1, 0, none⟩) xs.length xs.length] x.2.2]) (fun x => xs.length - x.1) (0, hi1, F1) (Nat.zero_le _) (fun a hA => (Sx.Ag.sub hA (by kernel_rfl))) (fun w' S => by have S2 := Sx.St.widen S 0 rfl (Nat.le_refl _) (S.hi 0 _ rfl); exact S2) (fun x hx => ?_)
  obtain ⟨i, hi, F⟩ := x
  dsimp only at hx
  obtain hi' := hx
  refine Sx.C.seq (Sx.C.seq (Sx.C.region ?_))
  refine Sx.G.p (.int .i64 (i : Int)) ?_
  refine Sx.G.p (.slice A xs.length c) ?_
  refine Sx.G.p (.int .i64 ((xs.length : Nat) : Int)) ?_
  refine Sx.G.p (.bool (decide ((i : Int) < ((xs.length : Nat) : Int)))) ?_
  refine Sx.G.nil (Sx.E.next ?_)
  cases hc2 : (decide ((i : Int) < ((xs.length : Nat) : Int)))
  · have hb2 := hc2
    replace hc2 := of_decide_eq_false hc2
    refine Sx.C.nn ?_
    refine Sx.C.exit (Sx.E.then_exit (Sx.E.then_exit (Sx.E.block_hit (Sx.E.next (Sx.C.seq (Sx.C.region ?_))))))
    refine Sx.G.p (.slice (some ⟨b1, 0, none⟩) xs.length xs.length) ?_
    refine Sx.G.p (.slice (some ⟨b1, 0, none⟩) xs.length xs.length) ?_
    refine Sx.G.nil (Sx.E.next (Sx.C.ret ?_))
    refine Sx.E.ret1 (.slice (some ⟨b1, 0, none⟩) xs.length xs.length) rfl (by kernel_rfl) (fun w S => ?_)
    have h2' : xs.take i = xs := List.take_of_length_le (by omega)
    rw [h2', show xs.length - i = 0 by omega, List.replicate_zero, List.append_nil] at S
    exact ⟨[_], F, rfl, S.own 0 rfl, S.nodup 0 rfl, S.below⟩
  · have hb2 := hc2
    replace hc2 := of_decide_eq_true hc2
    refine Sx.C.yy ?_
    refine Sx.C.skip (Sx.E.next (Sx.C.seq ?_))
    have hlt : i < xs.length := by omega
    refine Sx.C.open (r := (rPair rInt rInt)) (pre := xs.take i) (x := ((0, 0) : (Int × Int))) (post := List.replicate (xs.length - (i + 1)) ((0, 0) : (Int × Int))) (by rw [show xs.length - i = (xs.length - (i + 1)) + 1 by omega, List.replicate_succ]) (by decide) (fun b off es F1 Fi F2 eA eF hes hm hmc => ?_)
    obtain ⟨rfl, rfl⟩ : b1 = b ∧ 0 = off := by cases eA; exact ⟨rfl, rfl⟩
    subst eF
    refine Sx.C.know (p := es = [.int .i64 0, .int .i64 0] ∧ Fi = []) (fun w S => Kit.own_Slot (St.at_ S 1 rfl).1) ?_
    rintro ⟨rfl, rfl⟩
    refine Sx.C.block (Sx.C.region ?_)
    refine Sx.G.p (.slice (some ⟨b1, 0, none⟩) xs.length xs.length) ?_
    refine Sx.G.p (.int .i64 (i : Int)) ?_
    refine Sx.G.p (.slice A xs.length c) ?_
    refine Sx.G.p (.int .i64 (i : Int)) ?_
    obtain ⟨b3, f3, es3, eA3, hr3, hl3, hm3⟩ := Sx.old_elem (by decide) h i (by omega)
    subst eA3
    obtain ⟨x3, hx3⟩ : ∃ z_, z_ = (xs[i]'(by omega)) := ⟨_, rfl⟩
    rw [← hx3] at hr3
    obtain rfl := Kit.rd_Slot hr3
    refine Sx.G.elem 63 98 (.tmp 16) (.tmp 17) 2 16 b3 f3 xs.length c i rfl (by kernel_rfl) (by kernel_rfl) (by kernel_rfl) (by kernel_rfl) (by omega) ?_
    refine Sx.G.ldr 98 (.tmp 18) b3 (f3 + i * 2) [.int .i64 x3.1, .int .i64 x3.2] rfl (by kernel_rfl) (by kernel_rfl) (fun w S => hm3 w _ S) (by kernel_rfl) (by kernel_rfl) ?_
    refine Sx.G.cp 57 #[.agg #[.int .i64 x3.1, .int .i64 x3.2]] (.agg #[.int .i64 x3.1, .int .i64 x3.2]) (fun w S => by exact Kit.kto_Slot x3 _) ?_
    refine Sx.G.elem 48 91 (.tmp 14) (.tmp 15) 2 16 b1 0 xs.length xs.length i rfl (by kernel_rfl) (by kernel_rfl) (by kernel_rfl) (by kernel_rfl) (by omega) ?_
    refine Sx.G.hw i [.int .i64 x3.1, .int .i64 x3.2] .a0 (by rw [List.length_take]; omega) ?_
    refine Sx.G.nil (Sx.E.block_normal (Sx.E.next (Sx.C.region ?_)))
    refine Sx.G.p (.int .i64 (i : Int)) ?_
    refine Sx.G.q (.int .i64 (IntKind.i64.wrap ((i : Int) + 1))) (.int .i64 ((i + 1 : Nat) : Int)) (congrArg (Value.int .i64) (Sx.wrap_up i (by omega))) ?_
    refine Sx.G.p (.int .i64 ((i + 1 : Nat) : Int)) ?_
    refine Sx.G.nil ?_
    exact Sx.E.again (i + 1, hi, _) (show i + 1 ≤ xs.length by omega) (show xs.length - (i + 1) < xs.length - i by omega) (fun a hA => (Sx.Ag.sub hA (by kernel_rfl))) (fun w' S => by
      have S := Sx.St.flat S 1 rfl x3 [.int .i64 x3.1, .int .i64 x3.2] (fun w => Kit.own_mk_Slot w _ _ x3)
      have S3 := Sx.St.close S (by decide) xs.length xs.length (by simp [List.length_take]; omega) hmc
      rw [hx3] at S3
      rw [show xs.take i ++ xs[i] :: List.replicate (xs.length - (i + 1)) ((0, 0) : (Int × Int)) = xs.take (i + 1) ++ List.replicate (xs.length - (i + 1)) ((0, 0) : (Int × Int)) by rw [Kit.take_step hlt, List.append_assoc]; rfl] at S3
      exact S3
      )

set_option maxRecDepth 100000 in
set_option maxHeartbeats 4000000 in
theorem keq_InsS (xs : (List (Int × Int))) (A : Option Addr) (c : Nat) (B : Option Addr) (d : Nat) (w : World) (hc : (rLsw (rPair rInt rInt)).cap xs) (h : rdLst (rPair rInt rInt) w 0 w.heap.size xs [.slice A xs.length c]) (j : rdLst (rPair rInt rInt) w 0 w.heap.size xs [.slice B xs.length d]) : Calls Try.prog 51 #[.slice A xs.length c, .slice B xs.length d] w (fun e w' => e = .returned (.bool true) ∧ Below w.heap.size w w') := by
  obtain ⟨hl, hce⟩ := hc
  refine Sx.enter (args := [.slice A xs.length c, .slice B xs.length d]) Try.func51 rfl Try.ntmps51 rfl ?_
  refine Sx.C.seq (Sx.C.region ?_)
  refine Sx.G.p (.bool false) ?_
  refine Sx.G.nil (Sx.E.next (Sx.C.seq (Sx.C.seq (Sx.C.region ?_))))
  refine Sx.G.p (.slice A xs.length c) ?_
  refine Sx.G.p (.int .i64 ((xs.length : Nat) : Int)) ?_
  refine Sx.G.p (.slice B xs.length d) ?_
  refine Sx.G.p (.int .i64 ((xs.length : Nat) : Int)) ?_
  refine Sx.G.q (.bool (((xs.length : Nat) : Int) != ((xs.length : Nat) : Int))) (.bool false) (congrArg Value.bool (bne_self_eq_false _)) ?_
  refine Sx.G.nil (Sx.E.next ?_)
  refine Sx.C.nn ?_
  refine Sx.C.skip (Sx.E.next (Sx.C.seq (Sx.C.seq (Sx.C.region ?_))))
  refine Sx.G.p (.int .i64 0) ?_
  refine Sx.G.nil (Sx.E.next (Sx.C.block ?_))
  refine Sx.C.loop (α := Nat) (fun i => i ≤ xs.length) (fun i => [(5, .int .i64 (i : Int)), (0, .slice A xs.length c), (1, .slice B xs.length d), (4, .bool false)]) (fun i => []) (fun i => xs.length - i) 0 (Nat.zero_le _) (fun a hA => (Sx.Ag.sub hA (by kernel_rfl))) (fun w S => S) (fun i hx => ?_)
  refine Sx.C.seq (Sx.C.seq (Sx.C.region ?_))
  refine Sx.G.p (.int .i64 (i : Int)) ?_
  refine Sx.G.p (.slice A xs.length c) ?_
  refine Sx.G.p (.int .i64 ((xs.length : Nat) : Int)) ?_
  refine Sx.G.p (.bool (decide ((i : Int) < ((xs.length : Nat) : Int)))) ?_
  refine Sx.G.nil (Sx.E.next ?_)
  cases hc1 : (decide ((i : Int) < ((xs.length : Nat) : Int)))
  · have hb1 := hc1
    replace hc1 := of_decide_eq_false hc1
    refine Sx.C.nn ?_
    refine Sx.C.exit (Sx.E.then_exit (Sx.E.then_exit (Sx.E.block_hit (Sx.E.next (Sx.C.seq (Sx.C.region ?_))))))
    refine Sx.G.p (.bool true) ?_
    refine Sx.G.nil (Sx.E.next (Sx.C.ret ?_))
    refine Sx.E.ret1 (.bool true) rfl (by kernel_rfl) (fun w S => ?_)
    exact ⟨rfl, S.below⟩
  · have hb1 := hc1
    replace hc1 := of_decide_eq_true hc1
    refine Sx.C.yy ?_
    refine Sx.C.skip (Sx.E.next (Sx.C.seq (Sx.C.block (Sx.C.seq ?_))))
    refine Sx.C.draw (.take 0 (.take 1 (.take 2 (.take 3 (.take 4 (.take 5 (.take 6 (.take 7 (.alone 8 (.take 9 .nil)))))))))) [] (fun w S => St.pick S [] _ rfl (by decide)) (by kernel_rfl) (by kernel_rfl) (by kernel_rfl) ?_
    refine Sx.GT.p (.slice A xs.length c) ?_
    refine Sx.GT.p (.int .i64 (i : Int)) ?_
    obtain ⟨b2, f2, es2, eA2, hr2, hl2, hm2⟩ := Sx.old_elem (by decide) h i (by omega)
    subst eA2
    obtain ⟨x2, hx2⟩ : ∃ z_, z_ = (xs[i]'(by omega)) := ⟨_, rfl⟩
    rw [← hx2] at hr2
    obtain rfl := Kit.rd_Ins hr2
    refine Sx.GT.elem 47 89 (.tmp 17) (.tmp 18) 2 16 b2 f2 xs.length c i 2 (by rfl) (by rfl) (by kernel_rfl) (by kernel_rfl) (by kernel_rfl) (by kernel_rfl) (by omega) ?_
    refine Sx.GT.ldr 89 (.tmp 19) b2 (f2 + i * 2) [.int .i64 x2.1, .int .i64 x2.2] 3 (by rfl) (by rfl) (by kernel_rfl) (by kernel_rfl) (fun w S => hm2 w _ S) (by kernel_rfl) (by kernel_rfl) ?_
    refine Sx.GT.p (.slice B xs.length d) ?_
    refine Sx.GT.p (.int .i64 (i : Int)) ?_
    obtain ⟨b3, f3, es3, eA3, hr3, hl3, hm3⟩ := Sx.old_elem (by decide) j i (by omega)
    subst eA3
    rw [← hx2] at hr3
    obtain rfl := Kit.rd_Ins hr3
    refine Sx.GT.elem 47 89 (.tmp 21) (.tmp 22) 2 16 b3 f3 xs.length d i 6 (by rfl) (by rfl) (by kernel_rfl) (by kernel_rfl) (by kernel_rfl) (by kernel_rfl) (by omega) ?_
    refine Sx.GT.ldr 89 (.tmp 23) b3 (f3 + i * 2) [.int .i64 x2.1, .int .i64 x2.2] 7 (by rfl) (by rfl) (by kernel_rfl) (by kernel_rfl) (fun w S => hm3 w _ S) (by kernel_rfl) (by kernel_rfl) ?_
    refine Sx.GT.alone (Sx.Alone.cp 58 #[.agg #[.int .i64 x2.1, .int .i64 x2.2], .agg #[.int .i64 x2.1, .int .i64 x2.2]] (.bool true) (fun w S => by exact Kit.keq_Ins x2 _) (fun w S => St.pick S [] _ rfl (by decide)) ?_)
    refine Sx.GT.p (.bool false) ?_
    refine Sx.GT.nil (Sx.E.next ?_)
    refine Sx.C.nn ?_
    refine Sx.C.skip (Sx.E.block_normal (Sx.E.next (Sx.C.region ?_)))
    refine Sx.G.p (.int .i64 (i : Int)) ?_
    refine Sx.G.q (.int .i64 (IntKind.i64.wrap ((i : Int) + 1))) (.int .i64 ((i + 1 : Nat) : Int)) (congrArg (Value.int .i64) (Sx.wrap_up i (by omega))) ?_
    refine Sx.G.p (.int .i64 ((i + 1 : Nat) : Int)) ?_
    refine Sx.G.nil ?_
    exact Sx.E.again (i + 1) (by omega) (by omega) (fun a hA => (Sx.Ag.sub hA (by kernel_rfl))) (fun w S => S)

set_option maxRecDepth 100000 in
set_option maxHeartbeats 4000000 in
theorem ksz_InsS (xs : (List (Int × Int))) (A : Option Addr) (c : Nat) (left : Int) (w : World) (hw : (rLsw (rPair rInt rInt)).wf xs) (h0 : 0 ≤ left) (h1 : left ≤ 1048576) (h : rdLst (rPair rInt rInt) w 0 w.heap.size xs [.slice A xs.length c]) : Calls Try.prog 45 #[.slice A xs.length c, .int .i64 left] w (fun e w' => ∃ l, e = .returned (.int .i64 l) ∧ Kit.Sz left ((rLsw (rPair rInt rInt)).size xs) l ∧ Below w.heap.size w w') := by
  obtain ⟨hl, hwe⟩ := hw
  simp only [maxLen] at hl
  refine Sx.enter (args := [.slice A xs.length c, .int .i64 left]) Try.func45 rfl Try.ntmps45 rfl ?_
  refine Sx.C.seq (Sx.C.region ?_)
  refine Sx.G.p (.int .i64 0) ?_
  refine Sx.G.nil (Sx.E.next (Sx.C.seq (Sx.C.region ?_)))
  refine Sx.G.p (.int .i64 left) ?_
  refine Sx.G.p (.slice A xs.length c) ?_
  refine Sx.G.p (.int .i64 ((xs.length : Nat) : Int)) ?_
  refine Sx.G.q (.int .i64 (IntKind.i64.wrap (left - ((xs.length : Nat) : Int)))) (.int .i64 (left - ((xs.length : Nat) : Int))) (congrArg (Value.int .i64) (by rw [IntKind.wrap_i64]; omega)) ?_
  refine Sx.G.p (.int .i64 (left - ((xs.length : Nat) : Int))) ?_
  refine Sx.G.nil (Sx.E.next (Sx.C.seq (Sx.C.seq (Sx.C.region ?_))))
  refine Sx.G.p (.int .i64 (left - ((xs.length : Nat) : Int))) ?_
  refine Sx.G.p (.bool (decide ((left - ((xs.length : Nat) : Int)) < 0))) ?_
  refine Sx.G.nil (Sx.E.next ?_)
  cases hc1 : (decide ((left - ((xs.length : Nat) : Int)) < 0))
  · have hb1 := hc1
    replace hc1 := of_decide_eq_false hc1
    refine Sx.C.nn ?_
    refine Sx.C.skip (Sx.E.next (Sx.C.seq (Sx.C.region ?_)))
    refine Sx.G.p (.int .i64 (left - ((xs.length : Nat) : Int))) ?_
    refine Sx.G.p (.int .i64 (left - ((xs.length : Nat) : Int))) ?_
    refine Sx.G.nil (Sx.E.next (Sx.C.ret ?_))
    refine Sx.E.ret1 (.int .i64 (left - ((xs.length : Nat) : Int))) rfl (by kernel_rfl) (fun w S => ?_)
    exact ⟨_, rfl, show Kit.Sz left (xs.length + sizeAll (rPair rInt rInt) xs) _ by rw [sz0_Ins]; unfold Kit.Sz; omega, S.below⟩
  · have hb1 := hc1
    replace hc1 := of_decide_eq_true hc1
    refine Sx.C.yy ?_
    refine Sx.C.seq (Sx.C.region ?_)
    refine Sx.G.p (.int .i64 (-1)) ?_
    refine Sx.G.nil (Sx.E.next (Sx.C.ret (Sx.E.then_ret ?_)))
    refine Sx.E.ret1 (.int .i64 (-1)) rfl (by kernel_rfl) (fun w S => ?_)
    exact ⟨_, rfl, show Kit.Sz left (xs.length + sizeAll (rPair rInt rInt) xs) _ by rw [sz0_Ins]; unfold Kit.Sz; omega, S.below⟩

set_option maxRecDepth 100000 in
set_option maxHeartbeats 4000000 in
theorem kmk0_InsS {w0 w : World} {lo hi : Nat} {R : List Res} (xs : (List (Int × Int))) (A : Option Addr) (c k : Nat) (F : List Nat) (hc : (rLsw (rPair rInt rInt)).cap xs) (hk : k + cntAll (rPair rInt rInt) xs ≤ 1000000000000) (S : St w0 w (ow (rLsw (rPair rInt rInt)) lo hi xs [.slice A xs.length c] F :: R)) : Calls Try.prog 39 #[.slice A xs.length c, .int .i64 ((k : Nat) : Int)] w fun e w' => e = .returned (.int .i64 ((k + cntAll (rPair rInt rInt) xs : Nat) : Int)) ∧ St w0 w' (ow (rLsw (rPair rInt rInt)) lo hi (mkAll (rPair rInt rInt) k xs) [.slice A xs.length c] F :: R) := by
  obtain ⟨hl, hce⟩ := hc
  refine Sx.enterS (args := [.slice A xs.length c, .int .i64 ((k : Nat) : Int)]) S Try.func39 rfl Try.ntmps39 rfl ?_
  refine Sx.C.seq (Sx.C.region ?_)
  refine Sx.G.p (.int .i64 0) ?_
  refine Sx.G.nil (Sx.E.next (Sx.C.seq (Sx.C.seq (Sx.C.region ?_))))
  refine Sx.G.p (.int .i64 0) ?_
  refine Sx.G.nil (Sx.E.next (Sx.C.block ?_))
  refine Sx.C.loop (α := Nat × Nat) (fun x => x.1 ≤ xs.length ∧ x.2 = k + cntAll (rPair rInt rInt) (xs.take x.1)) (fun x => [(5, .int .i64 (x.1 : Int)), (1, .int .i64 ((x.2 : Nat) : Int)), (0, .slice A xs.length c), (4, .int .i64 0)]) (fun x => (ow (rLsw (rPair rInt rInt)) lo hi (mkAll (rPair rInt rInt) k (xs.take x.1) ++ xs.drop x.1) [.slice A xs.length c] F :: R)) (fun x => xs.length - x.1) (0, k) (by refine ⟨Nat.zero_le _, ?_⟩; simp [cntAll]) (fun a hA => (Sx.Ag.sub hA (by kernel_rfl))) (fun w S => S) (fun x hx => ?_)
  obtain ⟨i, q⟩ := x
  dsimp only at hx
  obtain ⟨hi', hq⟩ := hx
  have hqm := Kit.cnt_le (r := (rPair rInt rInt)) (xs := xs) i
  refine Sx.C.seq (Sx.C.seq (Sx.C.region ?_))
  refine Sx.G.p (.int .i64 (i : Int)) ?_
  refine Sx.G.p (.slice A xs.length c) ?_
  refine Sx.G.p (.int .i64 ((xs.length : Nat) : Int)) ?_
  refine Sx.G.p (.bool (decide ((i : Int) < ((xs.length : Nat) : Int)))) ?_
  refine Sx.G.nil (Sx.E.next ?_)
  cases hc1 : (decide ((i : Int) < ((xs.length : Nat) : Int)))
  · have hb1 := hc1
    replace hc1 := of_decide_eq_false hc1
    refine Sx.C.nn ?_
    refine Sx.C.exit (Sx.E.then_exit (Sx.E.then_exit (Sx.E.block_hit (Sx.E.next (Sx.C.seq (Sx.C.region ?_))))))
    refine Sx.G.p (.int .i64 ((q : Nat) : Int)) ?_
    refine Sx.G.p (.int .i64 ((q : Nat) : Int)) ?_
    refine Sx.G.nil (Sx.E.next (Sx.C.ret ?_))
    refine Sx.E.ret1 (.int .i64 ((q : Nat) : Int)) rfl (by kernel_rfl) (fun w S => ?_)
    have h2' : xs.take i = xs := List.take_of_length_le (by omega)
    have h3' : xs.drop i = [] := List.drop_of_length_le (by omega)
    rw [h2'] at hq
    rw [h2', h3', List.append_nil] at S
    subst hq
    exact ⟨rfl, S⟩
  · have hb1 := hc1
    replace hc1 := of_decide_eq_true hc1
    refine Sx.C.yy ?_
    refine Sx.C.skip (Sx.E.next (Sx.C.seq ?_))
    have hlt : i < xs.length := by omega
    obtain ⟨x1, hx1⟩ : ∃ x, x = xs[i] := ⟨_, rfl⟩
    have hm1 : x1 ∈ xs := hx1 ▸ List.getElem_mem _
    refine Sx.C.open (r := (rPair rInt rInt)) (pre := mkAll (rPair rInt rInt) k (xs.take i)) (x := x1) (post := xs.drop (i + 1)) (by rw [hx1, ← Kit.drop_step hlt]) (by decide) (fun b off es F1 Fi F2 eA eF hes hm hmc => ?_)
    subst eA eF
    refine Sx.C.know (p := es = [.int .i64 x1.1, .int .i64 x1.2] ∧ Fi = []) (fun w S => Kit.own_Ins (St.at_ S 1 rfl).1) ?_
    rintro ⟨rfl, rfl⟩
    refine Sx.C.block (Sx.C.seq (Sx.C.region ?_))
    refine Sx.G.p (.slice (some ⟨b, off, none⟩) xs.length c) ?_
    refine Sx.G.p (.int .i64 (i : Int)) ?_
    refine Sx.G.p (.int .i64 ((q : Nat) : Int)) ?_
    refine Sx.G.elem 47 89 (.tmp 12) (.tmp 13) 2 16 b off xs.length c i rfl (by kernel_rfl) (by kernel_rfl) (by kernel_rfl) (by kernel_rfl) (by omega) ?_
    refine Sx.G.p (.pointer (some ⟨b, (off + i * 2), none⟩)) ?_
    refine Sx.G.hsto (k := i) (size := 2) 3 (.tmp 16) (.tmp 14) b ((off + i * 2) + 0) 0 0 [.int .i64 ((q : Nat) : Int)] [.int .i64 ((q : Nat) : Int), .int .i64 x1.2] (Sx.hole (rPair rInt rInt) b off lo hi (mkAll (rPair rInt rInt) k (xs.take i)) (xs.drop (i + 1)) [.int .i64 ((q : Nat) : Int), .int .i64 x1.2] F1 F2 :: ow (rPair rInt rInt) lo hi x1 [.int .i64 x1.1, .int .i64 x1.2] [] :: R) rfl (by kernel_rfl) (by kernel_rfl) (by kernel_rfl) rfl (by rw [Kit.mk_len, List.length_take]; omega) rfl rfl rfl rfl (by kernel_rfl) (by kernel_rfl) (by kernel_rfl) ?_
    refine Sx.G.nil (Sx.E.next (Sx.C.seq (Sx.C.region ?_)))
    refine Sx.G.p (.int .i64 ((q : Nat) : Int)) ?_
    refine Sx.G.q (.int .i64 (IntKind.i64.wrap (((q : Nat) : Int) + 1))) (.int .i64 ((q + 1 : Nat) : Int)) (congrArg (Value.int .i64) (Sx.wrap_up q (by omega))) ?_
    refine Sx.G.p (.int .i64 ((q + 1 : Nat) : Int)) ?_
    refine Sx.G.nil (Sx.E.next (Sx.C.seq (Sx.C.region ?_)))
    refine Sx.G.p (.slice (some ⟨b, off, none⟩) xs.length c) ?_
    refine Sx.G.p (.int .i64 (i : Int)) ?_
    refine Sx.G.p (.int .i64 ((q + 1 : Nat) : Int)) ?_
    refine Sx.G.elem 47 89 (.tmp 19) (.tmp 20) 2 16 b off xs.length c i rfl (by kernel_rfl) (by kernel_rfl) (by kernel_rfl) (by kernel_rfl) (by omega) ?_
    refine Sx.G.p (.pointer (some ⟨b, (off + i * 2) + 1, none⟩)) ?_
    refine Sx.G.hsto (k := i) (size := 2) 3 (.tmp 23) (.tmp 21) b ((off + i * 2) + 1) 1 0 [.int .i64 ((q + 1 : Nat) : Int)] [.int .i64 ((q : Nat) : Int), .int .i64 ((q + 1 : Nat) : Int)] (Sx.hole (rPair rInt rInt) b off lo hi (mkAll (rPair rInt rInt) k (xs.take i)) (xs.drop (i + 1)) [.int .i64 ((q : Nat) : Int), .int .i64 ((q + 1 : Nat) : Int)] F1 F2 :: ow (rPair rInt rInt) lo hi x1 [.int .i64 x1.1, .int .i64 x1.2] [] :: R) rfl (by kernel_rfl) (by kernel_rfl) (by kernel_rfl) rfl (by rw [Kit.mk_len, List.length_take]; omega) rfl rfl rfl rfl (by kernel_rfl) (by kernel_rfl) (by kernel_rfl) ?_
    refine Sx.G.nil (Sx.E.next (Sx.C.region ?_))
    refine Sx.G.p (.int .i64 ((q + 1 : Nat) : Int)) ?_
    refine Sx.G.q (.int .i64 (IntKind.i64.wrap (((q + 1 : Nat) : Int) + 1))) (.int .i64 ((q + 2 : Nat) : Int)) (congrArg (Value.int .i64) (Sx.wrap_up (q + 1) (by omega))) ?_
    refine Sx.G.p (.int .i64 ((q + 2 : Nat) : Int)) ?_
    refine Sx.G.nil (Sx.E.block_normal (Sx.E.next (Sx.C.region ?_)))
    refine Sx.G.p (.int .i64 (i : Int)) ?_
    refine Sx.G.q (.int .i64 (IntKind.i64.wrap ((i : Int) + 1))) (.int .i64 ((i + 1 : Nat) : Int)) (congrArg (Value.int .i64) (Sx.wrap_up i (by omega))) ?_
    refine Sx.G.p (.int .i64 ((i + 1 : Nat) : Int)) ?_
    refine Sx.G.nil ?_
    exact Sx.E.again (i + 1, (q + 2 : Nat)) (by refine ⟨by omega, ?_⟩; show _ = k + cntAll (rPair rInt rInt) (xs.take (i + 1)); rw [Kit.cnt_step hlt, ← hx1, hq]; rfl) (show xs.length - (i + 1) < xs.length - i by omega) (fun a hA => (Sx.Ag.sub hA (by kernel_rfl))) (fun w S => by
      have S := Sx.St.flat S 1 rfl ((rPair rInt rInt).mark q x1) [.int .i64 ((q : Nat) : Int), .int .i64 ((q + 1 : Nat) : Int)] (fun w => Kit.own_mk_Ins w lo hi ((rPair rInt rInt).mark q x1))
      have S3 := Sx.St.close S (by decide) xs.length c (by simp [Kit.mk_len, List.length_take, List.length_drop]; omega) hmc
      rw [hq, hx1, Kit.mk_step k hlt] at S3
      exact S3
      )
theorem kmk_InsS {w0 w : World} {lo hi : Nat} {L : List Res} (xs : (List (Int × Int))) (A : Option Addr) (c k : Nat) (F : List Nat) (hc : (rLsw (rPair rInt rInt)).cap xs) (hk : k + cntAll (rPair rInt rInt) xs ≤ 1000000000000) (S : St w0 w L) (i : Nat) (hi' : L[i]? = some (ow (rLsw (rPair rInt rInt)) lo hi xs [.slice A xs.length c] F)) : Calls Try.prog 39 #[.slice A xs.length c, .int .i64 ((k : Nat) : Int)] w fun e w' => e = .returned (.int .i64 ((k + cntAll (rPair rInt rInt) xs : Nat) : Int)) ∧ St w0 w' (L.set i (ow (rLsw (rPair rInt rInt)) lo hi (mkAll (rPair rInt rInt) k xs) [.slice A xs.length c] F)) :=
  anywhere (fun R S => kmk0_InsS xs A c k F hc hk S) S i hi'

set_option maxRecDepth 100000 in
set_option maxHeartbeats 4000000 in
theorem kto_InsS (xs : (List (Int × Int))) (A : Option Addr) (c : Nat) (w : World) (hc : (rLsw (rPair rInt rInt)).cap xs) (h : rdLst (rPair rInt rInt) w 0 w.heap.size xs [.slice A xs.length c]) : Calls Try.prog 47 #[.slice A xs.length c] w (Gives (rLsw (rPair rInt rInt)) w xs) := by
  obtain ⟨hl, hce⟩ := hc
  refine Sx.enter (args := [.slice A xs.length c]) Try.func47 rfl Try.ntmps47 rfl ?_
  refine Sx.C.seq (Sx.C.region ?_)
  refine Sx.G.p (.slice none 0 0) ?_
  refine Sx.G.nil (Sx.E.next (Sx.C.seq (Sx.C.region ?_)))
  refine Sx.G.p (.slice A xs.length c) ?_
  refine Sx.G.p (.int .i64 ((xs.length : Nat) : Int)) ?_
  refine Sx.G.mks (r := (rPair rInt rInt)) ((0, 0) : (Int × Int)) [.int .i64 0, .int .i64 0] 47 89 (.tmp 6) (.tmp 6) 2 16 xs.length rfl (by kernel_rfl) (by kernel_rfl) (by kernel_rfl) rfl rfl (fun w lo hi => Kit.own_mk_Ins w lo hi (0, 0)) (by kernel_rfl) (by kernel_rfl) (by simp only [maxLen]; omega) (by omega) (fun b1 hi1 F1 => ?_)
  refine Sx.G.p (.slice (some ⟨b1, 0, none⟩) xs.length xs.length) ?_
  refine Sx.G.nil (Sx.E.next (Sx.C.seq (Sx.C.seq (Sx.C.region ?_))))
  refine Sx.G.p (.int .i64 0) ?_
  refine Sx.G.nil (Sx.E.next (Sx.C.block ?_))
  refine Sx.C.loop (α := Nat × Nat × List Nat) (fun x => x.1 ≤ xs.length) (fun x => [(4, .int .i64 (x.1 : Int)), (0, .slice A xs.length c), (2, .slice none 0 0), (3, .slice (some ⟨b1, 0, none⟩) xs.length xs.length)]) (fun x => [ow (rLsw (rPair rInt rInt)) w.heap.size x.2.1 (xs.take x.1 ++ List.replicate (xs.length - x.1) ((0, 0) : (Int × Int))) [.slice (some ⟨b1, 0, none⟩) xs.length xs.length] x.2.2]) (fun x => xs.length - x.1) (0, hi1, F1) (Nat.zero_le _) (fun a hA => (Sx.Ag.sub hA (by kernel_rfl))) (fun w' S => by have S2 := Sx.St.widen S 0 rfl (Nat.le_refl _) (S.hi 0 _ rfl); exact S2) (fun x hx => ?_)
  obtain ⟨i, hi, F⟩ := x
  dsimp only at hx
  obtain hi' := hx
  refine Sx.C.seq (Sx.C.seq (Sx.C.region ?_))
  refine Sx.G.p (.int .i64 (i : Int)) ?_
  refine Sx.G.p (.slice A xs.length c) ?_
  refine Sx.G.p (.int .i64 ((xs.length : Nat) : Int)) ?_
  refine Sx.G.p (.bool (decide ((i : Int) < ((xs.length : Nat) : Int)))) ?_
  refine Sx.G.nil (Sx.E.next ?_)
  cases hc2 : (decide ((i : Int) < ((xs.length : Nat) : Int)))
  · have hb2 := hc2
    replace hc2 := of_decide_eq_false hc2
    refine Sx.C.nn ?_
    refine Sx.C.exit (Sx.E.then_exit (Sx.E.then_exit (Sx.E.block_hit (Sx.E.next (Sx.C.seq (Sx.C.region ?_))))))
    refine Sx.G.p (.slice (some ⟨b1, 0, none⟩) xs.length xs.length) ?_
    refine Sx.G.p (.slice (some ⟨b1, 0, none⟩) xs.length xs.length) ?_
    refine Sx.G.nil (Sx.E.next (Sx.C.ret ?_))
    refine Sx.E.ret1 (.slice (some ⟨b1, 0, none⟩) xs.length xs.length) rfl (by kernel_rfl) (fun w S => ?_)
    have h2' : xs.take i = xs := List.take_of_length_le (by omega)
    rw [h2', show xs.length - i = 0 by omega, List.replicate_zero, List.append_nil] at S
    exact ⟨[_], F, rfl, S.own 0 rfl, S.nodup 0 rfl, S.below⟩
  · have hb2 := hc2
    replace hc2 := of_decide_eq_true hc2
    refine Sx.C.yy ?_
    refine Sx.C.skip (Sx.E.next (Sx.C.seq ?_))
    have hlt : i < xs.length := by omega
    refine Sx.C.open (r := (rPair rInt rInt)) (pre := xs.take i) (x := ((0, 0) : (Int × Int))) (post := List.replicate (xs.length - (i + 1)) ((0, 0) : (Int × Int))) (by rw [show xs.length - i = (xs.length - (i + 1)) + 1 by omega, List.replicate_succ]) (by decide) (fun b off es F1 Fi F2 eA eF hes hm hmc => ?_)
    obtain ⟨rfl, rfl⟩ : b1 = b ∧ 0 = off := by cases eA; exact ⟨rfl, rfl⟩
    subst eF
    refine Sx.C.know (p := es = [.int .i64 0, .int .i64 0] ∧ Fi = []) (fun w S => Kit.own_Ins (St.at_ S 1 rfl).1) ?_
    rintro ⟨rfl, rfl⟩
    refine Sx.C.block (Sx.C.region ?_)
    refine Sx.G.p (.slice (some ⟨b1, 0, none⟩) xs.length xs.length) ?_
    refine Sx.G.p (.int .i64 (i : Int)) ?_
    refine Sx.G.p (.slice A xs.length c) ?_
    refine Sx.G.p (.int .i64 (i : Int)) ?_
    obtain ⟨b3, f3, es3, eA3, hr3, hl3, hm3⟩ := Sx.old_elem (by decide) h i (by omega)
    subst eA3
    obtain ⟨x3, hx3⟩ : ∃ z_, z_ = (xs[i]'(by omega)) := ⟨_, rfl⟩
    rw [← hx3] at hr3
    obtain rfl := Kit.rd_Ins hr3
    refine Sx.G.elem 62 96 (.tmp 16) (.tmp 17) 2 16 b3 f3 xs.length c i rfl (by kernel_rfl) (by kernel_rfl) (by kernel_rfl) (by kernel_rfl) (by omega) ?_
    refine Sx.G.ldr 96 (.tmp 18) b3 (f3 + i * 2) [.int .i64 x3.1, .int .i64 x3.2] rfl (by kernel_rfl) (by kernel_rfl) (fun w S => hm3 w _ S) (by kernel_rfl) (by kernel_rfl) ?_
    refine Sx.G.cp 56 #[.agg #[.int .i64 x3.1, .int .i64 x3.2]] (.agg #[.int .i64 x3.1, .int .i64 x3.2]) (fun w S => by exact Kit.kto_Ins x3 _) ?_
    refine Sx.G.elem 47 89 (.tmp 14) (.tmp 15) 2 16 b1 0 xs.length xs.length i rfl (by kernel_rfl) (by kernel_rfl) (by kernel_rfl) (by kernel_rfl) (by omega) ?_
    refine Sx.G.hw i [.int .i64 x3.1, .int .i64 x3.2] .a0 (by rw [List.length_take]; omega) ?_
    refine Sx.G.nil (Sx.E.block_normal (Sx.E.next (Sx.C.region ?_)))
    refine Sx.G.p (.int .i64 (i : Int)) ?_
    refine Sx.G.q (.int .i64 (IntKind.i64.wrap ((i : Int) + 1))) (.int .i64 ((i + 1 : Nat) : Int)) (congrArg (Value.int .i64) (Sx.wrap_up i (by omega))) ?_
    refine Sx.G.p (.int .i64 ((i + 1 : Nat) : Int)) ?_
    refine Sx.G.nil ?_
    exact Sx.E.again (i + 1, hi, _) (show i + 1 ≤ xs.length by omega) (show xs.length - (i + 1) < xs.length - i by omega) (fun a hA => (Sx.Ag.sub hA (by kernel_rfl))) (fun w' S => by
      have S := Sx.St.flat S 1 rfl x3 [.int .i64 x3.1, .int .i64 x3.2] (fun w => Kit.own_mk_Ins w _ _ x3)
      have S3 := Sx.St.close S (by decide) xs.length xs.length (by simp [List.length_take]; omega) hmc
      rw [hx3] at S3
      rw [show xs.take i ++ xs[i] :: List.replicate (xs.length - (i + 1)) ((0, 0) : (Int × Int)) = xs.take (i + 1) ++ List.replicate (xs.length - (i + 1)) ((0, 0) : (Int × Int)) by rw [Kit.take_step hlt, List.append_assoc]; rfl] at S3
      exact S3
      )
end Go.Proofs.Ytmiokacihcpepaa.Kit
namespace Go.Proofs.Ytmiokacihcpepaa.Guests
set_option maxRecDepth 100000
open Go.ChangeShapes Go.WideShapes Go.ChangeAt Go.RowKit
open Go.Proofs.Ytmiokacihcpepaa.Base Go.Proofs.Ytmiokacihcpepaa.Mem Go.Proofs.Ytmiokacihcpepaa.Data Go.Proofs.Ytmiokacihcpepaa.Ctls Go.Proofs.Ytmiokacihcpepaa.Exits Go.Proofs.Ytmiokacihcpepaa.Stt
set_option linter.unusedVariables false
set_option linter.unusedSimpArgs false
/-- How a gT lies in memory. -/
def rG : Rp gT := rVia (rPair ((rLst 89 (rPair rInt rInt))) (rPair rInt (rPair rInt (rPair ((rLsw (rPair rInt rInt))) (rPair ((rLsw (rPair rInt rInt))) (rPair rCtl (rPair rInt (rPair rExit (rPair rBool ((rLst 3 rInt))))))))))) (fun g => (g.prog, g.a, g.pc, g.wr, g.lv, g.t, g.pd, g.x, g.hl, g.seen)) (fun k => ⟨k.1, k.2.1, k.2.2.1, k.2.2.2.1, k.2.2.2.2.1, k.2.2.2.2.2.1, k.2.2.2.2.2.2.1, k.2.2.2.2.2.2.2.1, k.2.2.2.2.2.2.2.2.1, k.2.2.2.2.2.2.2.2.2⟩)
theorem rG_len {g : gT} (h : rG.cap g) : g.prog.length ≤ 1048576 ∧ g.wr.length ≤ 1048576 ∧ g.lv.length ≤ 1048576 ∧ g.seen.length ≤ 1048576 := ⟨h.1.1, h.2.2.2.1.1, h.2.2.2.2.1.1, h.2.2.2.2.2.2.2.2.2.1⟩
theorem rG_rd {w : World} {lo hi : Nat} {g : gT} {cs : List Value} (h : rG.rd w lo hi g cs) : ∃ P0 P1 P2 P3, cs = [P0, .int .i64 g.a, .int .i64 g.pc, P1, P2, .int .i64 g.t.1, .int .i64 g.t.2.1, .bool g.t.2.2, .int .i64 g.pd, .int .i64 g.x.1, .int .i64 g.x.2.1, .bool g.x.2.2.1, .int .i64 g.x.2.2.2, .bool g.hl, P3] ∧ ((rLst 89 (rPair rInt rInt))).rd w lo hi g.prog [P0] ∧ ((rLsw (rPair rInt rInt))).rd w lo hi g.wr [P1] ∧ ((rLsw (rPair rInt rInt))).rd w lo hi g.lv [P2] ∧ ((rLst 3 rInt)).rd w lo hi g.seen [P3] := by
  obtain ⟨c0, s0, rfl, h0, g0⟩ := h
  obtain ⟨P0, rfl⟩ := lst_rd h0
  obtain ⟨c1, s1, rfl, h1, g1⟩ := g0
  obtain rfl := show _ = _ from h1
  obtain ⟨c2, s2, rfl, h2, g2⟩ := g1
  obtain rfl := show _ = _ from h2
  obtain ⟨c3, s3, rfl, h3, g3⟩ := g2
  obtain ⟨P1, rfl⟩ := lst_rd h3
  obtain ⟨c4, s4, rfl, h4, g4⟩ := g3
  obtain ⟨P2, rfl⟩ := lst_rd h4
  obtain ⟨c5, s5, rfl, h5, g5⟩ := g4
  obtain ⟨u5_0, v5_0, rfl, x5_0, q5_0⟩ := h5
  obtain rfl := show _ = _ from x5_0
  obtain ⟨u5_1, v5_1, rfl, x5_1, q5_1⟩ := q5_0
  obtain rfl := show _ = _ from x5_1
  obtain rfl := show _ = _ from q5_1
  obtain ⟨c6, s6, rfl, h6, g6⟩ := g5
  obtain rfl := show _ = _ from h6
  obtain ⟨c7, s7, rfl, h7, g7⟩ := g6
  obtain ⟨u7_0, v7_0, rfl, x7_0, q7_0⟩ := h7
  obtain rfl := show _ = _ from x7_0
  obtain ⟨u7_1, v7_1, rfl, x7_1, q7_1⟩ := q7_0
  obtain rfl := show _ = _ from x7_1
  obtain ⟨u7_2, v7_2, rfl, x7_2, q7_2⟩ := q7_1
  obtain rfl := show _ = _ from x7_2
  obtain rfl := show _ = _ from q7_2
  obtain ⟨c8, s8, rfl, h8, g8⟩ := g7
  obtain rfl := show _ = _ from h8
  obtain ⟨P3, rfl⟩ := lst_rd g8
  exact ⟨P0, P1, P2, P3, by simp, h0, h3, h4, g8⟩
theorem rG_own {w : World} {lo hi : Nat} {g : gT} {cs : List Value} {F : List Nat} (h : rG.own w lo hi g cs F) : ∃ P0 P1 P2 P3 F0 F1 F2 F3, cs = [P0, .int .i64 g.a, .int .i64 g.pc, P1, P2, .int .i64 g.t.1, .int .i64 g.t.2.1, .bool g.t.2.2, .int .i64 g.pd, .int .i64 g.x.1, .int .i64 g.x.2.1, .bool g.x.2.2.1, .int .i64 g.x.2.2.2, .bool g.hl, P3] ∧ F = F0 ++ (F1 ++ (F2 ++ F3)) ∧ ((rLst 89 (rPair rInt rInt))).own w lo hi g.prog [P0] F0 ∧ ((rLsw (rPair rInt rInt))).own w lo hi g.wr [P1] F1 ∧ ((rLsw (rPair rInt rInt))).own w lo hi g.lv [P2] F2 ∧ ((rLst 3 rInt)).own w lo hi g.seen [P3] F3 := by
  obtain ⟨c0, s0, G0, H0, rfl, rfl, h0, g0⟩ := h
  obtain ⟨P0, rfl⟩ := lst_own h0
  obtain ⟨c1, s1, G1, H1, rfl, rfl, h1, g1⟩ := g0
  obtain ⟨rfl, rfl⟩ := h1
  obtain ⟨c2, s2, G2, H2, rfl, rfl, h2, g2⟩ := g1
  obtain ⟨rfl, rfl⟩ := h2
  obtain ⟨c3, s3, G3, H3, rfl, rfl, h3, g3⟩ := g2
  obtain ⟨P1, rfl⟩ := lsw_own h3
  obtain ⟨c4, s4, G4, H4, rfl, rfl, h4, g4⟩ := g3
  obtain ⟨P2, rfl⟩ := lsw_own h4
  obtain ⟨c5, s5, G5, H5, rfl, rfl, h5, g5⟩ := g4
  obtain ⟨u5_0, v5_0, U5_0, V5_0, rfl, rfl, ⟨rfl, rfl⟩, q5_0⟩ := h5
  obtain ⟨u5_1, v5_1, U5_1, V5_1, rfl, rfl, ⟨rfl, rfl⟩, q5_1⟩ := q5_0
  obtain ⟨rfl, rfl⟩ := q5_1
  obtain ⟨c6, s6, G6, H6, rfl, rfl, h6, g6⟩ := g5
  obtain ⟨rfl, rfl⟩ := h6
  obtain ⟨c7, s7, G7, H7, rfl, rfl, h7, g7⟩ := g6
  obtain ⟨u7_0, v7_0, U7_0, V7_0, rfl, rfl, ⟨rfl, rfl⟩, q7_0⟩ := h7
  obtain ⟨u7_1, v7_1, U7_1, V7_1, rfl, rfl, ⟨rfl, rfl⟩, q7_1⟩ := q7_0
  obtain ⟨u7_2, v7_2, U7_2, V7_2, rfl, rfl, ⟨rfl, rfl⟩, q7_2⟩ := q7_1
  obtain ⟨rfl, rfl⟩ := q7_2
  obtain ⟨c8, s8, G8, H8, rfl, rfl, h8, g8⟩ := g7
  obtain ⟨rfl, rfl⟩ := h8
  obtain ⟨P3, rfl⟩ := lst_own g8
  exact ⟨P0, P1, P2, P3, G0, G3, G4, H8, by simp, by simp, h0, h3, h4, g8⟩
theorem rG_rd_mk {w : World} {lo hi : Nat} {g : gT} {P0 P1 P2 P3 : Value} (h0 : ((rLst 89 (rPair rInt rInt))).rd w lo hi g.prog [P0]) (h1 : ((rLsw (rPair rInt rInt))).rd w lo hi g.wr [P1]) (h2 : ((rLsw (rPair rInt rInt))).rd w lo hi g.lv [P2]) (h3 : ((rLst 3 rInt)).rd w lo hi g.seen [P3]) : rG.rd w lo hi g [P0, .int .i64 g.a, .int .i64 g.pc, P1, P2, .int .i64 g.t.1, .int .i64 g.t.2.1, .bool g.t.2.2, .int .i64 g.pd, .int .i64 g.x.1, .int .i64 g.x.2.1, .bool g.x.2.2.1, .int .i64 g.x.2.2.2, .bool g.hl, P3] :=
  ⟨[_], _, rfl, h0, ⟨[_], _, rfl, rfl, ⟨[_], _, rfl, rfl, ⟨[_], _, rfl, h1, ⟨[_], _, rfl, h2, ⟨[_, _, _], _, rfl, ⟨[_], _, rfl, rfl, ⟨[_], _, rfl, rfl, rfl⟩⟩, ⟨[_], _, rfl, rfl, ⟨[_, _, _, _], _, rfl, ⟨[_], _, rfl, rfl, ⟨[_], _, rfl, rfl, ⟨[_], _, rfl, rfl, rfl⟩⟩⟩, ⟨[_], _, rfl, rfl, h3⟩⟩⟩⟩⟩⟩⟩⟩⟩
theorem rG_own_mk {w : World} {lo hi : Nat} {g : gT} {P0 P1 P2 P3 : Value} {F0 F1 F2 F3 : List Nat} (h0 : ((rLst 89 (rPair rInt rInt))).own w lo hi g.prog [P0] F0) (h1 : ((rLsw (rPair rInt rInt))).own w lo hi g.wr [P1] F1) (h2 : ((rLsw (rPair rInt rInt))).own w lo hi g.lv [P2] F2) (h3 : ((rLst 3 rInt)).own w lo hi g.seen [P3] F3) : rG.own w lo hi g [P0, .int .i64 g.a, .int .i64 g.pc, P1, P2, .int .i64 g.t.1, .int .i64 g.t.2.1, .bool g.t.2.2, .int .i64 g.pd, .int .i64 g.x.1, .int .i64 g.x.2.1, .bool g.x.2.2.1, .int .i64 g.x.2.2.2, .bool g.hl, P3] (F0 ++ (F1 ++ (F2 ++ F3))) := by
  have h : rG.own w lo hi g [P0, .int .i64 g.a, .int .i64 g.pc, P1, P2, .int .i64 g.t.1, .int .i64 g.t.2.1, .bool g.t.2.2, .int .i64 g.pd, .int .i64 g.x.1, .int .i64 g.x.2.1, .bool g.x.2.2.1, .int .i64 g.x.2.2.2, .bool g.hl, P3] _ := ⟨[_], _, F0, _, rfl, rfl, h0, ⟨[_], _, [], _, rfl, rfl, ⟨rfl, rfl⟩, ⟨[_], _, [], _, rfl, rfl, ⟨rfl, rfl⟩, ⟨[_], _, F1, _, rfl, rfl, h1, ⟨[_], _, F2, _, rfl, rfl, h2, ⟨[_, _, _], _, [], _, rfl, rfl, ⟨[_], _, [], [], rfl, rfl, ⟨rfl, rfl⟩, ⟨[_], _, [], [], rfl, rfl, ⟨rfl, rfl⟩, ⟨rfl, rfl⟩⟩⟩, ⟨[_], _, [], _, rfl, rfl, ⟨rfl, rfl⟩, ⟨[_, _, _, _], _, [], _, rfl, rfl, ⟨[_], _, [], [], rfl, rfl, ⟨rfl, rfl⟩, ⟨[_], _, [], [], rfl, rfl, ⟨rfl, rfl⟩, ⟨[_], _, [], [], rfl, rfl, ⟨rfl, rfl⟩, ⟨rfl, rfl⟩⟩⟩⟩, ⟨[_], _, [], _, rfl, rfl, ⟨rfl, rfl⟩, h3⟩⟩⟩⟩⟩⟩⟩⟩⟩
  simpa using h
theorem rG_open {w0 w : World} {lo hi : Nat} {g : gT} {cs : List Value} {F : List Nat} {T : List Res} (S : St w0 w (ow rG lo hi g cs F :: T)) : ∃ P0 P1 P2 P3 F0 F1 F2 F3, cs = [P0, .int .i64 g.a, .int .i64 g.pc, P1, P2, .int .i64 g.t.1, .int .i64 g.t.2.1, .bool g.t.2.2, .int .i64 g.pd, .int .i64 g.x.1, .int .i64 g.x.2.1, .bool g.x.2.2.1, .int .i64 g.x.2.2.2, .bool g.hl, P3] ∧ St w0 w (ow (rLst 89 (rPair rInt rInt)) lo hi g.prog [P0] F0 :: ow (rLsw (rPair rInt rInt)) lo hi g.wr [P1] F1 :: ow (rLsw (rPair rInt rInt)) lo hi g.lv [P2] F2 :: ow (rLst 3 rInt) lo hi g.seen [P3] F3 :: T) := by
  obtain ⟨hown, hnd⟩ := S.at_ 0 rfl
  have hl := S.lo 0 _ rfl
  have hh := S.hi 0 _ rfl
  obtain ⟨P0, P1, P2, P3, F0, F1, F2, F3, rfl, rfl, q0, q1, q2, q3⟩ := rG_own hown
  obtain ⟨m0, n0, d0⟩ := List.nodup_append.1 hnd
  obtain ⟨m1, n1, d1⟩ := List.nodup_append.1 n0
  obtain ⟨m2, n2, d2⟩ := List.nodup_append.1 n1
  have m3 := n2
  refine ⟨P0, P1, P2, P3, F0, F1, F2, F3, rfl, S.parts [ow (rLst 89 (rPair rInt rInt)) lo hi g.prog [P0] F0, ow (rLsw (rPair rInt rInt)) lo hi g.wr [P1] F1, ow (rLsw (rPair rInt rInt)) lo hi g.lv [P2] F2, ow (rLst 3 rInt) lo hi g.seen [P3] F3] ?_ ?_⟩
  · intro s hs
    simp only [List.mem_cons, List.not_mem_nil, or_false] at hs
    rcases hs with rfl | rfl | rfl | rfl
    · exact ⟨⟨q0, m0⟩, fun k hk => ⟨by simp [hk.1], hk.2⟩, hl, hh⟩
    · exact ⟨⟨q1, m1⟩, fun k hk => ⟨by simp [hk.1], hk.2⟩, hl, hh⟩
    · exact ⟨⟨q2, m2⟩, fun k hk => ⟨by simp [hk.1], hk.2⟩, hl, hh⟩
    · exact ⟨⟨q3, m3⟩, fun k hk => ⟨by simp [hk.1], hk.2⟩, hl, hh⟩
  · simp only [List.pairwise_cons, List.mem_cons, List.not_mem_nil, or_false, forall_eq_or_imp, forall_eq, List.Pairwise.nil, and_true, false_implies, implies_true, ow]
    exact ⟨⟨(fun k hk hk' => d0 k hk.1 k (by simp [hk'.1]) rfl), (fun k hk hk' => d0 k hk.1 k (by simp [hk'.1]) rfl), (fun k hk hk' => d0 k hk.1 k (by simp [hk'.1]) rfl)⟩, ⟨(fun k hk hk' => d1 k hk.1 k (by simp [hk'.1]) rfl), (fun k hk hk' => d1 k hk.1 k (by simp [hk'.1]) rfl)⟩, (fun k hk hk' => d2 k hk.1 k (by simp [hk'.1]) rfl)⟩
theorem rG_shut {w0 w : World} {g : gT} {L : List Res} {P0 P1 P2 P3 : Value} {F0 F1 F2 F3 : List Nat} {l0 k0 l1 k1 l2 k2 l3 k3 : Nat} (S : St w0 w L) (i0 : Nat) (e0 : L[i0]? = some (ow (rLst 89 (rPair rInt rInt)) l0 k0 g.prog [P0] F0)) (i1 : Nat) (e1 : L[i1]? = some (ow (rLsw (rPair rInt rInt)) l1 k1 g.wr [P1] F1)) (i2 : Nat) (e2 : L[i2]? = some (ow (rLsw (rPair rInt rInt)) l2 k2 g.lv [P2] F2)) (i3 : Nat) (e3 : L[i3]? = some (ow (rLst 3 rInt) l3 k3 g.seen [P3] F3)) (n01 : i0 ≠ i1) (n02 : i0 ≠ i2) (n03 : i0 ≠ i3) (n12 : i1 ≠ i2) (n13 : i1 ≠ i3) (n23 : i2 ≠ i3) : rG.own w w0.heap.size w.heap.size g [P0, .int .i64 g.a, .int .i64 g.pc, P1, P2, .int .i64 g.t.1, .int .i64 g.t.2.1, .bool g.t.2.2, .int .i64 g.pd, .int .i64 g.x.1, .int .i64 g.x.2.1, .bool g.x.2.2.1, .int .i64 g.x.2.2.2, .bool g.hl, P3] (F0 ++ (F1 ++ (F2 ++ F3))) ∧ (F0 ++ (F1 ++ (F2 ++ F3))).Nodup := by
  refine ⟨rG_own_mk (S.own i0 e0) (S.own i1 e1) (S.own i2 e2) (S.own i3 e3), ?_⟩
  exact (nodup_app (S.nodup i0 e0) (nodup_app (S.nodup i1 e1) (nodup_app (S.nodup i2 e2) (S.nodup i3 e3) (fun k hk => (S.disj i2 i3 e2 e3 n23 k hk))) (fun k hk => (not_app (S.disj i1 i2 e1 e2 n12 k hk) (S.disj i1 i3 e1 e3 n13 k hk)))) (fun k hk => (not_app (S.disj i0 i1 e0 e1 n01 k hk) (not_app (S.disj i0 i2 e0 e2 n02 k hk) (S.disj i0 i3 e0 e3 n03 k hk)))))
end Go.Proofs.Ytmiokacihcpepaa.Guests
namespace Go.Proofs.Ytmiokacihcpepaa.Kit
set_option maxRecDepth 100000
open Go.ChangeShapes Go.WideShapes Go.ChangeAt Go.RowKit Go.Deep
open Go.Proofs.Ytmiokacihcpepaa.Base Go.Proofs.Ytmiokacihcpepaa.Mem Go.Proofs.Ytmiokacihcpepaa.Data Go.Proofs.Ytmiokacihcpepaa.Stt Go.Proofs.Ytmiokacihcpepaa.Guests Go.Proofs.Ytmiokacihcpepaa.Ctls Go.Proofs.Ytmiokacihcpepaa.Exits
set_option linter.unusedVariables false
set_option linter.unusedSimpArgs false
theorem rd_Ctl {w : World} {lo hi : Nat} {x : CT} {es : List Value} (h : rCtl.rd w lo hi x es) : es = [.int .i64 x.1, .int .i64 x.2.1, .bool x.2.2] := by
  obtain ⟨u0, v0, rfl, x0, h⟩ := h
  obtain rfl := show _ = _ from x0
  obtain ⟨u1, v1, rfl, x1, h⟩ := h
  obtain rfl := show _ = _ from x1
  obtain rfl := show _ = _ from h
  rfl
theorem own_Ctl {w : World} {lo hi : Nat} {x : CT} {es : List Value} {F : List Nat} (h : rCtl.own w lo hi x es F) : es = [.int .i64 x.1, .int .i64 x.2.1, .bool x.2.2] ∧ F = [] := by
  obtain ⟨u0, v0, U0, V0, rfl, rfl, ⟨rfl, rfl⟩, h⟩ := h
  obtain ⟨u1, v1, U1, V1, rfl, rfl, ⟨rfl, rfl⟩, h⟩ := h
  obtain ⟨rfl, rfl⟩ := h
  exact ⟨rfl, rfl⟩
theorem own_mk_Ctl (w : World) (lo hi : Nat) (x : CT) : rCtl.own w lo hi x [.int .i64 x.1, .int .i64 x.2.1, .bool x.2.2] [] := ⟨[_], _, [], [], rfl, rfl, ⟨rfl, rfl⟩, ⟨[_], _, [], [], rfl, rfl, ⟨rfl, rfl⟩, ⟨rfl, rfl⟩⟩⟩
theorem sz0_Ctl : ∀ xs : List CT, sizeAll rCtl xs = 0
  | [] => rfl
  | x :: xs => by rw [sizeAll, sz0_Ctl xs]; rfl

set_option maxRecDepth 100000 in
set_option maxHeartbeats 4000000 in
theorem keq_Ctl (x : CT) (w : World)  : Calls Try.prog 53 #[.agg #[.int .i64 x.1, .int .i64 x.2.1, .bool x.2.2], .agg #[.int .i64 x.1, .int .i64 x.2.1, .bool x.2.2]] w (fun e w' => e = .returned (.bool true) ∧ Below w.heap.size w w') := by
  refine Sx.enter (args := [.agg #[.int .i64 x.1, .int .i64 x.2.1, .bool x.2.2], .agg #[.int .i64 x.1, .int .i64 x.2.1, .bool x.2.2]]) Try.func53 rfl Try.ntmps53 rfl ?_
  refine Sx.C.seq (Sx.C.region ?_)
  refine Sx.G.b [.int .i64 x.1, .int .i64 x.2.1, .bool x.2.2] (fun b1 => ?_)
  refine Sx.G.b [.int .i64 x.1, .int .i64 x.2.1, .bool x.2.2] (fun b2 => ?_)
  refine Sx.G.p (.bool false) ?_
  refine Sx.G.nil (Sx.E.next (Sx.C.seq (Sx.C.seq (Sx.C.region ?_))))
  refine Sx.G.p (.pointer (some ⟨b1, 0, none⟩)) ?_
  refine Sx.G.g (.int .i64 x.1) .m1 .m0 ?_
  refine Sx.G.p (.pointer (some ⟨b2, 0, none⟩)) ?_
  refine Sx.G.g (.int .i64 x.1) .m0 .m0 ?_
  refine Sx.G.q (.bool (x.1 != x.1)) (.bool false) (congrArg Value.bool (bne_self_eq_false _)) ?_
  refine Sx.G.nil (Sx.E.next ?_)
  refine Sx.C.nn ?_
  refine Sx.C.skip (Sx.E.next (Sx.C.seq (Sx.C.seq (Sx.C.region ?_))))
  refine Sx.G.p (.pointer (some ⟨b1, 1, none⟩)) ?_
  refine Sx.G.g (.int .i64 x.2.1) .m1 .m1 ?_
  refine Sx.G.p (.pointer (some ⟨b2, 1, none⟩)) ?_
  refine Sx.G.g (.int .i64 x.2.1) .m0 .m1 ?_
  refine Sx.G.q (.bool (x.2.1 != x.2.1)) (.bool false) (congrArg Value.bool (bne_self_eq_false _)) ?_
  refine Sx.G.nil (Sx.E.next ?_)
  refine Sx.C.nn ?_
  refine Sx.C.skip (Sx.E.next (Sx.C.seq (Sx.C.seq (Sx.C.region ?_))))
  refine Sx.G.p (.pointer (some ⟨b1, 2, none⟩)) ?_
  refine Sx.G.g (.bool x.2.2) .m1 .m2 ?_
  refine Sx.G.p (.pointer (some ⟨b2, 2, none⟩)) ?_
  refine Sx.G.g (.bool x.2.2) .m0 .m2 ?_
  refine Sx.G.q (.bool (x.2.2 != x.2.2)) (.bool false) (congrArg Value.bool (bne_self_eq_false _)) ?_
  refine Sx.G.nil (Sx.E.next ?_)
  refine Sx.C.nn ?_
  refine Sx.C.skip (Sx.E.next (Sx.C.seq (Sx.C.region ?_)))
  refine Sx.G.p (.bool true) ?_
  refine Sx.G.nil (Sx.E.next (Sx.C.ret ?_))
  refine Sx.E.ret1 (.bool true) rfl (by kernel_rfl) (fun w S => ?_)
  exact ⟨rfl, S.below⟩

set_option maxRecDepth 100000 in
set_option maxHeartbeats 4000000 in
theorem kto_Ctl (x : CT) (w : World)  : Calls Try.prog 49 #[.agg #[.int .i64 x.1, .int .i64 x.2.1, .bool x.2.2]] w (fun e w' => e = .returned (.agg #[.int .i64 x.1, .int .i64 x.2.1, .bool x.2.2]) ∧ Below w.heap.size w w') := by
  refine Sx.enter (args := [.agg #[.int .i64 x.1, .int .i64 x.2.1, .bool x.2.2]]) Try.func49 rfl Try.ntmps49 rfl ?_
  refine Sx.C.seq (Sx.C.region ?_)
  refine Sx.G.b [.int .i64 x.1, .int .i64 x.2.1, .bool x.2.2] (fun b1 => ?_)
  refine Sx.G.ar [.int .i64 0, .int .i64 0, .bool false] (fun b2 => ?_)
  refine Sx.G.nil (Sx.E.next (Sx.C.seq (Sx.C.region ?_)))
  refine Sx.G.ar [.int .i64 0, .int .i64 0, .bool false] (fun b3 => ?_)
  refine Sx.G.nil (Sx.E.next (Sx.C.seq (Sx.C.region ?_)))
  refine Sx.G.p (.pointer (some ⟨b1, 0, none⟩)) ?_
  refine Sx.G.g (.int .i64 x.1) .m2 .m0 ?_
  refine Sx.G.p (.pointer (some ⟨b3, 0, none⟩)) ?_
  refine Sx.G.s (.int .i64 x.1) .a0 .a0 ?_
  refine Sx.G.nil (Sx.E.next (Sx.C.seq (Sx.C.region ?_)))
  refine Sx.G.p (.pointer (some ⟨b1, 1, none⟩)) ?_
  refine Sx.G.g (.int .i64 x.2.1) .m2 .m1 ?_
  refine Sx.G.p (.pointer (some ⟨b3, 1, none⟩)) ?_
  refine Sx.G.s (.int .i64 x.2.1) .a0 .a1 ?_
  refine Sx.G.nil (Sx.E.next (Sx.C.seq (Sx.C.region ?_)))
  refine Sx.G.p (.pointer (some ⟨b1, 2, none⟩)) ?_
  refine Sx.G.g (.bool x.2.2) .m2 .m2 ?_
  refine Sx.G.p (.pointer (some ⟨b3, 2, none⟩)) ?_
  refine Sx.G.s (.bool x.2.2) .a0 .a2 ?_
  refine Sx.G.nil (Sx.E.next (Sx.C.seq (Sx.C.region ?_)))
  refine Sx.G.lw .m0 ?_
  refine Sx.G.sw [.int .i64 x.1, .int .i64 x.2.1, .bool x.2.2] .a1 ?_
  refine Sx.G.nil (Sx.E.next (Sx.C.ret ?_))
  refine Sx.E.retc b2 1 [.int .i64 x.1, .int .i64 x.2.1, .bool x.2.2] rfl (by kernel_rfl) rfl (by kernel_rfl) (by kernel_rfl) (fun w S => ?_)
  exact ⟨rfl, S.below⟩
theorem rd_Exit {w : World} {lo hi : Nat} {x : QT} {es : List Value} (h : rExit.rd w lo hi x es) : es = [.int .i64 x.1, .int .i64 x.2.1, .bool x.2.2.1, .int .i64 x.2.2.2] := by
  obtain ⟨u0, v0, rfl, x0, h⟩ := h
  obtain rfl := show _ = _ from x0
  obtain ⟨u1, v1, rfl, x1, h⟩ := h
  obtain rfl := show _ = _ from x1
  obtain ⟨u2, v2, rfl, x2, h⟩ := h
  obtain rfl := show _ = _ from x2
  obtain rfl := show _ = _ from h
  rfl
theorem own_Exit {w : World} {lo hi : Nat} {x : QT} {es : List Value} {F : List Nat} (h : rExit.own w lo hi x es F) : es = [.int .i64 x.1, .int .i64 x.2.1, .bool x.2.2.1, .int .i64 x.2.2.2] ∧ F = [] := by
  obtain ⟨u0, v0, U0, V0, rfl, rfl, ⟨rfl, rfl⟩, h⟩ := h
  obtain ⟨u1, v1, U1, V1, rfl, rfl, ⟨rfl, rfl⟩, h⟩ := h
  obtain ⟨u2, v2, U2, V2, rfl, rfl, ⟨rfl, rfl⟩, h⟩ := h
  obtain ⟨rfl, rfl⟩ := h
  exact ⟨rfl, rfl⟩
theorem own_mk_Exit (w : World) (lo hi : Nat) (x : QT) : rExit.own w lo hi x [.int .i64 x.1, .int .i64 x.2.1, .bool x.2.2.1, .int .i64 x.2.2.2] [] := ⟨[_], _, [], [], rfl, rfl, ⟨rfl, rfl⟩, ⟨[_], _, [], [], rfl, rfl, ⟨rfl, rfl⟩, ⟨[_], _, [], [], rfl, rfl, ⟨rfl, rfl⟩, ⟨rfl, rfl⟩⟩⟩⟩
theorem sz0_Exit : ∀ xs : List QT, sizeAll rExit xs = 0
  | [] => rfl
  | x :: xs => by rw [sizeAll, sz0_Exit xs]; rfl

set_option maxRecDepth 100000 in
set_option maxHeartbeats 4000000 in
theorem keq_Exit (x : QT) (w : World)  : Calls Try.prog 19 #[.agg #[.int .i64 x.1, .int .i64 x.2.1, .bool x.2.2.1, .int .i64 x.2.2.2], .agg #[.int .i64 x.1, .int .i64 x.2.1, .bool x.2.2.1, .int .i64 x.2.2.2]] w (fun e w' => e = .returned (.bool true) ∧ Below w.heap.size w w') := by
  refine Sx.enter (args := [.agg #[.int .i64 x.1, .int .i64 x.2.1, .bool x.2.2.1, .int .i64 x.2.2.2], .agg #[.int .i64 x.1, .int .i64 x.2.1, .bool x.2.2.1, .int .i64 x.2.2.2]]) Try.func19 rfl Try.ntmps19 rfl ?_
  refine Sx.C.seq (Sx.C.region ?_)
  refine Sx.G.b [.int .i64 x.1, .int .i64 x.2.1, .bool x.2.2.1, .int .i64 x.2.2.2] (fun b1 => ?_)
  refine Sx.G.b [.int .i64 x.1, .int .i64 x.2.1, .bool x.2.2.1, .int .i64 x.2.2.2] (fun b2 => ?_)
  refine Sx.G.p (.bool false) ?_
  refine Sx.G.nil (Sx.E.next (Sx.C.seq (Sx.C.seq (Sx.C.region ?_))))
  refine Sx.G.p (.pointer (some ⟨b1, 0, none⟩)) ?_
  refine Sx.G.g (.int .i64 x.1) .m1 .m0 ?_
  refine Sx.G.p (.pointer (some ⟨b2, 0, none⟩)) ?_
  refine Sx.G.g (.int .i64 x.1) .m0 .m0 ?_
  refine Sx.G.q (.bool (x.1 != x.1)) (.bool false) (congrArg Value.bool (bne_self_eq_false _)) ?_
  refine Sx.G.nil (Sx.E.next ?_)
  refine Sx.C.nn ?_
  refine Sx.C.skip (Sx.E.next (Sx.C.seq (Sx.C.seq (Sx.C.region ?_))))
  refine Sx.G.p (.pointer (some ⟨b1, 1, none⟩)) ?_
  refine Sx.G.g (.int .i64 x.2.1) .m1 .m1 ?_
  refine Sx.G.p (.pointer (some ⟨b2, 1, none⟩)) ?_
  refine Sx.G.g (.int .i64 x.2.1) .m0 .m1 ?_
  refine Sx.G.q (.bool (x.2.1 != x.2.1)) (.bool false) (congrArg Value.bool (bne_self_eq_false _)) ?_
  refine Sx.G.nil (Sx.E.next ?_)
  refine Sx.C.nn ?_
  refine Sx.C.skip (Sx.E.next (Sx.C.seq (Sx.C.seq (Sx.C.region ?_))))
  refine Sx.G.p (.pointer (some ⟨b1, 2, none⟩)) ?_
  refine Sx.G.g (.bool x.2.2.1) .m1 .m2 ?_
  refine Sx.G.p (.pointer (some ⟨b2, 2, none⟩)) ?_
  refine Sx.G.g (.bool x.2.2.1) .m0 .m2 ?_
  refine Sx.G.q (.bool (x.2.2.1 != x.2.2.1)) (.bool false) (congrArg Value.bool (bne_self_eq_false _)) ?_
  refine Sx.G.nil (Sx.E.next ?_)
  refine Sx.C.nn ?_
  refine Sx.C.skip (Sx.E.next (Sx.C.seq (Sx.C.seq (Sx.C.region ?_))))
  refine Sx.G.p (.pointer (some ⟨b1, 3, none⟩)) ?_
  refine Sx.G.g (.int .i64 x.2.2.2) .m1 .m3 ?_
  refine Sx.G.p (.pointer (some ⟨b2, 3, none⟩)) ?_
  refine Sx.G.g (.int .i64 x.2.2.2) .m0 .m3 ?_
  refine Sx.G.q (.bool (x.2.2.2 != x.2.2.2)) (.bool false) (congrArg Value.bool (bne_self_eq_false _)) ?_
  refine Sx.G.nil (Sx.E.next ?_)
  refine Sx.C.nn ?_
  refine Sx.C.skip (Sx.E.next (Sx.C.seq (Sx.C.region ?_)))
  refine Sx.G.p (.bool true) ?_
  refine Sx.G.nil (Sx.E.next (Sx.C.ret ?_))
  refine Sx.E.ret1 (.bool true) rfl (by kernel_rfl) (fun w S => ?_)
  exact ⟨rfl, S.below⟩

set_option maxRecDepth 100000 in
set_option maxHeartbeats 4000000 in
theorem kto_Exit (x : QT) (w : World)  : Calls Try.prog 50 #[.agg #[.int .i64 x.1, .int .i64 x.2.1, .bool x.2.2.1, .int .i64 x.2.2.2]] w (fun e w' => e = .returned (.agg #[.int .i64 x.1, .int .i64 x.2.1, .bool x.2.2.1, .int .i64 x.2.2.2]) ∧ Below w.heap.size w w') := by
  refine Sx.enter (args := [.agg #[.int .i64 x.1, .int .i64 x.2.1, .bool x.2.2.1, .int .i64 x.2.2.2]]) Try.func50 rfl Try.ntmps50 rfl ?_
  refine Sx.C.seq (Sx.C.region ?_)
  refine Sx.G.b [.int .i64 x.1, .int .i64 x.2.1, .bool x.2.2.1, .int .i64 x.2.2.2] (fun b1 => ?_)
  refine Sx.G.ar [.int .i64 0, .int .i64 0, .bool false, .int .i64 0] (fun b2 => ?_)
  refine Sx.G.nil (Sx.E.next (Sx.C.seq (Sx.C.region ?_)))
  refine Sx.G.ar [.int .i64 0, .int .i64 0, .bool false, .int .i64 0] (fun b3 => ?_)
  refine Sx.G.nil (Sx.E.next (Sx.C.seq (Sx.C.region ?_)))
  refine Sx.G.p (.pointer (some ⟨b1, 0, none⟩)) ?_
  refine Sx.G.g (.int .i64 x.1) .m2 .m0 ?_
  refine Sx.G.p (.pointer (some ⟨b3, 0, none⟩)) ?_
  refine Sx.G.s (.int .i64 x.1) .a0 .a0 ?_
  refine Sx.G.nil (Sx.E.next (Sx.C.seq (Sx.C.region ?_)))
  refine Sx.G.p (.pointer (some ⟨b1, 1, none⟩)) ?_
  refine Sx.G.g (.int .i64 x.2.1) .m2 .m1 ?_
  refine Sx.G.p (.pointer (some ⟨b3, 1, none⟩)) ?_
  refine Sx.G.s (.int .i64 x.2.1) .a0 .a1 ?_
  refine Sx.G.nil (Sx.E.next (Sx.C.seq (Sx.C.region ?_)))
  refine Sx.G.p (.pointer (some ⟨b1, 2, none⟩)) ?_
  refine Sx.G.g (.bool x.2.2.1) .m2 .m2 ?_
  refine Sx.G.p (.pointer (some ⟨b3, 2, none⟩)) ?_
  refine Sx.G.s (.bool x.2.2.1) .a0 .a2 ?_
  refine Sx.G.nil (Sx.E.next (Sx.C.seq (Sx.C.region ?_)))
  refine Sx.G.p (.pointer (some ⟨b1, 3, none⟩)) ?_
  refine Sx.G.g (.int .i64 x.2.2.2) .m2 .m3 ?_
  refine Sx.G.p (.pointer (some ⟨b3, 3, none⟩)) ?_
  refine Sx.G.s (.int .i64 x.2.2.2) .a0 .a3 ?_
  refine Sx.G.nil (Sx.E.next (Sx.C.seq (Sx.C.region ?_)))
  refine Sx.G.lw .m0 ?_
  refine Sx.G.sw [.int .i64 x.1, .int .i64 x.2.1, .bool x.2.2.1, .int .i64 x.2.2.2] .a1 ?_
  refine Sx.G.nil (Sx.E.next (Sx.C.ret ?_))
  refine Sx.E.retc b2 1 [.int .i64 x.1, .int .i64 x.2.1, .bool x.2.2.1, .int .i64 x.2.2.2] rfl (by kernel_rfl) rfl (by kernel_rfl) (by kernel_rfl) (fun w S => ?_)
  exact ⟨rfl, S.below⟩
/-- How a gT lies in memory. -/
def wG : Rp gT := rVia (rPair ((rLsw (rPair rInt rInt))) (rPair rInt (rPair rInt (rPair ((rLsw (rPair rInt rInt))) (rPair ((rLsw (rPair rInt rInt))) (rPair rCtl (rPair rInt (rPair rExit (rPair rBool ((rLsw rInt))))))))))) (fun g => (g.prog, g.a, g.pc, g.wr, g.lv, g.t, g.pd, g.x, g.hl, g.seen)) (fun k => ⟨k.1, k.2.1, k.2.2.1, k.2.2.2.1, k.2.2.2.2.1, k.2.2.2.2.2.1, k.2.2.2.2.2.2.1, k.2.2.2.2.2.2.2.1, k.2.2.2.2.2.2.2.2.1, k.2.2.2.2.2.2.2.2.2⟩)
theorem wG_len {g : gT} (h : wG.cap g) : g.prog.length ≤ 1048576 ∧ g.wr.length ≤ 1048576 ∧ g.lv.length ≤ 1048576 ∧ g.seen.length ≤ 1048576 := ⟨h.1.1, h.2.2.2.1.1, h.2.2.2.2.1.1, h.2.2.2.2.2.2.2.2.2.1⟩
theorem wG_rd {w : World} {lo hi : Nat} {g : gT} {cs : List Value} (h : wG.rd w lo hi g cs) : ∃ P0 P1 P2 P3, cs = [P0, .int .i64 g.a, .int .i64 g.pc, P1, P2, .int .i64 g.t.1, .int .i64 g.t.2.1, .bool g.t.2.2, .int .i64 g.pd, .int .i64 g.x.1, .int .i64 g.x.2.1, .bool g.x.2.2.1, .int .i64 g.x.2.2.2, .bool g.hl, P3] ∧ ((rLsw (rPair rInt rInt))).rd w lo hi g.prog [P0] ∧ ((rLsw (rPair rInt rInt))).rd w lo hi g.wr [P1] ∧ ((rLsw (rPair rInt rInt))).rd w lo hi g.lv [P2] ∧ ((rLsw rInt)).rd w lo hi g.seen [P3] := by
  obtain ⟨c0, s0, rfl, h0, g0⟩ := h
  obtain ⟨P0, rfl⟩ := lst_rd h0
  obtain ⟨c1, s1, rfl, h1, g1⟩ := g0
  obtain rfl := show _ = _ from h1
  obtain ⟨c2, s2, rfl, h2, g2⟩ := g1
  obtain rfl := show _ = _ from h2
  obtain ⟨c3, s3, rfl, h3, g3⟩ := g2
  obtain ⟨P1, rfl⟩ := lst_rd h3
  obtain ⟨c4, s4, rfl, h4, g4⟩ := g3
  obtain ⟨P2, rfl⟩ := lst_rd h4
  obtain ⟨c5, s5, rfl, h5, g5⟩ := g4
  obtain ⟨u5_0, v5_0, rfl, x5_0, q5_0⟩ := h5
  obtain rfl := show _ = _ from x5_0
  obtain ⟨u5_1, v5_1, rfl, x5_1, q5_1⟩ := q5_0
  obtain rfl := show _ = _ from x5_1
  obtain rfl := show _ = _ from q5_1
  obtain ⟨c6, s6, rfl, h6, g6⟩ := g5
  obtain rfl := show _ = _ from h6
  obtain ⟨c7, s7, rfl, h7, g7⟩ := g6
  obtain ⟨u7_0, v7_0, rfl, x7_0, q7_0⟩ := h7
  obtain rfl := show _ = _ from x7_0
  obtain ⟨u7_1, v7_1, rfl, x7_1, q7_1⟩ := q7_0
  obtain rfl := show _ = _ from x7_1
  obtain ⟨u7_2, v7_2, rfl, x7_2, q7_2⟩ := q7_1
  obtain rfl := show _ = _ from x7_2
  obtain rfl := show _ = _ from q7_2
  obtain ⟨c8, s8, rfl, h8, g8⟩ := g7
  obtain rfl := show _ = _ from h8
  obtain ⟨P3, rfl⟩ := lst_rd g8
  exact ⟨P0, P1, P2, P3, by simp, h0, h3, h4, g8⟩
theorem wG_own {w : World} {lo hi : Nat} {g : gT} {cs : List Value} {F : List Nat} (h : wG.own w lo hi g cs F) : ∃ P0 P1 P2 P3 F0 F1 F2 F3, cs = [P0, .int .i64 g.a, .int .i64 g.pc, P1, P2, .int .i64 g.t.1, .int .i64 g.t.2.1, .bool g.t.2.2, .int .i64 g.pd, .int .i64 g.x.1, .int .i64 g.x.2.1, .bool g.x.2.2.1, .int .i64 g.x.2.2.2, .bool g.hl, P3] ∧ F = F0 ++ (F1 ++ (F2 ++ F3)) ∧ ((rLsw (rPair rInt rInt))).own w lo hi g.prog [P0] F0 ∧ ((rLsw (rPair rInt rInt))).own w lo hi g.wr [P1] F1 ∧ ((rLsw (rPair rInt rInt))).own w lo hi g.lv [P2] F2 ∧ ((rLsw rInt)).own w lo hi g.seen [P3] F3 := by
  obtain ⟨c0, s0, G0, H0, rfl, rfl, h0, g0⟩ := h
  obtain ⟨P0, rfl⟩ := lsw_own h0
  obtain ⟨c1, s1, G1, H1, rfl, rfl, h1, g1⟩ := g0
  obtain ⟨rfl, rfl⟩ := h1
  obtain ⟨c2, s2, G2, H2, rfl, rfl, h2, g2⟩ := g1
  obtain ⟨rfl, rfl⟩ := h2
  obtain ⟨c3, s3, G3, H3, rfl, rfl, h3, g3⟩ := g2
  obtain ⟨P1, rfl⟩ := lsw_own h3
  obtain ⟨c4, s4, G4, H4, rfl, rfl, h4, g4⟩ := g3
  obtain ⟨P2, rfl⟩ := lsw_own h4
  obtain ⟨c5, s5, G5, H5, rfl, rfl, h5, g5⟩ := g4
  obtain ⟨u5_0, v5_0, U5_0, V5_0, rfl, rfl, ⟨rfl, rfl⟩, q5_0⟩ := h5
  obtain ⟨u5_1, v5_1, U5_1, V5_1, rfl, rfl, ⟨rfl, rfl⟩, q5_1⟩ := q5_0
  obtain ⟨rfl, rfl⟩ := q5_1
  obtain ⟨c6, s6, G6, H6, rfl, rfl, h6, g6⟩ := g5
  obtain ⟨rfl, rfl⟩ := h6
  obtain ⟨c7, s7, G7, H7, rfl, rfl, h7, g7⟩ := g6
  obtain ⟨u7_0, v7_0, U7_0, V7_0, rfl, rfl, ⟨rfl, rfl⟩, q7_0⟩ := h7
  obtain ⟨u7_1, v7_1, U7_1, V7_1, rfl, rfl, ⟨rfl, rfl⟩, q7_1⟩ := q7_0
  obtain ⟨u7_2, v7_2, U7_2, V7_2, rfl, rfl, ⟨rfl, rfl⟩, q7_2⟩ := q7_1
  obtain ⟨rfl, rfl⟩ := q7_2
  obtain ⟨c8, s8, G8, H8, rfl, rfl, h8, g8⟩ := g7
  obtain ⟨rfl, rfl⟩ := h8
  obtain ⟨P3, rfl⟩ := lsw_own g8
  exact ⟨P0, P1, P2, P3, G0, G3, G4, H8, by simp, by simp, h0, h3, h4, g8⟩
theorem wG_rd_mk {w : World} {lo hi : Nat} {g : gT} {P0 P1 P2 P3 : Value} (h0 : ((rLsw (rPair rInt rInt))).rd w lo hi g.prog [P0]) (h1 : ((rLsw (rPair rInt rInt))).rd w lo hi g.wr [P1]) (h2 : ((rLsw (rPair rInt rInt))).rd w lo hi g.lv [P2]) (h3 : ((rLsw rInt)).rd w lo hi g.seen [P3]) : wG.rd w lo hi g [P0, .int .i64 g.a, .int .i64 g.pc, P1, P2, .int .i64 g.t.1, .int .i64 g.t.2.1, .bool g.t.2.2, .int .i64 g.pd, .int .i64 g.x.1, .int .i64 g.x.2.1, .bool g.x.2.2.1, .int .i64 g.x.2.2.2, .bool g.hl, P3] :=
  ⟨[_], _, rfl, h0, ⟨[_], _, rfl, rfl, ⟨[_], _, rfl, rfl, ⟨[_], _, rfl, h1, ⟨[_], _, rfl, h2, ⟨[_, _, _], _, rfl, ⟨[_], _, rfl, rfl, ⟨[_], _, rfl, rfl, rfl⟩⟩, ⟨[_], _, rfl, rfl, ⟨[_, _, _, _], _, rfl, ⟨[_], _, rfl, rfl, ⟨[_], _, rfl, rfl, ⟨[_], _, rfl, rfl, rfl⟩⟩⟩, ⟨[_], _, rfl, rfl, h3⟩⟩⟩⟩⟩⟩⟩⟩⟩
theorem wG_own_mk {w : World} {lo hi : Nat} {g : gT} {P0 P1 P2 P3 : Value} {F0 F1 F2 F3 : List Nat} (h0 : ((rLsw (rPair rInt rInt))).own w lo hi g.prog [P0] F0) (h1 : ((rLsw (rPair rInt rInt))).own w lo hi g.wr [P1] F1) (h2 : ((rLsw (rPair rInt rInt))).own w lo hi g.lv [P2] F2) (h3 : ((rLsw rInt)).own w lo hi g.seen [P3] F3) : wG.own w lo hi g [P0, .int .i64 g.a, .int .i64 g.pc, P1, P2, .int .i64 g.t.1, .int .i64 g.t.2.1, .bool g.t.2.2, .int .i64 g.pd, .int .i64 g.x.1, .int .i64 g.x.2.1, .bool g.x.2.2.1, .int .i64 g.x.2.2.2, .bool g.hl, P3] (F0 ++ (F1 ++ (F2 ++ F3))) := by
  have h : wG.own w lo hi g [P0, .int .i64 g.a, .int .i64 g.pc, P1, P2, .int .i64 g.t.1, .int .i64 g.t.2.1, .bool g.t.2.2, .int .i64 g.pd, .int .i64 g.x.1, .int .i64 g.x.2.1, .bool g.x.2.2.1, .int .i64 g.x.2.2.2, .bool g.hl, P3] _ := ⟨[_], _, F0, _, rfl, rfl, h0, ⟨[_], _, [], _, rfl, rfl, ⟨rfl, rfl⟩, ⟨[_], _, [], _, rfl, rfl, ⟨rfl, rfl⟩, ⟨[_], _, F1, _, rfl, rfl, h1, ⟨[_], _, F2, _, rfl, rfl, h2, ⟨[_, _, _], _, [], _, rfl, rfl, ⟨[_], _, [], [], rfl, rfl, ⟨rfl, rfl⟩, ⟨[_], _, [], [], rfl, rfl, ⟨rfl, rfl⟩, ⟨rfl, rfl⟩⟩⟩, ⟨[_], _, [], _, rfl, rfl, ⟨rfl, rfl⟩, ⟨[_, _, _, _], _, [], _, rfl, rfl, ⟨[_], _, [], [], rfl, rfl, ⟨rfl, rfl⟩, ⟨[_], _, [], [], rfl, rfl, ⟨rfl, rfl⟩, ⟨[_], _, [], [], rfl, rfl, ⟨rfl, rfl⟩, ⟨rfl, rfl⟩⟩⟩⟩, ⟨[_], _, [], _, rfl, rfl, ⟨rfl, rfl⟩, h3⟩⟩⟩⟩⟩⟩⟩⟩⟩
  simpa using h
theorem wG_open {w0 w : World} {lo hi : Nat} {g : gT} {cs : List Value} {F : List Nat} {T : List Res} (S : St w0 w (ow wG lo hi g cs F :: T)) : ∃ P0 P1 P2 P3 F0 F1 F2 F3, cs = [P0, .int .i64 g.a, .int .i64 g.pc, P1, P2, .int .i64 g.t.1, .int .i64 g.t.2.1, .bool g.t.2.2, .int .i64 g.pd, .int .i64 g.x.1, .int .i64 g.x.2.1, .bool g.x.2.2.1, .int .i64 g.x.2.2.2, .bool g.hl, P3] ∧ St w0 w (ow (rLsw (rPair rInt rInt)) lo hi g.prog [P0] F0 :: ow (rLsw (rPair rInt rInt)) lo hi g.wr [P1] F1 :: ow (rLsw (rPair rInt rInt)) lo hi g.lv [P2] F2 :: ow (rLsw rInt) lo hi g.seen [P3] F3 :: T) := by
  obtain ⟨hown, hnd⟩ := S.at_ 0 rfl
  have hl := S.lo 0 _ rfl
  have hh := S.hi 0 _ rfl
  obtain ⟨P0, P1, P2, P3, F0, F1, F2, F3, rfl, rfl, q0, q1, q2, q3⟩ := wG_own hown
  obtain ⟨m0, n0, d0⟩ := List.nodup_append.1 hnd
  obtain ⟨m1, n1, d1⟩ := List.nodup_append.1 n0
  obtain ⟨m2, n2, d2⟩ := List.nodup_append.1 n1
  have m3 := n2
  refine ⟨P0, P1, P2, P3, F0, F1, F2, F3, rfl, S.parts [ow (rLsw (rPair rInt rInt)) lo hi g.prog [P0] F0, ow (rLsw (rPair rInt rInt)) lo hi g.wr [P1] F1, ow (rLsw (rPair rInt rInt)) lo hi g.lv [P2] F2, ow (rLsw rInt) lo hi g.seen [P3] F3] ?_ ?_⟩
  · intro s hs
    simp only [List.mem_cons, List.not_mem_nil, or_false] at hs
    rcases hs with rfl | rfl | rfl | rfl
    · exact ⟨⟨q0, m0⟩, fun k hk => ⟨by simp [hk.1], hk.2⟩, hl, hh⟩
    · exact ⟨⟨q1, m1⟩, fun k hk => ⟨by simp [hk.1], hk.2⟩, hl, hh⟩
    · exact ⟨⟨q2, m2⟩, fun k hk => ⟨by simp [hk.1], hk.2⟩, hl, hh⟩
    · exact ⟨⟨q3, m3⟩, fun k hk => ⟨by simp [hk.1], hk.2⟩, hl, hh⟩
  · simp only [List.pairwise_cons, List.mem_cons, List.not_mem_nil, or_false, forall_eq_or_imp, forall_eq, List.Pairwise.nil, and_true, false_implies, implies_true, ow]
    exact ⟨⟨(fun k hk hk' => d0 k hk.1 k (by simp [hk'.1]) rfl), (fun k hk hk' => d0 k hk.1 k (by simp [hk'.1]) rfl), (fun k hk hk' => d0 k hk.1 k (by simp [hk'.1]) rfl)⟩, ⟨(fun k hk hk' => d1 k hk.1 k (by simp [hk'.1]) rfl), (fun k hk hk' => d1 k hk.1 k (by simp [hk'.1]) rfl)⟩, (fun k hk hk' => d2 k hk.1 k (by simp [hk'.1]) rfl)⟩
theorem wG_shut {w0 w : World} {g : gT} {L : List Res} {P0 P1 P2 P3 : Value} {F0 F1 F2 F3 : List Nat} {l0 k0 l1 k1 l2 k2 l3 k3 : Nat} (S : St w0 w L) (i0 : Nat) (e0 : L[i0]? = some (ow (rLsw (rPair rInt rInt)) l0 k0 g.prog [P0] F0)) (i1 : Nat) (e1 : L[i1]? = some (ow (rLsw (rPair rInt rInt)) l1 k1 g.wr [P1] F1)) (i2 : Nat) (e2 : L[i2]? = some (ow (rLsw (rPair rInt rInt)) l2 k2 g.lv [P2] F2)) (i3 : Nat) (e3 : L[i3]? = some (ow (rLsw rInt) l3 k3 g.seen [P3] F3)) (n01 : i0 ≠ i1) (n02 : i0 ≠ i2) (n03 : i0 ≠ i3) (n12 : i1 ≠ i2) (n13 : i1 ≠ i3) (n23 : i2 ≠ i3) : wG.own w w0.heap.size w.heap.size g [P0, .int .i64 g.a, .int .i64 g.pc, P1, P2, .int .i64 g.t.1, .int .i64 g.t.2.1, .bool g.t.2.2, .int .i64 g.pd, .int .i64 g.x.1, .int .i64 g.x.2.1, .bool g.x.2.2.1, .int .i64 g.x.2.2.2, .bool g.hl, P3] (F0 ++ (F1 ++ (F2 ++ F3))) ∧ (F0 ++ (F1 ++ (F2 ++ F3))).Nodup := by
  refine ⟨wG_own_mk (S.own i0 e0) (S.own i1 e1) (S.own i2 e2) (S.own i3 e3), ?_⟩
  exact (nodup_app (S.nodup i0 e0) (nodup_app (S.nodup i1 e1) (nodup_app (S.nodup i2 e2) (S.nodup i3 e3) (fun k hk => (S.disj i2 i3 e2 e3 n23 k hk))) (fun k hk => (not_app (S.disj i1 i2 e1 e2 n12 k hk) (S.disj i1 i3 e1 e3 n13 k hk)))) (fun k hk => (not_app (S.disj i0 i1 e0 e1 n01 k hk) (not_app (S.disj i0 i2 e0 e2 n02 k hk) (S.disj i0 i3 e0 e3 n03 k hk)))))
theorem wG_open2 {w0 w : World} {lo hi : Nat} {g : gT} {cs : List Value} {F : List Nat} {T : List Res} (S : St w0 w (ow wG lo hi g cs F :: T)) : ∃ P0 P1 P2 P3 F0 F1 F2 F3, cs = [P0, .int .i64 g.a, .int .i64 g.pc, P1, P2, .int .i64 g.t.1, .int .i64 g.t.2.1, .bool g.t.2.2, .int .i64 g.pd, .int .i64 g.x.1, .int .i64 g.x.2.1, .bool g.x.2.2.1, .int .i64 g.x.2.2.2, .bool g.hl, P3] ∧ F = F0 ++ (F1 ++ (F2 ++ F3)) ∧ St w0 w (ow (rLsw (rPair rInt rInt)) lo hi g.prog [P0] F0 :: ow (rLsw (rPair rInt rInt)) lo hi g.wr [P1] F1 :: ow (rLsw (rPair rInt rInt)) lo hi g.lv [P2] F2 :: ow (rLsw rInt) lo hi g.seen [P3] F3 :: T) := by
  obtain ⟨hown, hnd⟩ := S.at_ 0 rfl
  have hl := S.lo 0 _ rfl
  have hh := S.hi 0 _ rfl
  obtain ⟨P0, P1, P2, P3, F0, F1, F2, F3, rfl, rfl, q0, q1, q2, q3⟩ := wG_own hown
  obtain ⟨m0, n0, d0⟩ := List.nodup_append.1 hnd
  obtain ⟨m1, n1, d1⟩ := List.nodup_append.1 n0
  obtain ⟨m2, n2, d2⟩ := List.nodup_append.1 n1
  have m3 := n2
  refine ⟨P0, P1, P2, P3, F0, F1, F2, F3, rfl, rfl, S.parts [ow (rLsw (rPair rInt rInt)) lo hi g.prog [P0] F0, ow (rLsw (rPair rInt rInt)) lo hi g.wr [P1] F1, ow (rLsw (rPair rInt rInt)) lo hi g.lv [P2] F2, ow (rLsw rInt) lo hi g.seen [P3] F3] ?_ ?_⟩
  · intro s hs
    simp only [List.mem_cons, List.not_mem_nil, or_false] at hs
    rcases hs with rfl | rfl | rfl | rfl
    · exact ⟨⟨q0, m0⟩, fun k hk => ⟨by simp [hk.1], hk.2⟩, hl, hh⟩
    · exact ⟨⟨q1, m1⟩, fun k hk => ⟨by simp [hk.1], hk.2⟩, hl, hh⟩
    · exact ⟨⟨q2, m2⟩, fun k hk => ⟨by simp [hk.1], hk.2⟩, hl, hh⟩
    · exact ⟨⟨q3, m3⟩, fun k hk => ⟨by simp [hk.1], hk.2⟩, hl, hh⟩
  · simp only [List.pairwise_cons, List.mem_cons, List.not_mem_nil, or_false, forall_eq_or_imp, forall_eq, List.Pairwise.nil, and_true, false_implies, implies_true, ow]
    exact ⟨⟨(fun k hk hk' => d0 k hk.1 k (by simp [hk'.1]) rfl), (fun k hk hk' => d0 k hk.1 k (by simp [hk'.1]) rfl), (fun k hk hk' => d0 k hk.1 k (by simp [hk'.1]) rfl)⟩, ⟨(fun k hk hk' => d1 k hk.1 k (by simp [hk'.1]) rfl), (fun k hk hk' => d1 k hk.1 k (by simp [hk'.1]) rfl)⟩, (fun k hk hk' => d2 k hk.1 k (by simp [hk'.1]) rfl)⟩
theorem wG_shut2 {w0 w : World} {lo hi : Nat} {g : gT} {P0 P1 P2 P3 : Value} {F0 F1 F2 F3 : List Nat} {T : List Res} (S : St w0 w (ow (rLsw (rPair rInt rInt)) lo hi g.prog [P0] F0 :: ow (rLsw (rPair rInt rInt)) lo hi g.wr [P1] F1 :: ow (rLsw (rPair rInt rInt)) lo hi g.lv [P2] F2 :: ow (rLsw rInt) lo hi g.seen [P3] F3 :: T)) : St w0 w (ow wG lo hi g [P0, .int .i64 g.a, .int .i64 g.pc, P1, P2, .int .i64 g.t.1, .int .i64 g.t.2.1, .bool g.t.2.2, .int .i64 g.pd, .int .i64 g.x.1, .int .i64 g.x.2.1, .bool g.x.2.2.1, .int .i64 g.x.2.2.2, .bool g.hl, P3] (F0 ++ (F1 ++ (F2 ++ F3))) :: T) := by
  have hnd := (wG_shut (g := g) S 0 rfl 1 rfl 2 rfl 3 rfl (by decide) (by decide) (by decide) (by decide) (by decide) (by decide)).2
  refine Sx.St.merge (rs := [ow (rLsw (rPair rInt rInt)) lo hi g.prog [P0] F0, ow (rLsw (rPair rInt rInt)) lo hi g.wr [P1] F1, ow (rLsw (rPair rInt rInt)) lo hi g.lv [P2] F2, ow (rLsw rInt) lo hi g.seen [P3] F3]) S (ow wG lo hi g [P0, .int .i64 g.a, .int .i64 g.pc, P1, P2, .int .i64 g.t.1, .int .i64 g.t.2.1, .bool g.t.2.2, .int .i64 g.pd, .int .i64 g.x.1, .int .i64 g.x.2.1, .bool g.x.2.2.1, .int .i64 g.x.2.2.2, .bool g.hl, P3] (F0 ++ (F1 ++ (F2 ++ F3)))) ⟨wG_own_mk (S.at_ 0 rfl).1 (S.at_ 1 rfl).1 (S.at_ 2 rfl).1 (S.at_ 3 rfl).1, hnd⟩ (fun k hk => ?_) (S.lo 0 _ rfl : w0.heap.size ≤ lo) (S.hi 0 _ rfl : hi ≤ w.heap.size)
  obtain ⟨hk, hb⟩ := hk
  simp only [List.mem_append] at hk
  rcases hk with h | h | h | h
  · exact ⟨_, List.mem_cons_self, h, hb⟩
  · exact ⟨_, List.mem_cons_of_mem _ (List.mem_cons_self), h, hb⟩
  · exact ⟨_, List.mem_cons_of_mem _ (List.mem_cons_of_mem _ (List.mem_cons_self)), h, hb⟩
  · exact ⟨_, List.mem_cons_of_mem _ (List.mem_cons_of_mem _ (List.mem_cons_of_mem _ (List.mem_cons_self))), h, hb⟩
theorem copen_Guest {P : Program} {n : Nat} {Q : Exit → Act → World → Prop} {w0 : World} {T : Sx.Tl} {c : Code} {lo hi : Nat} {g : gT} {es : List Value} {Fi : List Nat} {H : Res} {rest : List Res} (kk : ∀ P0 P1 P2 P3 F0 F1 F2 F3, es = [P0, .int .i64 g.a, .int .i64 g.pc, P1, P2, .int .i64 g.t.1, .int .i64 g.t.2.1, .bool g.t.2.2, .int .i64 g.pd, .int .i64 g.x.1, .int .i64 g.x.2.1, .bool g.x.2.2.1, .int .i64 g.x.2.2.2, .bool g.hl, P3] → Fi = F0 ++ (F1 ++ (F2 ++ F3)) → Sx.C P n Q w0 T (H :: ow (rLsw (rPair rInt rInt)) lo hi g.prog [P0] F0 :: ow (rLsw (rPair rInt rInt)) lo hi g.wr [P1] F1 :: ow (rLsw (rPair rInt rInt)) lo hi g.lv [P2] F2 :: ow (rLsw rInt) lo hi g.seen [P3] F3 :: rest) c) : Sx.C P n Q w0 T (H :: ow wG lo hi g es Fi :: rest) c := fun a w hA S => by
  obtain ⟨P0, P1, P2, P3, F0, F1, F2, F3, e1, e2, S'⟩ := wG_open2 (Sx.St.front S 1 rfl)
  exact kk P0 P1 P2 P3 F0 F1 F2 F3 e1 e2 a w hA (Sx.St.front S' 4 rfl)
theorem cshut_Guest {w0 w : World} {lo hi : Nat} {g : gT} {P0 P1 P2 P3 : Value} {F0 F1 F2 F3 : List Nat} {H : Res} {rest : List Res} (S : St w0 w (H :: ow (rLsw (rPair rInt rInt)) lo hi g.prog [P0] F0 :: ow (rLsw (rPair rInt rInt)) lo hi g.wr [P1] F1 :: ow (rLsw (rPair rInt rInt)) lo hi g.lv [P2] F2 :: ow (rLsw rInt) lo hi g.seen [P3] F3 :: rest)) : St w0 w (H :: ow wG lo hi g [P0, .int .i64 g.a, .int .i64 g.pc, P1, P2, .int .i64 g.t.1, .int .i64 g.t.2.1, .bool g.t.2.2, .int .i64 g.pd, .int .i64 g.x.1, .int .i64 g.x.2.1, .bool g.x.2.2.1, .int .i64 g.x.2.2.2, .bool g.hl, P3] (F0 ++ (F1 ++ (F2 ++ F3))) :: rest) :=
  Sx.St.front (wG_shut2 (g := g) (Sx.St.front (Sx.St.front (Sx.St.front (Sx.St.front S 4 rfl) 4 rfl) 4 rfl) 4 rfl)) 1 rfl
theorem tcnt_Guest (g : gT) : wG.tcnt g = cntAll (rPair rInt rInt) g.prog + cntAll (rPair rInt rInt) g.wr + cntAll (rPair rInt rInt) g.lv + cntAll rInt g.seen := by simp only [wG, rVia, rPair, rInt, rBool, rLsw, rCtl, rExit]; omega
theorem size_Guest (g : gT) : wG.size g = (g.prog.length + sizeAll (rPair rInt rInt) g.prog) + (g.wr.length + sizeAll (rPair rInt rInt) g.wr) + (g.lv.length + sizeAll (rPair rInt rInt) g.lv) + (g.seen.length + sizeAll rInt g.seen) := by simp only [wG, rVia, rPair, rInt, rBool, rLsw, rCtl, rExit]; omega
theorem cnt_Guest (g : gT) : wG.cnt g = cntAll (rPair rInt rInt) g.prog + cntAll (rPair rInt rInt) g.wr + cntAll (rPair rInt rInt) g.lv + cntAll rInt g.seen + 11 := by simp only [wG, rVia, rPair, rInt, rBool, rLsw, rCtl, rExit]; omega
theorem own_zero_Guest (w : World) (lo hi : Nat) : wG.own w lo hi ({ prog := [], a := 0, pc := 0, wr := [], lv := [], t := (0, 0, false), pd := 0, x := (0, 0, false, 0), hl := false, seen := [] } : gT) [.slice none 0 0, .int .i64 0, .int .i64 0, .slice none 0 0, .slice none 0 0, .int .i64 0, .int .i64 0, .bool false, .int .i64 0, .int .i64 0, .int .i64 0, .bool false, .int .i64 0, .bool false, .slice none 0 0] [] := by
  have h := wG_own_mk (w := w) (lo := lo) (hi := hi) (g := ({ prog := [], a := 0, pc := 0, wr := [], lv := [], t := (0, 0, false), pd := 0, x := (0, 0, false, 0), hl := false, seen := [] } : gT)) (P0 := .slice none 0 0) (F0 := []) (P1 := .slice none 0 0) (F1 := []) (P2 := .slice none 0 0) (F2 := []) (P3 := .slice none 0 0) (F3 := []) (own_nil _ _ _) (own_nil _ _ _) (own_nil _ _ _) (own_nil _ _ _)
  exact h
theorem open_zero_Guest {w : World} {lo hi : Nat} {es : List Value} {F : List Nat} (h : wG.own w lo hi ({ prog := [], a := 0, pc := 0, wr := [], lv := [], t := (0, 0, false), pd := 0, x := (0, 0, false, 0), hl := false, seen := [] } : gT) es F) : ∃ A0 A1 A2 A3 c0 c1 c2 c3, es = [.slice A0 0 c0, .int .i64 ({ prog := [], a := 0, pc := 0, wr := [], lv := [], t := (0, 0, false), pd := 0, x := (0, 0, false, 0), hl := false, seen := [] } : gT).a, .int .i64 ({ prog := [], a := 0, pc := 0, wr := [], lv := [], t := (0, 0, false), pd := 0, x := (0, 0, false, 0), hl := false, seen := [] } : gT).pc, .slice A1 0 c1, .slice A2 0 c2, .int .i64 ({ prog := [], a := 0, pc := 0, wr := [], lv := [], t := (0, 0, false), pd := 0, x := (0, 0, false, 0), hl := false, seen := [] } : gT).t.1, .int .i64 ({ prog := [], a := 0, pc := 0, wr := [], lv := [], t := (0, 0, false), pd := 0, x := (0, 0, false, 0), hl := false, seen := [] } : gT).t.2.1, .bool ({ prog := [], a := 0, pc := 0, wr := [], lv := [], t := (0, 0, false), pd := 0, x := (0, 0, false, 0), hl := false, seen := [] } : gT).t.2.2, .int .i64 ({ prog := [], a := 0, pc := 0, wr := [], lv := [], t := (0, 0, false), pd := 0, x := (0, 0, false, 0), hl := false, seen := [] } : gT).pd, .int .i64 ({ prog := [], a := 0, pc := 0, wr := [], lv := [], t := (0, 0, false), pd := 0, x := (0, 0, false, 0), hl := false, seen := [] } : gT).x.1, .int .i64 ({ prog := [], a := 0, pc := 0, wr := [], lv := [], t := (0, 0, false), pd := 0, x := (0, 0, false, 0), hl := false, seen := [] } : gT).x.2.1, .bool ({ prog := [], a := 0, pc := 0, wr := [], lv := [], t := (0, 0, false), pd := 0, x := (0, 0, false, 0), hl := false, seen := [] } : gT).x.2.2.1, .int .i64 ({ prog := [], a := 0, pc := 0, wr := [], lv := [], t := (0, 0, false), pd := 0, x := (0, 0, false, 0), hl := false, seen := [] } : gT).x.2.2.2, .bool ({ prog := [], a := 0, pc := 0, wr := [], lv := [], t := (0, 0, false), pd := 0, x := (0, 0, false, 0), hl := false, seen := [] } : gT).hl, .slice A3 0 c3] := by
  obtain ⟨P0, P1, P2, P3, F0, F1, F2, F3, rfl, -, q0, q1, q2, q3⟩ := wG_own h
  obtain ⟨A0, c0, e0, -⟩ := lst_val ((rLsw _).reads q0)
  subst e0
  obtain ⟨A1, c1, e1, -⟩ := lst_val ((rLsw _).reads q1)
  subst e1
  obtain ⟨A2, c2, e2, -⟩ := lst_val ((rLsw _).reads q2)
  subst e2
  obtain ⟨A3, c3, e3, -⟩ := lst_val ((rLsw _).reads q3)
  subst e3
  exact ⟨A0, A1, A2, A3, c0, c1, c2, c3, rfl⟩

set_option maxRecDepth 100000 in
set_option maxHeartbeats 4000000 in
theorem keq_Guest (x : gT) (cs ds : List Value) (w : World) (hc : wG.cap x) (h : wG.rd w 0 w.heap.size x cs) (j : wG.rd w 0 w.heap.size x ds) : Calls Try.prog 38 #[.agg cs.toArray, .agg ds.toArray] w (fun e w' => e = .returned (.bool true) ∧ Below w.heap.size w w') := by
  obtain ⟨hcap0, hcap1, hcap2, hcap3, hcap4, hcap5, hcap6, hcap7, hcap8, hcap9⟩ := hc
  have hR := h
  obtain ⟨hP0, hP1, hP2, hP3, rfl, hf0, hf1, hf2, hf3⟩ := wG_rd h
  obtain ⟨hA0, hK0, he0, -⟩ := lst_val hf0
  subst he0
  obtain ⟨hA1, hK1, he1, -⟩ := lst_val hf1
  subst he1
  obtain ⟨hA2, hK2, he2, -⟩ := lst_val hf2
  subst he2
  obtain ⟨hA3, hK3, he3, -⟩ := lst_val hf3
  subst he3
  have jR := j
  obtain ⟨jP0, jP1, jP2, jP3, rfl, jf0, jf1, jf2, jf3⟩ := wG_rd j
  obtain ⟨jA0, jK0, je0, -⟩ := lst_val jf0
  subst je0
  obtain ⟨jA1, jK1, je1, -⟩ := lst_val jf1
  subst je1
  obtain ⟨jA2, jK2, je2, -⟩ := lst_val jf2
  subst je2
  obtain ⟨jA3, jK3, je3, -⟩ := lst_val jf3
  subst je3
  refine Sx.enter (args := [.agg #[.slice hA0 x.prog.length hK0, .int .i64 x.a, .int .i64 x.pc, .slice hA1 x.wr.length hK1, .slice hA2 x.lv.length hK2, .int .i64 x.t.1, .int .i64 x.t.2.1, .bool x.t.2.2, .int .i64 x.pd, .int .i64 x.x.1, .int .i64 x.x.2.1, .bool x.x.2.2.1, .int .i64 x.x.2.2.2, .bool x.hl, .slice hA3 x.seen.length hK3], .agg #[.slice jA0 x.prog.length jK0, .int .i64 x.a, .int .i64 x.pc, .slice jA1 x.wr.length jK1, .slice jA2 x.lv.length jK2, .int .i64 x.t.1, .int .i64 x.t.2.1, .bool x.t.2.2, .int .i64 x.pd, .int .i64 x.x.1, .int .i64 x.x.2.1, .bool x.x.2.2.1, .int .i64 x.x.2.2.2, .bool x.hl, .slice jA3 x.seen.length jK3]]) Try.func38 rfl Try.ntmps38 rfl ?_
  refine Sx.C.seq (Sx.C.region ?_)
  refine Sx.G.b [.slice hA0 x.prog.length hK0, .int .i64 x.a, .int .i64 x.pc, .slice hA1 x.wr.length hK1, .slice hA2 x.lv.length hK2, .int .i64 x.t.1, .int .i64 x.t.2.1, .bool x.t.2.2, .int .i64 x.pd, .int .i64 x.x.1, .int .i64 x.x.2.1, .bool x.x.2.2.1, .int .i64 x.x.2.2.2, .bool x.hl, .slice hA3 x.seen.length hK3] (fun b1 => ?_)
  refine Sx.G.b [.slice jA0 x.prog.length jK0, .int .i64 x.a, .int .i64 x.pc, .slice jA1 x.wr.length jK1, .slice jA2 x.lv.length jK2, .int .i64 x.t.1, .int .i64 x.t.2.1, .bool x.t.2.2, .int .i64 x.pd, .int .i64 x.x.1, .int .i64 x.x.2.1, .bool x.x.2.2.1, .int .i64 x.x.2.2.2, .bool x.hl, .slice jA3 x.seen.length jK3] (fun b2 => ?_)
  refine Sx.G.p (.bool false) ?_
  refine Sx.G.nil (Sx.E.next (Sx.C.seq (Sx.C.seq (Sx.C.region ?_))))
  refine Sx.G.p (.pointer (some ⟨b1, 0, none⟩)) ?_
  refine Sx.G.g (.slice hA0 x.prog.length hK0) .m1 .m0 ?_
  refine Sx.G.p (.pointer (some ⟨b2, 0, none⟩)) ?_
  refine Sx.G.g (.slice jA0 x.prog.length jK0) .m0 .m0 ?_
  refine Sx.G.cp 51 #[.slice hA0 x.prog.length hK0, .slice jA0 x.prog.length jK0] (.bool true) (fun w S => by exact Kit.keq_InsS x.prog hA0 hK0 jA0 jK0 _ hcap0 (St.old (r := (rLsw (rPair rInt rInt))) S hf0) (St.old (r := (rLsw (rPair rInt rInt))) S jf0)) ?_
  refine Sx.G.p (.bool false) ?_
  refine Sx.G.nil (Sx.E.next ?_)
  refine Sx.C.nn ?_
  refine Sx.C.skip (Sx.E.next (Sx.C.seq (Sx.C.seq (Sx.C.region ?_))))
  refine Sx.G.p (.pointer (some ⟨b1, 1, none⟩)) ?_
  refine Sx.G.g (.int .i64 x.a) .m1 .m1 ?_
  refine Sx.G.p (.pointer (some ⟨b2, 1, none⟩)) ?_
  refine Sx.G.g (.int .i64 x.a) .m0 .m1 ?_
  refine Sx.G.q (.bool (x.a != x.a)) (.bool false) (congrArg Value.bool (bne_self_eq_false _)) ?_
  refine Sx.G.nil (Sx.E.next ?_)
  refine Sx.C.nn ?_
  refine Sx.C.skip (Sx.E.next (Sx.C.seq (Sx.C.seq (Sx.C.region ?_))))
  refine Sx.G.p (.pointer (some ⟨b1, 2, none⟩)) ?_
  refine Sx.G.g (.int .i64 x.pc) .m1 .m2 ?_
  refine Sx.G.p (.pointer (some ⟨b2, 2, none⟩)) ?_
  refine Sx.G.g (.int .i64 x.pc) .m0 .m2 ?_
  refine Sx.G.q (.bool (x.pc != x.pc)) (.bool false) (congrArg Value.bool (bne_self_eq_false _)) ?_
  refine Sx.G.nil (Sx.E.next ?_)
  refine Sx.C.nn ?_
  refine Sx.C.skip (Sx.E.next (Sx.C.seq (Sx.C.seq (Sx.C.region ?_))))
  refine Sx.G.p (.pointer (some ⟨b1, 3, none⟩)) ?_
  refine Sx.G.g (.slice hA1 x.wr.length hK1) .m1 .m3 ?_
  refine Sx.G.p (.pointer (some ⟨b2, 3, none⟩)) ?_
  refine Sx.G.g (.slice jA1 x.wr.length jK1) .m0 .m3 ?_
  refine Sx.G.cp 52 #[.slice hA1 x.wr.length hK1, .slice jA1 x.wr.length jK1] (.bool true) (fun w S => by exact Kit.keq_SlotS x.wr hA1 hK1 jA1 jK1 _ hcap3 (St.old (r := (rLsw (rPair rInt rInt))) S hf1) (St.old (r := (rLsw (rPair rInt rInt))) S jf1)) ?_
  refine Sx.G.p (.bool false) ?_
  refine Sx.G.nil (Sx.E.next ?_)
  refine Sx.C.nn ?_
  refine Sx.C.skip (Sx.E.next (Sx.C.seq (Sx.C.seq (Sx.C.region ?_))))
  refine Sx.G.p (.pointer (some ⟨b1, 4, none⟩)) ?_
  refine Sx.G.g (.slice hA2 x.lv.length hK2) .m1 .m4 ?_
  refine Sx.G.p (.pointer (some ⟨b2, 4, none⟩)) ?_
  refine Sx.G.g (.slice jA2 x.lv.length jK2) .m0 .m4 ?_
  refine Sx.G.cp 52 #[.slice hA2 x.lv.length hK2, .slice jA2 x.lv.length jK2] (.bool true) (fun w S => by exact Kit.keq_SlotS x.lv hA2 hK2 jA2 jK2 _ hcap4 (St.old (r := (rLsw (rPair rInt rInt))) S hf2) (St.old (r := (rLsw (rPair rInt rInt))) S jf2)) ?_
  refine Sx.G.p (.bool false) ?_
  refine Sx.G.nil (Sx.E.next ?_)
  refine Sx.C.nn ?_
  refine Sx.C.skip (Sx.E.next (Sx.C.seq (Sx.C.seq (Sx.C.region ?_))))
  refine Sx.G.p (.pointer (some ⟨b1, 5, none⟩)) ?_
  refine Sx.G.lp 5 [.int .i64 x.t.1, .int .i64 x.t.2.1, .bool x.t.2.2] .m1 ?_
  refine Sx.G.p (.pointer (some ⟨b2, 5, none⟩)) ?_
  refine Sx.G.lp 5 [.int .i64 x.t.1, .int .i64 x.t.2.1, .bool x.t.2.2] .m0 ?_
  refine Sx.G.cp 53 #[.agg #[.int .i64 x.t.1, .int .i64 x.t.2.1, .bool x.t.2.2], .agg #[.int .i64 x.t.1, .int .i64 x.t.2.1, .bool x.t.2.2]] (.bool true) (fun w S => by exact Kit.keq_Ctl x.t _) ?_
  refine Sx.G.p (.bool false) ?_
  refine Sx.G.nil (Sx.E.next ?_)
  refine Sx.C.nn ?_
  refine Sx.C.skip (Sx.E.next (Sx.C.seq (Sx.C.seq (Sx.C.region ?_))))
  refine Sx.G.p (.pointer (some ⟨b1, 8, none⟩)) ?_
  refine Sx.G.g (.int .i64 x.pd) .m1 .m8 ?_
  refine Sx.G.p (.pointer (some ⟨b2, 8, none⟩)) ?_
  refine Sx.G.g (.int .i64 x.pd) .m0 .m8 ?_
  refine Sx.G.q (.bool (x.pd != x.pd)) (.bool false) (congrArg Value.bool (bne_self_eq_false _)) ?_
  refine Sx.G.nil (Sx.E.next ?_)
  refine Sx.C.nn ?_
  refine Sx.C.skip (Sx.E.next (Sx.C.seq (Sx.C.seq (Sx.C.region ?_))))
  refine Sx.G.p (.pointer (some ⟨b1, 9, none⟩)) ?_
  refine Sx.G.lp 9 [.int .i64 x.x.1, .int .i64 x.x.2.1, .bool x.x.2.2.1, .int .i64 x.x.2.2.2] .m1 ?_
  refine Sx.G.p (.pointer (some ⟨b2, 9, none⟩)) ?_
  refine Sx.G.lp 9 [.int .i64 x.x.1, .int .i64 x.x.2.1, .bool x.x.2.2.1, .int .i64 x.x.2.2.2] .m0 ?_
  refine Sx.G.cp 19 #[.agg #[.int .i64 x.x.1, .int .i64 x.x.2.1, .bool x.x.2.2.1, .int .i64 x.x.2.2.2], .agg #[.int .i64 x.x.1, .int .i64 x.x.2.1, .bool x.x.2.2.1, .int .i64 x.x.2.2.2]] (.bool true) (fun w S => by exact Kit.keq_Exit x.x _) ?_
  refine Sx.G.p (.bool false) ?_
  refine Sx.G.nil (Sx.E.next ?_)
  refine Sx.C.nn ?_
  refine Sx.C.skip (Sx.E.next (Sx.C.seq (Sx.C.seq (Sx.C.region ?_))))
  refine Sx.G.p (.pointer (some ⟨b1, 13, none⟩)) ?_
  refine Sx.G.g (.bool x.hl) .m1 .m13 ?_
  refine Sx.G.p (.pointer (some ⟨b2, 13, none⟩)) ?_
  refine Sx.G.g (.bool x.hl) .m0 .m13 ?_
  refine Sx.G.q (.bool (x.hl != x.hl)) (.bool false) (congrArg Value.bool (bne_self_eq_false _)) ?_
  refine Sx.G.nil (Sx.E.next ?_)
  refine Sx.C.nn ?_
  refine Sx.C.skip (Sx.E.next (Sx.C.seq (Sx.C.seq (Sx.C.region ?_))))
  refine Sx.G.p (.pointer (some ⟨b1, 14, none⟩)) ?_
  refine Sx.G.g (.slice hA3 x.seen.length hK3) .m1 .m14 ?_
  refine Sx.G.p (.pointer (some ⟨b2, 14, none⟩)) ?_
  refine Sx.G.g (.slice jA3 x.seen.length jK3) .m0 .m14 ?_
  refine Sx.G.cp 10 #[.slice hA3 x.seen.length hK3, .slice jA3 x.seen.length jK3] (.bool true) (fun w S => by exact Kit.keq_IntS x.seen hA3 hK3 jA3 jK3 _ hcap9 (St.old (r := (rLsw rInt)) S hf3) (St.old (r := (rLsw rInt)) S jf3)) ?_
  refine Sx.G.p (.bool false) ?_
  refine Sx.G.nil (Sx.E.next ?_)
  refine Sx.C.nn ?_
  refine Sx.C.skip (Sx.E.next (Sx.C.seq (Sx.C.region ?_)))
  refine Sx.G.p (.bool true) ?_
  refine Sx.G.nil (Sx.E.next (Sx.C.ret ?_))
  refine Sx.E.ret1 (.bool true) rfl (by kernel_rfl) (fun w S => ?_)
  exact ⟨rfl, S.below⟩

set_option maxRecDepth 100000 in
set_option maxHeartbeats 4000000 in
theorem ksz_Guest (x : gT) (cs : List Value) (left : Int) (w : World) (hw : wG.wf x) (h0 : 0 ≤ left) (h1 : left ≤ 1048576) (h : wG.rd w 0 w.heap.size x cs) : Calls Try.prog 34 #[.agg cs.toArray, .int .i64 left] w (fun e w' => ∃ l, e = .returned (.int .i64 l) ∧ Kit.Sz left (wG.size x) l ∧ Below w.heap.size w w') := by
  obtain ⟨hwf0, hwf1, hwf2, hwf3, hwf4, hwf5, hwf6, hwf7, hwf8, hwf9⟩ := hw
  have hR := h
  obtain ⟨hP0, hP1, hP2, hP3, rfl, hf0, hf1, hf2, hf3⟩ := wG_rd h
  obtain ⟨hA0, hK0, he0, -⟩ := lst_val hf0
  subst he0
  obtain ⟨hA1, hK1, he1, -⟩ := lst_val hf1
  subst he1
  obtain ⟨hA2, hK2, he2, -⟩ := lst_val hf2
  subst he2
  obtain ⟨hA3, hK3, he3, -⟩ := lst_val hf3
  subst he3
  refine Sx.enter (args := [.agg #[.slice hA0 x.prog.length hK0, .int .i64 x.a, .int .i64 x.pc, .slice hA1 x.wr.length hK1, .slice hA2 x.lv.length hK2, .int .i64 x.t.1, .int .i64 x.t.2.1, .bool x.t.2.2, .int .i64 x.pd, .int .i64 x.x.1, .int .i64 x.x.2.1, .bool x.x.2.2.1, .int .i64 x.x.2.2.2, .bool x.hl, .slice hA3 x.seen.length hK3], .int .i64 left]) Try.func34 rfl Try.ntmps34 rfl ?_
  refine Sx.C.seq (Sx.C.region ?_)
  refine Sx.G.b [.slice hA0 x.prog.length hK0, .int .i64 x.a, .int .i64 x.pc, .slice hA1 x.wr.length hK1, .slice hA2 x.lv.length hK2, .int .i64 x.t.1, .int .i64 x.t.2.1, .bool x.t.2.2, .int .i64 x.pd, .int .i64 x.x.1, .int .i64 x.x.2.1, .bool x.x.2.2.1, .int .i64 x.x.2.2.2, .bool x.hl, .slice hA3 x.seen.length hK3] (fun b1 => ?_)
  refine Sx.G.p (.int .i64 0) ?_
  refine Sx.G.nil (Sx.E.next (Sx.C.seq (Sx.C.region ?_)))
  refine Sx.G.p (.pointer (some ⟨b1, 0, none⟩)) ?_
  refine Sx.G.g (.slice hA0 x.prog.length hK0) .m0 .m0 ?_
  refine Sx.G.p (.int .i64 left) ?_
  refine Sx.G.c 45 #[.slice hA0 x.prog.length hK0, .int .i64 left] (fun w2 S => (Kit.ksz_InsS x.prog hA0 hK0 left _ hwf0 (by omega) (by omega) (St.old (r := (rLsw (rPair rInt rInt))) S hf0)).mono fun e w2' hp => ?_)
  obtain ⟨l2, rfl, hz2, hb⟩ := hp
  replace hz2 : Kit.Sz left (x.prog.length + sizeAll (rPair rInt rInt) x.prog) l2 := hz2
  unfold Kit.Sz at hz2
  refine ⟨_, _, rfl, (S.call hb), ?_⟩
  clear S hb
  refine Sx.G.p (.int .i64 l2) ?_
  refine Sx.G.nil (Sx.E.next (Sx.C.seq (Sx.C.seq (Sx.C.region ?_))))
  refine Sx.G.p (.int .i64 l2) ?_
  refine Sx.G.p (.bool (decide (l2 < 0))) ?_
  refine Sx.G.nil (Sx.E.next ?_)
  cases hc3 : (decide (l2 < 0))
  · have hb3 := hc3
    replace hc3 := of_decide_eq_false hc3
    refine Sx.C.nn ?_
    refine Sx.C.skip (Sx.E.next (Sx.C.seq (Sx.C.region ?_)))
    refine Sx.G.p (.pointer (some ⟨b1, 3, none⟩)) ?_
    refine Sx.G.g (.slice hA1 x.wr.length hK1) .m0 .m3 ?_
    refine Sx.G.p (.int .i64 l2) ?_
    refine Sx.G.c 46 #[.slice hA1 x.wr.length hK1, .int .i64 l2] (fun w4 S => (Kit.ksz_SlotS x.wr hA1 hK1 l2 _ hwf3 (by omega) (by omega) (St.old (r := (rLsw (rPair rInt rInt))) S hf1)).mono fun e w4' hp => ?_)
    obtain ⟨l4, rfl, hz4, hb⟩ := hp
    replace hz4 : Kit.Sz l2 (x.wr.length + sizeAll (rPair rInt rInt) x.wr) l4 := hz4
    unfold Kit.Sz at hz4
    refine ⟨_, _, rfl, (S.call hb), ?_⟩
    clear S hb
    refine Sx.G.p (.int .i64 l4) ?_
    refine Sx.G.nil (Sx.E.next (Sx.C.seq (Sx.C.seq (Sx.C.region ?_))))
    refine Sx.G.p (.int .i64 l4) ?_
    refine Sx.G.p (.bool (decide (l4 < 0))) ?_
    refine Sx.G.nil (Sx.E.next ?_)
    cases hc5 : (decide (l4 < 0))
    · have hb5 := hc5
      replace hc5 := of_decide_eq_false hc5
      refine Sx.C.nn ?_
      refine Sx.C.skip (Sx.E.next (Sx.C.seq (Sx.C.region ?_)))
      refine Sx.G.p (.pointer (some ⟨b1, 4, none⟩)) ?_
      refine Sx.G.g (.slice hA2 x.lv.length hK2) .m0 .m4 ?_
      refine Sx.G.p (.int .i64 l4) ?_
      refine Sx.G.c 46 #[.slice hA2 x.lv.length hK2, .int .i64 l4] (fun w6 S => (Kit.ksz_SlotS x.lv hA2 hK2 l4 _ hwf4 (by omega) (by omega) (St.old (r := (rLsw (rPair rInt rInt))) S hf2)).mono fun e w6' hp => ?_)
      obtain ⟨l6, rfl, hz6, hb⟩ := hp
      replace hz6 : Kit.Sz l4 (x.lv.length + sizeAll (rPair rInt rInt) x.lv) l6 := hz6
      unfold Kit.Sz at hz6
      refine ⟨_, _, rfl, (S.call hb), ?_⟩
      clear S hb
      refine Sx.G.p (.int .i64 l6) ?_
      refine Sx.G.nil (Sx.E.next (Sx.C.seq (Sx.C.seq (Sx.C.region ?_))))
      refine Sx.G.p (.int .i64 l6) ?_
      refine Sx.G.p (.bool (decide (l6 < 0))) ?_
      refine Sx.G.nil (Sx.E.next ?_)
      cases hc7 : (decide (l6 < 0))
      · have hb7 := hc7
        replace hc7 := of_decide_eq_false hc7
        refine Sx.C.nn ?_
        refine Sx.C.skip (Sx.E.next (Sx.C.seq (Sx.C.region ?_)))
        refine Sx.G.p (.pointer (some ⟨b1, 14, none⟩)) ?_
        refine Sx.G.g (.slice hA3 x.seen.length hK3) .m0 .m14 ?_
        refine Sx.G.p (.int .i64 l6) ?_
        refine Sx.G.c 22 #[.slice hA3 x.seen.length hK3, .int .i64 l6] (fun w8 S => (Kit.ksz_IntS x.seen hA3 hK3 l6 _ hwf9 (by omega) (by omega) (St.old (r := (rLsw rInt)) S hf3)).mono fun e w8' hp => ?_)
        obtain ⟨l8, rfl, hz8, hb⟩ := hp
        replace hz8 : Kit.Sz l6 (x.seen.length + sizeAll rInt x.seen) l8 := hz8
        unfold Kit.Sz at hz8
        refine ⟨_, _, rfl, (S.call hb), ?_⟩
        clear S hb
        refine Sx.G.p (.int .i64 l8) ?_
        refine Sx.G.nil (Sx.E.next (Sx.C.seq (Sx.C.seq (Sx.C.region ?_))))
        refine Sx.G.p (.int .i64 l8) ?_
        refine Sx.G.p (.bool (decide (l8 < 0))) ?_
        refine Sx.G.nil (Sx.E.next ?_)
        cases hc9 : (decide (l8 < 0))
        · have hb9 := hc9
          replace hc9 := of_decide_eq_false hc9
          refine Sx.C.nn ?_
          refine Sx.C.skip (Sx.E.next (Sx.C.seq (Sx.C.region ?_)))
          refine Sx.G.p (.int .i64 l8) ?_
          refine Sx.G.p (.int .i64 l8) ?_
          refine Sx.G.nil (Sx.E.next (Sx.C.ret ?_))
          refine Sx.E.ret1 (.int .i64 l8) rfl (by kernel_rfl) (fun w S => ?_)
          exact ⟨_, rfl, by unfold Kit.Sz; rw [size_Guest]; omega, S.below⟩
        · have hb9 := hc9
          replace hc9 := of_decide_eq_true hc9
          refine Sx.C.yy ?_
          refine Sx.C.seq (Sx.C.region ?_)
          refine Sx.G.p (.int .i64 (-1)) ?_
          refine Sx.G.nil (Sx.E.next (Sx.C.ret (Sx.E.then_ret ?_)))
          refine Sx.E.ret1 (.int .i64 (-1)) rfl (by kernel_rfl) (fun w S => ?_)
          exact ⟨_, rfl, by unfold Kit.Sz; rw [size_Guest]; omega, S.below⟩
      · have hb7 := hc7
        replace hc7 := of_decide_eq_true hc7
        refine Sx.C.yy ?_
        refine Sx.C.seq (Sx.C.region ?_)
        refine Sx.G.p (.int .i64 (-1)) ?_
        refine Sx.G.nil (Sx.E.next (Sx.C.ret (Sx.E.then_ret ?_)))
        refine Sx.E.ret1 (.int .i64 (-1)) rfl (by kernel_rfl) (fun w S => ?_)
        exact ⟨_, rfl, by unfold Kit.Sz; rw [size_Guest]; omega, S.below⟩
    · have hb5 := hc5
      replace hc5 := of_decide_eq_true hc5
      refine Sx.C.yy ?_
      refine Sx.C.seq (Sx.C.region ?_)
      refine Sx.G.p (.int .i64 (-1)) ?_
      refine Sx.G.nil (Sx.E.next (Sx.C.ret (Sx.E.then_ret ?_)))
      refine Sx.E.ret1 (.int .i64 (-1)) rfl (by kernel_rfl) (fun w S => ?_)
      exact ⟨_, rfl, by unfold Kit.Sz; rw [size_Guest]; omega, S.below⟩
  · have hb3 := hc3
    replace hc3 := of_decide_eq_true hc3
    refine Sx.C.yy ?_
    refine Sx.C.seq (Sx.C.region ?_)
    refine Sx.G.p (.int .i64 (-1)) ?_
    refine Sx.G.nil (Sx.E.next (Sx.C.ret (Sx.E.then_ret ?_)))
    refine Sx.E.ret1 (.int .i64 (-1)) rfl (by kernel_rfl) (fun w S => ?_)
    exact ⟨_, rfl, by unfold Kit.Sz; rw [size_Guest]; omega, S.below⟩

set_option maxRecDepth 100000 in
set_option maxHeartbeats 4000000 in
theorem kto_Guest (x : gT) (cs : List Value) (w : World) (hc : wG.cap x) (h : wG.rd w 0 w.heap.size x cs) : Calls Try.prog 35 #[.agg cs.toArray] w (Gives wG w x) := by
  obtain ⟨hcap0, hcap1, hcap2, hcap3, hcap4, hcap5, hcap6, hcap7, hcap8, hcap9⟩ := hc
  have hR := h
  obtain ⟨hP0, hP1, hP2, hP3, rfl, hf0, hf1, hf2, hf3⟩ := wG_rd h
  obtain ⟨hA0, hK0, he0, -⟩ := lst_val hf0
  subst he0
  obtain ⟨hA1, hK1, he1, -⟩ := lst_val hf1
  subst he1
  obtain ⟨hA2, hK2, he2, -⟩ := lst_val hf2
  subst he2
  obtain ⟨hA3, hK3, he3, -⟩ := lst_val hf3
  subst he3
  refine Sx.enter (args := [.agg #[.slice hA0 x.prog.length hK0, .int .i64 x.a, .int .i64 x.pc, .slice hA1 x.wr.length hK1, .slice hA2 x.lv.length hK2, .int .i64 x.t.1, .int .i64 x.t.2.1, .bool x.t.2.2, .int .i64 x.pd, .int .i64 x.x.1, .int .i64 x.x.2.1, .bool x.x.2.2.1, .int .i64 x.x.2.2.2, .bool x.hl, .slice hA3 x.seen.length hK3]]) Try.func35 rfl Try.ntmps35 rfl ?_
  refine Sx.C.seq (Sx.C.region ?_)
  refine Sx.G.b [.slice hA0 x.prog.length hK0, .int .i64 x.a, .int .i64 x.pc, .slice hA1 x.wr.length hK1, .slice hA2 x.lv.length hK2, .int .i64 x.t.1, .int .i64 x.t.2.1, .bool x.t.2.2, .int .i64 x.pd, .int .i64 x.x.1, .int .i64 x.x.2.1, .bool x.x.2.2.1, .int .i64 x.x.2.2.2, .bool x.hl, .slice hA3 x.seen.length hK3] (fun b1 => ?_)
  refine Sx.G.ar [.slice none 0 0, .int .i64 0, .int .i64 0, .slice none 0 0, .slice none 0 0, .int .i64 0, .int .i64 0, .bool false, .int .i64 0, .int .i64 0, .int .i64 0, .bool false, .int .i64 0, .bool false, .slice none 0 0] (fun b2 => ?_)
  refine Sx.G.nil (Sx.E.next (Sx.C.seq (Sx.C.region ?_)))
  refine Sx.G.ar [.slice none 0 0, .int .i64 0, .int .i64 0, .slice none 0 0, .slice none 0 0, .int .i64 0, .int .i64 0, .bool false, .int .i64 0, .int .i64 0, .int .i64 0, .bool false, .int .i64 0, .bool false, .slice none 0 0] (fun b3 => ?_)
  refine Sx.G.nil (Sx.E.next (Sx.C.seq (Sx.C.region ?_)))
  refine Sx.G.p (.pointer (some ⟨b1, 0, none⟩)) ?_
  refine Sx.G.g (.slice hA0 x.prog.length hK0) .m2 .m0 ?_
  refine Sx.G.c 47 #[.slice hA0 x.prog.length hK0] (fun w4 S => (Kit.kto_InsS x.prog hA0 hK0 _ hcap0 (St.old (r := (rLsw (rPair rInt rInt))) S hf0)).mono fun e w4' hp => ?_)
  obtain ⟨cs, F, rfl, ho, hF, hb⟩ := hp
  obtain ⟨u4, rfl⟩ := lsw_own ho
  obtain ⟨A4, c4, e4, -⟩ := lst_val ((St.got S hb ho hF).reads 0 rfl)
  subst e4
  generalize F = F4 at ho hF
  refine ⟨_, _, rfl, (St.got S hb ho hF), ?_⟩
  clear S hb ho hF
  refine Sx.G.p (.pointer (some ⟨b3, 0, none⟩)) ?_
  refine Sx.G.s (.slice A4 x.prog.length c4) .a1 .a0 ?_
  refine Sx.G.nil (Sx.E.next (Sx.C.seq (Sx.C.region ?_)))
  refine Sx.G.p (.pointer (some ⟨b1, 1, none⟩)) ?_
  refine Sx.G.g (.int .i64 x.a) .m3 .m1 ?_
  refine Sx.G.p (.pointer (some ⟨b3, 1, none⟩)) ?_
  refine Sx.G.s (.int .i64 x.a) .a1 .a1 ?_
  refine Sx.G.nil (Sx.E.next (Sx.C.seq (Sx.C.region ?_)))
  refine Sx.G.p (.pointer (some ⟨b1, 2, none⟩)) ?_
  refine Sx.G.g (.int .i64 x.pc) .m3 .m2 ?_
  refine Sx.G.p (.pointer (some ⟨b3, 2, none⟩)) ?_
  refine Sx.G.s (.int .i64 x.pc) .a1 .a2 ?_
  refine Sx.G.nil (Sx.E.next (Sx.C.seq (Sx.C.region ?_)))
  refine Sx.G.p (.pointer (some ⟨b1, 3, none⟩)) ?_
  refine Sx.G.g (.slice hA1 x.wr.length hK1) .m3 .m3 ?_
  refine Sx.G.c 48 #[.slice hA1 x.wr.length hK1] (fun w5 S => (Kit.kto_SlotS x.wr hA1 hK1 _ hcap3 (St.old (r := (rLsw (rPair rInt rInt))) S hf1)).mono fun e w5' hp => ?_)
  obtain ⟨cs, F, rfl, ho, hF, hb⟩ := hp
  obtain ⟨u5, rfl⟩ := lsw_own ho
  obtain ⟨A5, c5, e5, -⟩ := lst_val ((St.got S hb ho hF).reads 0 rfl)
  subst e5
  generalize F = F5 at ho hF
  refine ⟨_, _, rfl, (St.got S hb ho hF), ?_⟩
  clear S hb ho hF
  refine Sx.G.p (.pointer (some ⟨b3, 3, none⟩)) ?_
  refine Sx.G.s (.slice A5 x.wr.length c5) .a2 .a3 ?_
  refine Sx.G.nil (Sx.E.next (Sx.C.seq (Sx.C.region ?_)))
  refine Sx.G.p (.pointer (some ⟨b1, 4, none⟩)) ?_
  refine Sx.G.g (.slice hA2 x.lv.length hK2) .m4 .m4 ?_
  refine Sx.G.c 48 #[.slice hA2 x.lv.length hK2] (fun w6 S => (Kit.kto_SlotS x.lv hA2 hK2 _ hcap4 (St.old (r := (rLsw (rPair rInt rInt))) S hf2)).mono fun e w6' hp => ?_)
  obtain ⟨cs, F, rfl, ho, hF, hb⟩ := hp
  obtain ⟨u6, rfl⟩ := lsw_own ho
  obtain ⟨A6, c6, e6, -⟩ := lst_val ((St.got S hb ho hF).reads 0 rfl)
  subst e6
  generalize F = F6 at ho hF
  refine ⟨_, _, rfl, (St.got S hb ho hF), ?_⟩
  clear S hb ho hF
  refine Sx.G.p (.pointer (some ⟨b3, 4, none⟩)) ?_
  refine Sx.G.s (.slice A6 x.lv.length c6) .a3 .a4 ?_
  refine Sx.G.nil (Sx.E.next (Sx.C.seq (Sx.C.region ?_)))
  refine Sx.G.p (.pointer (some ⟨b1, 5, none⟩)) ?_
  refine Sx.G.lp 5 [.int .i64 x.t.1, .int .i64 x.t.2.1, .bool x.t.2.2] .m5 ?_
  refine Sx.G.cp 49 #[.agg #[.int .i64 x.t.1, .int .i64 x.t.2.1, .bool x.t.2.2]] (.agg #[.int .i64 x.t.1, .int .i64 x.t.2.1, .bool x.t.2.2]) (fun w S => by exact Kit.kto_Ctl x.t _) ?_
  refine Sx.G.p (.pointer (some ⟨b3, 5, none⟩)) ?_
  refine Sx.G.sto 50 (.tmp 25) (.tmp 24) b3 5 3 [.slice A4 x.prog.length c4, .int .i64 x.a, .int .i64 x.pc, .slice A5 x.wr.length c5, .slice A6 x.lv.length c6, .int .i64 0, .int .i64 0, .bool false, .int .i64 0, .int .i64 0, .int .i64 0, .bool false, .int .i64 0, .bool false, .slice none 0 0] [.int .i64 x.t.1, .int .i64 x.t.2.1, .bool x.t.2.2] [.slice A4 x.prog.length c4, .int .i64 x.a, .int .i64 x.pc, .slice A5 x.wr.length c5, .slice A6 x.lv.length c6, .int .i64 x.t.1, .int .i64 x.t.2.1, .bool x.t.2.2, .int .i64 0, .int .i64 0, .int .i64 0, .bool false, .int .i64 0, .bool false, .slice none 0 0] [ow (rLsw (rPair rInt rInt)) w6.heap.size w6'.heap.size x.lv [.slice A6 x.lv.length c6] F6, ow (rLsw (rPair rInt rInt)) w5.heap.size w5'.heap.size x.wr [.slice A5 x.wr.length c5] F5, ow (rLsw (rPair rInt rInt)) w4.heap.size w4'.heap.size x.prog [.slice A4 x.prog.length c4] F4, vr b3 [.slice A4 x.prog.length c4, .int .i64 x.a, .int .i64 x.pc, .slice A5 x.wr.length c5, .slice A6 x.lv.length c6, .int .i64 x.t.1, .int .i64 x.t.2.1, .bool x.t.2.2, .int .i64 0, .int .i64 0, .int .i64 0, .bool false, .int .i64 0, .bool false, .slice none 0 0], vr b2 [.slice none 0 0, .int .i64 0, .int .i64 0, .slice none 0 0, .slice none 0 0, .int .i64 0, .int .i64 0, .bool false, .int .i64 0, .int .i64 0, .int .i64 0, .bool false, .int .i64 0, .bool false, .slice none 0 0], vr b1 [.slice hA0 x.prog.length hK0, .int .i64 x.a, .int .i64 x.pc, .slice hA1 x.wr.length hK1, .slice hA2 x.lv.length hK2, .int .i64 x.t.1, .int .i64 x.t.2.1, .bool x.t.2.2, .int .i64 x.pd, .int .i64 x.x.1, .int .i64 x.x.2.1, .bool x.x.2.2.1, .int .i64 x.x.2.2.2, .bool x.hl, .slice hA3 x.seen.length hK3]] rfl (by kernel_rfl) (by kernel_rfl) (by kernel_rfl) rfl (by kernel_rfl) rfl (by kernel_rfl) (by kernel_rfl) (by kernel_rfl) ?_
  refine Sx.G.nil (Sx.E.next (Sx.C.seq (Sx.C.region ?_)))
  refine Sx.G.p (.pointer (some ⟨b1, 8, none⟩)) ?_
  refine Sx.G.g (.int .i64 x.pd) .m5 .m8 ?_
  refine Sx.G.p (.pointer (some ⟨b3, 8, none⟩)) ?_
  refine Sx.G.s (.int .i64 x.pd) .a3 .a8 ?_
  refine Sx.G.nil (Sx.E.next (Sx.C.seq (Sx.C.region ?_)))
  refine Sx.G.p (.pointer (some ⟨b1, 9, none⟩)) ?_
  refine Sx.G.lp 9 [.int .i64 x.x.1, .int .i64 x.x.2.1, .bool x.x.2.2.1, .int .i64 x.x.2.2.2] .m5 ?_
  refine Sx.G.cp 50 #[.agg #[.int .i64 x.x.1, .int .i64 x.x.2.1, .bool x.x.2.2.1, .int .i64 x.x.2.2.2]] (.agg #[.int .i64 x.x.1, .int .i64 x.x.2.1, .bool x.x.2.2.1, .int .i64 x.x.2.2.2]) (fun w S => by exact Kit.kto_Exit x.x _) ?_
  refine Sx.G.p (.pointer (some ⟨b3, 9, none⟩)) ?_
  refine Sx.G.sto 41 (.tmp 32) (.tmp 31) b3 9 3 [.slice A4 x.prog.length c4, .int .i64 x.a, .int .i64 x.pc, .slice A5 x.wr.length c5, .slice A6 x.lv.length c6, .int .i64 x.t.1, .int .i64 x.t.2.1, .bool x.t.2.2, .int .i64 x.pd, .int .i64 0, .int .i64 0, .bool false, .int .i64 0, .bool false, .slice none 0 0] [.int .i64 x.x.1, .int .i64 x.x.2.1, .bool x.x.2.2.1, .int .i64 x.x.2.2.2] [.slice A4 x.prog.length c4, .int .i64 x.a, .int .i64 x.pc, .slice A5 x.wr.length c5, .slice A6 x.lv.length c6, .int .i64 x.t.1, .int .i64 x.t.2.1, .bool x.t.2.2, .int .i64 x.pd, .int .i64 x.x.1, .int .i64 x.x.2.1, .bool x.x.2.2.1, .int .i64 x.x.2.2.2, .bool false, .slice none 0 0] [ow (rLsw (rPair rInt rInt)) w6.heap.size w6'.heap.size x.lv [.slice A6 x.lv.length c6] F6, ow (rLsw (rPair rInt rInt)) w5.heap.size w5'.heap.size x.wr [.slice A5 x.wr.length c5] F5, ow (rLsw (rPair rInt rInt)) w4.heap.size w4'.heap.size x.prog [.slice A4 x.prog.length c4] F4, vr b3 [.slice A4 x.prog.length c4, .int .i64 x.a, .int .i64 x.pc, .slice A5 x.wr.length c5, .slice A6 x.lv.length c6, .int .i64 x.t.1, .int .i64 x.t.2.1, .bool x.t.2.2, .int .i64 x.pd, .int .i64 x.x.1, .int .i64 x.x.2.1, .bool x.x.2.2.1, .int .i64 x.x.2.2.2, .bool false, .slice none 0 0], vr b2 [.slice none 0 0, .int .i64 0, .int .i64 0, .slice none 0 0, .slice none 0 0, .int .i64 0, .int .i64 0, .bool false, .int .i64 0, .int .i64 0, .int .i64 0, .bool false, .int .i64 0, .bool false, .slice none 0 0], vr b1 [.slice hA0 x.prog.length hK0, .int .i64 x.a, .int .i64 x.pc, .slice hA1 x.wr.length hK1, .slice hA2 x.lv.length hK2, .int .i64 x.t.1, .int .i64 x.t.2.1, .bool x.t.2.2, .int .i64 x.pd, .int .i64 x.x.1, .int .i64 x.x.2.1, .bool x.x.2.2.1, .int .i64 x.x.2.2.2, .bool x.hl, .slice hA3 x.seen.length hK3]] rfl (by kernel_rfl) (by kernel_rfl) (by kernel_rfl) rfl (by kernel_rfl) rfl (by kernel_rfl) (by kernel_rfl) (by kernel_rfl) ?_
  refine Sx.G.nil (Sx.E.next (Sx.C.seq (Sx.C.region ?_)))
  refine Sx.G.p (.pointer (some ⟨b1, 13, none⟩)) ?_
  refine Sx.G.g (.bool x.hl) .m5 .m13 ?_
  refine Sx.G.p (.pointer (some ⟨b3, 13, none⟩)) ?_
  refine Sx.G.s (.bool x.hl) .a3 .a13 ?_
  refine Sx.G.nil (Sx.E.next (Sx.C.seq (Sx.C.region ?_)))
  refine Sx.G.p (.pointer (some ⟨b1, 14, none⟩)) ?_
  refine Sx.G.g (.slice hA3 x.seen.length hK3) .m5 .m14 ?_
  refine Sx.G.c 26 #[.slice hA3 x.seen.length hK3] (fun w7 S => (Kit.kto_IntS x.seen hA3 hK3 _ hcap9 (St.old (r := (rLsw rInt)) S hf3)).mono fun e w7' hp => ?_)
  obtain ⟨cs, F, rfl, ho, hF, hb⟩ := hp
  obtain ⟨u7, rfl⟩ := lsw_own ho
  obtain ⟨A7, c7, e7, -⟩ := lst_val ((St.got S hb ho hF).reads 0 rfl)
  subst e7
  generalize F = F7 at ho hF
  refine ⟨_, _, rfl, (St.got S hb ho hF), ?_⟩
  clear S hb ho hF
  refine Sx.G.p (.pointer (some ⟨b3, 14, none⟩)) ?_
  refine Sx.G.s (.slice A7 x.seen.length c7) .a4 .a14 ?_
  refine Sx.G.nil (Sx.E.next (Sx.C.seq (Sx.C.region ?_)))
  refine Sx.G.lw .m4 ?_
  refine Sx.G.sw [.slice A4 x.prog.length c4, .int .i64 x.a, .int .i64 x.pc, .slice A5 x.wr.length c5, .slice A6 x.lv.length c6, .int .i64 x.t.1, .int .i64 x.t.2.1, .bool x.t.2.2, .int .i64 x.pd, .int .i64 x.x.1, .int .i64 x.x.2.1, .bool x.x.2.2.1, .int .i64 x.x.2.2.2, .bool x.hl, .slice A7 x.seen.length c7] .a5 ?_
  refine Sx.G.nil (Sx.E.next (Sx.C.ret ?_))
  refine Sx.E.retc b2 5 [.slice A4 x.prog.length c4, .int .i64 x.a, .int .i64 x.pc, .slice A5 x.wr.length c5, .slice A6 x.lv.length c6, .int .i64 x.t.1, .int .i64 x.t.2.1, .bool x.t.2.2, .int .i64 x.pd, .int .i64 x.x.1, .int .i64 x.x.2.1, .bool x.x.2.2.1, .int .i64 x.x.2.2.2, .bool x.hl, .slice A7 x.seen.length c7] rfl (by kernel_rfl) rfl (by kernel_rfl) (by kernel_rfl) (fun w S => ?_)
  obtain ⟨ho, hF⟩ := wG_shut (g := x) S 3 rfl 2 rfl 1 rfl 0 rfl (by decide) (by decide) (by decide) (by decide) (by decide) (by decide)
  exact ⟨_, _, rfl, ho, hF, S.below⟩

end Go.Proofs.Ytmiokacihcpepaa.Kit
namespace Go.Proofs.Ytmiokacihcpepaa.Kit
set_option maxRecDepth 100000
open Go.ChangeShapes Go.WideShapes Go.ChangeAt Go.RowKit Go.Deep
open Go.Proofs.Ytmiokacihcpepaa.Base Go.Proofs.Ytmiokacihcpepaa.Mem Go.Proofs.Ytmiokacihcpepaa.Data Go.Proofs.Ytmiokacihcpepaa.Stt Go.Proofs.Ytmiokacihcpepaa.Guests Go.Proofs.Ytmiokacihcpepaa.Ctls Go.Proofs.Ytmiokacihcpepaa.Exits
set_option linter.unusedVariables false
set_option linter.unusedSimpArgs false

set_option maxRecDepth 100000 in
set_option maxHeartbeats 4000000 in
theorem keq_IntSS (xs : (List (List Int))) (A : Option Addr) (c : Nat) (B : Option Addr) (d : Nat) (w : World) (hc : (rLsw (rLsw rInt)).cap xs) (h : rdLst (rLsw rInt) w 0 w.heap.size xs [.slice A xs.length c]) (j : rdLst (rLsw rInt) w 0 w.heap.size xs [.slice B xs.length d]) : Calls Try.prog 28 #[.slice A xs.length c, .slice B xs.length d] w (fun e w' => e = .returned (.bool true) ∧ Below w.heap.size w w') := by
  obtain ⟨hl, hce⟩ := hc
  refine Sx.enter (args := [.slice A xs.length c, .slice B xs.length d]) Try.func28 rfl Try.ntmps28 rfl ?_
  refine Sx.C.seq (Sx.C.region ?_)
  refine Sx.G.p (.bool false) ?_
  refine Sx.G.nil (Sx.E.next (Sx.C.seq (Sx.C.seq (Sx.C.region ?_))))
  refine Sx.G.p (.slice A xs.length c) ?_
  refine Sx.G.p (.int .i64 ((xs.length : Nat) : Int)) ?_
  refine Sx.G.p (.slice B xs.length d) ?_
  refine Sx.G.p (.int .i64 ((xs.length : Nat) : Int)) ?_
  refine Sx.G.q (.bool (((xs.length : Nat) : Int) != ((xs.length : Nat) : Int))) (.bool false) (congrArg Value.bool (bne_self_eq_false _)) ?_
  refine Sx.G.nil (Sx.E.next ?_)
  refine Sx.C.nn ?_
  refine Sx.C.skip (Sx.E.next (Sx.C.seq (Sx.C.seq (Sx.C.region ?_))))
  refine Sx.G.p (.int .i64 0) ?_
  refine Sx.G.nil (Sx.E.next (Sx.C.block ?_))
  refine Sx.C.loop (α := Nat) (fun i => i ≤ xs.length) (fun i => [(5, .int .i64 (i : Int)), (0, .slice A xs.length c), (1, .slice B xs.length d), (4, .bool false)]) (fun i => []) (fun i => xs.length - i) 0 (Nat.zero_le _) (fun a hA => (Sx.Ag.sub hA (by kernel_rfl))) (fun w S => S) (fun i hx => ?_)
  refine Sx.C.seq (Sx.C.seq (Sx.C.region ?_))
  refine Sx.G.p (.int .i64 (i : Int)) ?_
  refine Sx.G.p (.slice A xs.length c) ?_
  refine Sx.G.p (.int .i64 ((xs.length : Nat) : Int)) ?_
  refine Sx.G.p (.bool (decide ((i : Int) < ((xs.length : Nat) : Int)))) ?_
  refine Sx.G.nil (Sx.E.next ?_)
  cases hc1 : (decide ((i : Int) < ((xs.length : Nat) : Int)))
  · have hb1 := hc1
    replace hc1 := of_decide_eq_false hc1
    refine Sx.C.nn ?_
    refine Sx.C.exit (Sx.E.then_exit (Sx.E.then_exit (Sx.E.block_hit (Sx.E.next (Sx.C.seq (Sx.C.region ?_))))))
    refine Sx.G.p (.bool true) ?_
    refine Sx.G.nil (Sx.E.next (Sx.C.ret ?_))
    refine Sx.E.ret1 (.bool true) rfl (by kernel_rfl) (fun w S => ?_)
    exact ⟨rfl, S.below⟩
  · have hb1 := hc1
    replace hc1 := of_decide_eq_true hc1
    refine Sx.C.yy ?_
    refine Sx.C.skip (Sx.E.next (Sx.C.seq (Sx.C.block (Sx.C.seq ?_))))
    refine Sx.C.draw (.take 0 (.take 1 (.take 2 (.take 3 (.take 4 (.take 5 (.take 6 (.take 7 (.alone 8 (.take 9 .nil)))))))))) [] (fun w S => St.pick S [] _ rfl (by decide)) (by kernel_rfl) (by kernel_rfl) (by kernel_rfl) ?_
    refine Sx.GT.p (.slice A xs.length c) ?_
    refine Sx.GT.p (.int .i64 (i : Int)) ?_
    obtain ⟨b2, f2, es2, eA2, hr2, hl2, hm2⟩ := Sx.old_elem (by decide) h i (by omega)
    subst eA2
    obtain ⟨x2, hx2⟩ : ∃ z_, z_ = (xs[i]'(by omega)) := ⟨_, rfl⟩
    rw [← hx2] at hr2
    replace hr2 : rdLst rInt w 0 w.heap.size x2 es2 := hr2
    obtain ⟨P2, rfl⟩ := lst_rd hr2
    obtain ⟨A2, c2, e2, -⟩ := lst_val hr2
    subst e2
    refine Sx.GT.elem 22 24 (.tmp 17) (.tmp 18) 1 24 b2 f2 xs.length c i 2 (by rfl) (by rfl) (by kernel_rfl) (by kernel_rfl) (by kernel_rfl) (by kernel_rfl) (by omega) ?_
    refine Sx.GT.ldr1 24 (.tmp 19) b2 ((f2 + i * 1) + 0) (.slice A2 x2.length c2) 3 (by rfl) (by rfl) (by kernel_rfl) (by kernel_rfl) (fun w S => hm2 w _ S 0 _ rfl) (by kernel_rfl) ?_
    refine Sx.GT.p (.slice B xs.length d) ?_
    refine Sx.GT.p (.int .i64 (i : Int)) ?_
    obtain ⟨b3, f3, es3, eA3, hr3, hl3, hm3⟩ := Sx.old_elem (by decide) j i (by omega)
    subst eA3
    rw [← hx2] at hr3
    replace hr3 : rdLst rInt w 0 w.heap.size x2 es3 := hr3
    obtain ⟨P3, rfl⟩ := lst_rd hr3
    obtain ⟨A3, c3, e3, -⟩ := lst_val hr3
    subst e3
    refine Sx.GT.elem 22 24 (.tmp 21) (.tmp 22) 1 24 b3 f3 xs.length d i 6 (by rfl) (by rfl) (by kernel_rfl) (by kernel_rfl) (by kernel_rfl) (by kernel_rfl) (by omega) ?_
    refine Sx.GT.ldr1 24 (.tmp 23) b3 ((f3 + i * 1) + 0) (.slice A3 x2.length c3) 7 (by rfl) (by rfl) (by kernel_rfl) (by kernel_rfl) (fun w S => hm3 w _ S 0 _ rfl) (by kernel_rfl) ?_
    refine Sx.GT.alone (Sx.Alone.cp 10 #[.slice A2 x2.length c2, .slice A3 x2.length c3] (.bool true) (fun w S => by exact Kit.keq_IntS x2 A2 c2 A3 c3 _ (hce _ (hx2 ▸ List.getElem_mem _)) (St.old (r := (rLsw rInt)) S hr2) (St.old (r := (rLsw rInt)) S hr3)) (fun w S => St.pick S [] _ rfl (by decide)) ?_)
    refine Sx.GT.p (.bool false) ?_
    refine Sx.GT.nil (Sx.E.next ?_)
    refine Sx.C.nn ?_
    refine Sx.C.skip (Sx.E.block_normal (Sx.E.next (Sx.C.region ?_)))
    refine Sx.G.p (.int .i64 (i : Int)) ?_
    refine Sx.G.q (.int .i64 (IntKind.i64.wrap ((i : Int) + 1))) (.int .i64 ((i + 1 : Nat) : Int)) (congrArg (Value.int .i64) (Sx.wrap_up i (by omega))) ?_
    refine Sx.G.p (.int .i64 ((i + 1 : Nat) : Int)) ?_
    refine Sx.G.nil ?_
    exact Sx.E.again (i + 1) (by omega) (by omega) (fun a hA => (Sx.Ag.sub hA (by kernel_rfl))) (fun w S => S)

set_option maxRecDepth 100000 in
set_option maxHeartbeats 4000000 in
theorem ksz_IntSS (xs : (List (List Int))) (A : Option Addr) (c : Nat) (left : Int) (w : World) (hw : (rLsw (rLsw rInt)).wf xs) (h0 : 0 ≤ left) (h1 : left ≤ 1048576) (h : rdLst (rLsw rInt) w 0 w.heap.size xs [.slice A xs.length c]) : Calls Try.prog 20 #[.slice A xs.length c, .int .i64 left] w (fun e w' => ∃ l, e = .returned (.int .i64 l) ∧ Kit.Sz left ((rLsw (rLsw rInt)).size xs) l ∧ Below w.heap.size w w') := by
  obtain ⟨hl, hwe⟩ := hw
  simp only [maxLen] at hl
  refine Sx.enter (args := [.slice A xs.length c, .int .i64 left]) Try.func20 rfl Try.ntmps20 rfl ?_
  refine Sx.C.seq (Sx.C.region ?_)
  refine Sx.G.p (.int .i64 0) ?_
  refine Sx.G.nil (Sx.E.next (Sx.C.seq (Sx.C.region ?_)))
  refine Sx.G.p (.int .i64 left) ?_
  refine Sx.G.p (.slice A xs.length c) ?_
  refine Sx.G.p (.int .i64 ((xs.length : Nat) : Int)) ?_
  refine Sx.G.q (.int .i64 (IntKind.i64.wrap (left - ((xs.length : Nat) : Int)))) (.int .i64 (left - ((xs.length : Nat) : Int))) (congrArg (Value.int .i64) (by rw [IntKind.wrap_i64]; omega)) ?_
  refine Sx.G.p (.int .i64 (left - ((xs.length : Nat) : Int))) ?_
  refine Sx.G.nil (Sx.E.next (Sx.C.seq (Sx.C.seq (Sx.C.region ?_))))
  refine Sx.G.p (.int .i64 (left - ((xs.length : Nat) : Int))) ?_
  refine Sx.G.p (.bool (decide ((left - ((xs.length : Nat) : Int)) < 0))) ?_
  refine Sx.G.nil (Sx.E.next ?_)
  cases hc1 : (decide ((left - ((xs.length : Nat) : Int)) < 0))
  · have hb1 := hc1
    replace hc1 := of_decide_eq_false hc1
    refine Sx.C.nn ?_
    refine Sx.C.skip (Sx.E.next (Sx.C.seq (Sx.C.seq (Sx.C.region ?_))))
    refine Sx.G.p (.int .i64 0) ?_
    refine Sx.G.nil (Sx.E.next (Sx.C.block ?_))
    refine Sx.C.loop (α := Nat × Int) (fun x => x.1 ≤ xs.length ∧ x.2 = left - ((xs.length : Nat) : Int) - ((sizeAll (rLsw rInt) (xs.take x.1) : Nat) : Int) ∧ 0 ≤ x.2) (fun x => [(5, .int .i64 (x.1 : Int)), (1, .int .i64 x.2), (0, .slice A xs.length c), (4, .int .i64 0)]) (fun x => []) (fun x => xs.length - x.1) (0, left - ((xs.length : Nat) : Int)) (by refine ⟨Nat.zero_le _, ?_, by omega⟩; simp [sizeAll]) (fun a hA => (Sx.Ag.sub hA (by kernel_rfl))) (fun w S => S) (fun x hx => ?_)
    obtain ⟨i, m⟩ := x
    dsimp only at hx
    obtain ⟨hi, hm, h0m⟩ := hx
    refine Sx.C.seq (Sx.C.seq (Sx.C.region ?_))
    refine Sx.G.p (.int .i64 (i : Int)) ?_
    refine Sx.G.p (.slice A xs.length c) ?_
    refine Sx.G.p (.int .i64 ((xs.length : Nat) : Int)) ?_
    refine Sx.G.p (.bool (decide ((i : Int) < ((xs.length : Nat) : Int)))) ?_
    refine Sx.G.nil (Sx.E.next ?_)
    cases hc2 : (decide ((i : Int) < ((xs.length : Nat) : Int)))
    · have hb2 := hc2
      replace hc2 := of_decide_eq_false hc2
      refine Sx.C.nn ?_
      refine Sx.C.exit (Sx.E.then_exit (Sx.E.then_exit (Sx.E.block_hit (Sx.E.next (Sx.C.seq (Sx.C.region ?_))))))
      refine Sx.G.p (.int .i64 m) ?_
      refine Sx.G.p (.int .i64 m) ?_
      refine Sx.G.nil (Sx.E.next (Sx.C.ret ?_))
      refine Sx.E.ret1 (.int .i64 m) rfl (by kernel_rfl) (fun w S => ?_)
      have hle := fun q => Kit.size_le (r := (rLsw rInt)) (xs := xs) q
      have h2' : xs.take i = xs := List.take_of_length_le (by omega)
      rw [h2'] at hm
      exact ⟨_, rfl, show Kit.Sz left (xs.length + sizeAll (rLsw rInt) xs) _ by unfold Kit.Sz; omega, S.below⟩
    · have hb2 := hc2
      replace hc2 := of_decide_eq_true hc2
      refine Sx.C.yy ?_
      refine Sx.C.skip (Sx.E.next (Sx.C.seq (Sx.C.block (Sx.C.seq (Sx.C.region ?_)))))
      refine Sx.G.p (.slice A xs.length c) ?_
      refine Sx.G.p (.int .i64 (i : Int)) ?_
      obtain ⟨b3, f3, es3, eA3, hr3, hl3, hm3⟩ := Sx.old_elem (by decide) h i (by omega)
      subst eA3
      obtain ⟨x3, hx3⟩ : ∃ z_, z_ = (xs[i]'(by omega)) := ⟨_, rfl⟩
      rw [← hx3] at hr3
      replace hr3 : rdLst rInt w 0 w.heap.size x3 es3 := hr3
      obtain ⟨P3, rfl⟩ := lst_rd hr3
      obtain ⟨A3, c3, e3, -⟩ := lst_val hr3
      subst e3
      refine Sx.G.elem 22 24 (.tmp 18) (.tmp 19) 1 24 b3 f3 xs.length c i rfl (by kernel_rfl) (by kernel_rfl) (by kernel_rfl) (by kernel_rfl) (by omega) ?_
      refine Sx.G.ldr1 24 (.tmp 20) b3 ((f3 + i * 1) + 0) (.slice A3 x3.length c3) rfl (by kernel_rfl) (by kernel_rfl) (fun w S => hm3 w _ S 0 _ rfl) (by kernel_rfl) ?_
      refine Sx.G.p (.int .i64 m) ?_
      refine Sx.G.c 22 #[.slice A3 x3.length c3, .int .i64 m] (fun w4 S => (Kit.ksz_IntS x3 A3 c3 m _ (hwe _ (hx3 ▸ List.getElem_mem _)) (by omega) (by omega) (St.old (r := (rLsw rInt)) S hr3)).mono fun e w4' hp => ?_)
      obtain ⟨l4, rfl, hz4, hb⟩ := hp
      replace hz4 : Kit.Sz m (x3.length + sizeAll rInt x3) l4 := hz4
      unfold Kit.Sz at hz4
      refine ⟨_, _, rfl, (S.call hb), ?_⟩
      clear S hb
      refine Sx.G.p (.int .i64 l4) ?_
      refine Sx.G.nil (Sx.E.next (Sx.C.seq (Sx.C.region ?_)))
      refine Sx.G.p (.int .i64 l4) ?_
      refine Sx.G.p (.bool (decide (l4 < 0))) ?_
      refine Sx.G.nil (Sx.E.next ?_)
      cases hc5 : (decide (l4 < 0))
      · have hb5 := hc5
        replace hc5 := of_decide_eq_false hc5
        refine Sx.C.nn ?_
        refine Sx.C.skip (Sx.E.block_normal (Sx.E.next (Sx.C.region ?_)))
        refine Sx.G.p (.int .i64 (i : Int)) ?_
        refine Sx.G.q (.int .i64 (IntKind.i64.wrap ((i : Int) + 1))) (.int .i64 ((i + 1 : Nat) : Int)) (congrArg (Value.int .i64) (Sx.wrap_up i (by omega))) ?_
        refine Sx.G.p (.int .i64 ((i + 1 : Nat) : Int)) ?_
        refine Sx.G.nil ?_
        have hst := Kit.size_step (r := (rLsw rInt)) (show i < xs.length by omega)
        rw [← hx3] at hst
        rw [show (rLsw rInt).size x3 = x3.length + sizeAll rInt x3 from rfl] at hst
        exact Sx.E.again (i + 1, l4) (by refine ⟨by omega, ?_, by omega⟩; show _ = left - _ - ((sizeAll (rLsw rInt) (xs.take (i + 1)) : Nat) : Int); omega) (show xs.length - (i + 1) < xs.length - i by omega) (fun a hA => (Sx.Ag.sub hA (by kernel_rfl))) (fun w S => S)
      · have hb5 := hc5
        replace hc5 := of_decide_eq_true hc5
        refine Sx.C.yy ?_
        refine Sx.C.seq (Sx.C.region ?_)
        refine Sx.G.p (.int .i64 (-1)) ?_
        refine Sx.G.nil (Sx.E.next (Sx.C.ret (Sx.E.block_ret (Sx.E.then_ret (Sx.E.then_ret (Sx.E.block_ret (Sx.E.then_ret ?_)))))))
        refine Sx.E.ret1 (.int .i64 (-1)) rfl (by kernel_rfl) (fun w S => ?_)
        have hle := fun q => Kit.size_le (r := (rLsw rInt)) (xs := xs) q
        have hst := Kit.size_step (r := (rLsw rInt)) (show i < xs.length by omega)
        rw [← hx3] at hst
        rw [show (rLsw rInt).size x3 = x3.length + sizeAll rInt x3 from rfl] at hst
        have h1' := hle (i + 1)
        exact ⟨_, rfl, show Kit.Sz left (xs.length + sizeAll (rLsw rInt) xs) _ by unfold Kit.Sz; omega, S.below⟩
  · have hb1 := hc1
    replace hc1 := of_decide_eq_true hc1
    refine Sx.C.yy ?_
    refine Sx.C.seq (Sx.C.region ?_)
    refine Sx.G.p (.int .i64 (-1)) ?_
    refine Sx.G.nil (Sx.E.next (Sx.C.ret (Sx.E.then_ret ?_)))
    refine Sx.E.ret1 (.int .i64 (-1)) rfl (by kernel_rfl) (fun w S => ?_)
    have hle := fun q => Kit.size_le (r := (rLsw rInt)) (xs := xs) q
    exact ⟨_, rfl, show Kit.Sz left (xs.length + sizeAll (rLsw rInt) xs) _ by unfold Kit.Sz; omega, S.below⟩

set_option maxRecDepth 100000 in
set_option maxHeartbeats 4000000 in
theorem kmk0_IntSS {w0 w : World} {lo hi : Nat} {R : List Res} (xs : (List (List Int))) (A : Option Addr) (c k : Nat) (F : List Nat) (hc : (rLsw (rLsw rInt)).cap xs) (hk : k + cntAll (rLsw rInt) xs ≤ 1000000000000) (S : St w0 w (ow (rLsw (rLsw rInt)) lo hi xs [.slice A xs.length c] F :: R)) : Calls Try.prog 30 #[.slice A xs.length c, .int .i64 ((k : Nat) : Int)] w fun e w' => e = .returned (.int .i64 ((k + cntAll (rLsw rInt) xs : Nat) : Int)) ∧ St w0 w' (ow (rLsw (rLsw rInt)) lo hi (mkAll (rLsw rInt) k xs) [.slice A xs.length c] F :: R) := by
  obtain ⟨hl, hce⟩ := hc
  refine Sx.enterS (args := [.slice A xs.length c, .int .i64 ((k : Nat) : Int)]) S Try.func30 rfl Try.ntmps30 rfl ?_
  refine Sx.C.seq (Sx.C.region ?_)
  refine Sx.G.p (.int .i64 0) ?_
  refine Sx.G.nil (Sx.E.next (Sx.C.seq (Sx.C.seq (Sx.C.region ?_))))
  refine Sx.G.p (.int .i64 0) ?_
  refine Sx.G.nil (Sx.E.next (Sx.C.block ?_))
  refine Sx.C.loop (α := Nat × Nat) (fun x => x.1 ≤ xs.length ∧ x.2 = k + cntAll (rLsw rInt) (xs.take x.1)) (fun x => [(5, .int .i64 (x.1 : Int)), (1, .int .i64 ((x.2 : Nat) : Int)), (0, .slice A xs.length c), (4, .int .i64 0)]) (fun x => (ow (rLsw (rLsw rInt)) lo hi (mkAll (rLsw rInt) k (xs.take x.1) ++ xs.drop x.1) [.slice A xs.length c] F :: R)) (fun x => xs.length - x.1) (0, k) (by refine ⟨Nat.zero_le _, ?_⟩; simp [cntAll]) (fun a hA => (Sx.Ag.sub hA (by kernel_rfl))) (fun w S => S) (fun x hx => ?_)
  obtain ⟨i, q⟩ := x
  dsimp only at hx
  obtain ⟨hi', hq⟩ := hx
  have hqm := Kit.cnt_le (r := (rLsw rInt)) (xs := xs) i
  refine Sx.C.seq (Sx.C.seq (Sx.C.region ?_))
  refine Sx.G.p (.int .i64 (i : Int)) ?_
  refine Sx.G.p (.slice A xs.length c) ?_
  refine Sx.G.p (.int .i64 ((xs.length : Nat) : Int)) ?_
  refine Sx.G.p (.bool (decide ((i : Int) < ((xs.length : Nat) : Int)))) ?_
  refine Sx.G.nil (Sx.E.next ?_)
  cases hc1 : (decide ((i : Int) < ((xs.length : Nat) : Int)))
  · have hb1 := hc1
    replace hc1 := of_decide_eq_false hc1
    refine Sx.C.nn ?_
    refine Sx.C.exit (Sx.E.then_exit (Sx.E.then_exit (Sx.E.block_hit (Sx.E.next (Sx.C.seq (Sx.C.region ?_))))))
    refine Sx.G.p (.int .i64 ((q : Nat) : Int)) ?_
    refine Sx.G.p (.int .i64 ((q : Nat) : Int)) ?_
    refine Sx.G.nil (Sx.E.next (Sx.C.ret ?_))
    refine Sx.E.ret1 (.int .i64 ((q : Nat) : Int)) rfl (by kernel_rfl) (fun w S => ?_)
    have h2' : xs.take i = xs := List.take_of_length_le (by omega)
    have h3' : xs.drop i = [] := List.drop_of_length_le (by omega)
    rw [h2'] at hq
    rw [h2', h3', List.append_nil] at S
    subst hq
    exact ⟨rfl, S⟩
  · have hb1 := hc1
    replace hc1 := of_decide_eq_true hc1
    refine Sx.C.yy ?_
    refine Sx.C.skip (Sx.E.next (Sx.C.seq ?_))
    have hlt : i < xs.length := by omega
    obtain ⟨x1, hx1⟩ : ∃ x, x = xs[i] := ⟨_, rfl⟩
    have hm1 : x1 ∈ xs := hx1 ▸ List.getElem_mem _
    refine Sx.C.open (r := (rLsw rInt)) (pre := mkAll (rLsw rInt) k (xs.take i)) (x := x1) (post := xs.drop (i + 1)) (by rw [hx1, ← Kit.drop_step hlt]) (by decide) (fun b off es F1 Fi F2 eA eF hes hm hmc => ?_)
    subst eA eF
    have hst0 := Kit.cnt_step (r := (rLsw rInt)) (show i < xs.length by omega)
    rw [← hx1] at hst0
    have hcnt0 : (rLsw rInt).cnt x1 = cntAll rInt x1 := rfl
    rw [hcnt0] at hst0
    have hqm0 := Kit.cnt_le (r := (rLsw rInt)) (xs := xs) (i + 1)
    refine Sx.C.know (p := ∃ A c, es = [.slice A x1.length c]) (fun w S => by obtain ⟨A, c, ds, e, -⟩ := St.reads S 1 rfl; exact ⟨A, c, e⟩) ?_
    rintro ⟨pA, pc, rfl⟩
    refine Sx.C.block (Sx.C.region ?_)
    refine Sx.G.p (.slice (some ⟨b, off, none⟩) xs.length c) ?_
    refine Sx.G.p (.int .i64 (i : Int)) ?_
    refine Sx.G.elem 22 24 (.tmp 12) (.tmp 13) 1 24 b off xs.length c i rfl (by kernel_rfl) (by kernel_rfl) (by kernel_rfl) (by kernel_rfl) (by omega) ?_
    refine Sx.G.hld1 (k := i) (size := 1) 24 (.tmp 14) b ((off + i * 1) + 0) 0 0 (.slice pA x1.length pc) rfl (by kernel_rfl) (by kernel_rfl) rfl (by rw [Kit.mk_len, List.length_take]; omega) rfl rfl rfl (by kernel_rfl) ?_
    refine Sx.G.p (.int .i64 ((q : Nat) : Int)) ?_
    obtain ⟨q2, hq2⟩ : ∃ q', q' = q + cntAll rInt x1 := ⟨_, rfl⟩
    refine Sx.G.c 13 #[.slice pA x1.length pc, .int .i64 ((q : Nat) : Int)] (fun w2 S => (Kit.kmk_IntS x1 pA pc q _ (hce _ (hm1)) (by omega) S 1 rfl).mono fun e w2' hp => ?_)
    rw [← hq2] at hp
    obtain ⟨rfl, S'⟩ := hp
    refine ⟨_, _, rfl, S', ?_⟩
    clear S S'
    refine Sx.G.p (.int .i64 ((q2 : Nat) : Int)) ?_
    refine Sx.G.nil (Sx.E.block_normal (Sx.E.next (Sx.C.region ?_)))
    refine Sx.G.p (.int .i64 (i : Int)) ?_
    refine Sx.G.q (.int .i64 (IntKind.i64.wrap ((i : Int) + 1))) (.int .i64 ((i + 1 : Nat) : Int)) (congrArg (Value.int .i64) (Sx.wrap_up i (by omega))) ?_
    refine Sx.G.p (.int .i64 ((i + 1 : Nat) : Int)) ?_
    refine Sx.G.nil ?_
    have hcnt : (rLsw rInt).cnt x1 = cntAll rInt x1 := rfl
    exact Sx.E.again (i + 1, (q2 : Nat)) (by refine ⟨by omega, ?_⟩; show _ = k + cntAll (rLsw rInt) (xs.take (i + 1)); rw [Kit.cnt_step hlt, ← hx1]; rw [hcnt]; omega) (show xs.length - (i + 1) < xs.length - i by omega) (fun a hA => (Sx.Ag.sub hA (by kernel_rfl))) (fun w S => by
      subst hq2
      replace S : St w0 _ (_ :: ow (rLsw rInt) lo hi ((rLsw rInt).mark q x1) _ Fi :: R) := S
      have S3 := Sx.St.close S (by decide) xs.length c (by simp [Kit.mk_len, List.length_take, List.length_drop]; omega) hmc
      rw [hq, hx1, Kit.mk_step k hlt] at S3
      exact S3
      )
theorem kmk_IntSS {w0 w : World} {lo hi : Nat} {L : List Res} (xs : (List (List Int))) (A : Option Addr) (c k : Nat) (F : List Nat) (hc : (rLsw (rLsw rInt)).cap xs) (hk : k + cntAll (rLsw rInt) xs ≤ 1000000000000) (S : St w0 w L) (i : Nat) (hi' : L[i]? = some (ow (rLsw (rLsw rInt)) lo hi xs [.slice A xs.length c] F)) : Calls Try.prog 30 #[.slice A xs.length c, .int .i64 ((k : Nat) : Int)] w fun e w' => e = .returned (.int .i64 ((k + cntAll (rLsw rInt) xs : Nat) : Int)) ∧ St w0 w' (L.set i (ow (rLsw (rLsw rInt)) lo hi (mkAll (rLsw rInt) k xs) [.slice A xs.length c] F)) :=
  anywhere (fun R S => kmk0_IntSS xs A c k F hc hk S) S i hi'

set_option maxRecDepth 100000 in
set_option maxHeartbeats 4000000 in
theorem kto_IntSS (xs : (List (List Int))) (A : Option Addr) (c : Nat) (w : World) (hc : (rLsw (rLsw rInt)).cap xs) (h : rdLst (rLsw rInt) w 0 w.heap.size xs [.slice A xs.length c]) : Calls Try.prog 24 #[.slice A xs.length c] w (Gives (rLsw (rLsw rInt)) w xs) := by
  obtain ⟨hl, hce⟩ := hc
  refine Sx.enter (args := [.slice A xs.length c]) Try.func24 rfl Try.ntmps24 rfl ?_
  refine Sx.C.seq (Sx.C.region ?_)
  refine Sx.G.p (.slice none 0 0) ?_
  refine Sx.G.nil (Sx.E.next (Sx.C.seq (Sx.C.region ?_)))
  refine Sx.G.p (.slice A xs.length c) ?_
  refine Sx.G.p (.int .i64 ((xs.length : Nat) : Int)) ?_
  refine Sx.G.mks (r := (rLsw rInt)) ([] : (List Int)) [.slice none 0 0] 22 24 (.tmp 6) (.tmp 6) 1 24 xs.length rfl (by kernel_rfl) (by kernel_rfl) (by kernel_rfl) rfl rfl (fun w lo hi => Kit.own_nil _ _ _) (by kernel_rfl) (by kernel_rfl) (by simp only [maxLen]; omega) (by omega) (fun b1 hi1 F1 => ?_)
  refine Sx.G.p (.slice (some ⟨b1, 0, none⟩) xs.length xs.length) ?_
  refine Sx.G.nil (Sx.E.next (Sx.C.seq (Sx.C.seq (Sx.C.region ?_))))
  refine Sx.G.p (.int .i64 0) ?_
  refine Sx.G.nil (Sx.E.next (Sx.C.block ?_))
  refine Sx.C.loop (α := Nat × Nat × List Nat) (fun x => x.1 ≤ xs.length) (fun x => [(4, .int .i64 (x.1 : Int)), (0, .slice A xs.length c), (2, .slice none 0 0), (3, .slice (some ⟨b1, 0, none⟩) xs.length xs.length)]) (fun x => [ow (rLsw (rLsw rInt)) w.heap.size x.2.1 (xs.take x.1 ++ List.replicate (xs.length - x.1) ([] : (List Int))) [.slice (some ⟨b1, 0, none⟩) xs.length xs.length] x.2.2]) (fun x => xs.length - x.1) (0, hi1, F1) (Nat.zero_le _) (fun a hA => (Sx.Ag.sub hA (by kernel_rfl))) (fun w' S => by have S2 := Sx.St.widen S 0 rfl (Nat.le_refl _) (S.hi 0 _ rfl); exact S2) (fun x hx => ?_)
  obtain ⟨i, hi, F⟩ := x
  dsimp only at hx
  obtain hi' := hx
  refine Sx.C.seq (Sx.C.seq (Sx.C.region ?_))
  refine Sx.G.p (.int .i64 (i : Int)) ?_
  refine Sx.G.p (.slice A xs.length c) ?_
  refine Sx.G.p (.int .i64 ((xs.length : Nat) : Int)) ?_
  refine Sx.G.p (.bool (decide ((i : Int) < ((xs.length : Nat) : Int)))) ?_
  refine Sx.G.nil (Sx.E.next ?_)
  cases hc2 : (decide ((i : Int) < ((xs.length : Nat) : Int)))
  · have hb2 := hc2
    replace hc2 := of_decide_eq_false hc2
    refine Sx.C.nn ?_
    refine Sx.C.exit (Sx.E.then_exit (Sx.E.then_exit (Sx.E.block_hit (Sx.E.next (Sx.C.seq (Sx.C.region ?_))))))
    refine Sx.G.p (.slice (some ⟨b1, 0, none⟩) xs.length xs.length) ?_
    refine Sx.G.p (.slice (some ⟨b1, 0, none⟩) xs.length xs.length) ?_
    refine Sx.G.nil (Sx.E.next (Sx.C.ret ?_))
    refine Sx.E.ret1 (.slice (some ⟨b1, 0, none⟩) xs.length xs.length) rfl (by kernel_rfl) (fun w S => ?_)
    have h2' : xs.take i = xs := List.take_of_length_le (by omega)
    rw [h2', show xs.length - i = 0 by omega, List.replicate_zero, List.append_nil] at S
    exact ⟨[_], F, rfl, S.own 0 rfl, S.nodup 0 rfl, S.below⟩
  · have hb2 := hc2
    replace hc2 := of_decide_eq_true hc2
    refine Sx.C.yy ?_
    refine Sx.C.skip (Sx.E.next (Sx.C.seq ?_))
    have hlt : i < xs.length := by omega
    refine Sx.C.open (r := (rLsw rInt)) (pre := xs.take i) (x := ([] : (List Int))) (post := List.replicate (xs.length - (i + 1)) ([] : (List Int))) (by rw [show xs.length - i = (xs.length - (i + 1)) + 1 by omega, List.replicate_succ]) (by decide) (fun b off es F1 Fi F2 eA eF hes hm hmc => ?_)
    obtain ⟨rfl, rfl⟩ : b1 = b ∧ 0 = off := by cases eA; exact ⟨rfl, rfl⟩
    subst eF
    refine Sx.C.know (p := ∃ A0 c0, es = [.slice A0 0 c0]) (fun w S => Kit.open_nil (St.at_ S 1 rfl).1) ?_
    rintro ⟨z0, d0, rfl⟩
    refine Sx.C.block (Sx.C.region ?_)
    refine Sx.G.p (.slice (some ⟨b1, 0, none⟩) xs.length xs.length) ?_
    refine Sx.G.p (.int .i64 (i : Int)) ?_
    refine Sx.G.p (.slice A xs.length c) ?_
    refine Sx.G.p (.int .i64 (i : Int)) ?_
    obtain ⟨b3, f3, es3, eA3, hr3, hl3, hm3⟩ := Sx.old_elem (by decide) h i (by omega)
    subst eA3
    obtain ⟨x3, hx3⟩ : ∃ z_, z_ = (xs[i]'(by omega)) := ⟨_, rfl⟩
    rw [← hx3] at hr3
    replace hr3 : rdLst rInt w 0 w.heap.size x3 es3 := hr3
    obtain ⟨P3, rfl⟩ := lst_rd hr3
    obtain ⟨A3, c3, e3, -⟩ := lst_val hr3
    subst e3
    refine Sx.G.elem 22 24 (.tmp 16) (.tmp 17) 1 24 b3 f3 xs.length c i rfl (by kernel_rfl) (by kernel_rfl) (by kernel_rfl) (by kernel_rfl) (by omega) ?_
    refine Sx.G.ldr1 24 (.tmp 18) b3 ((f3 + i * 1) + 0) (.slice A3 x3.length c3) rfl (by kernel_rfl) (by kernel_rfl) (fun w S => hm3 w _ S 0 _ rfl) (by kernel_rfl) ?_
    refine Sx.G.c 26 #[.slice A3 x3.length c3] (fun w4 S => (Kit.kto_IntS x3 A3 c3 _ (hce _ (hx3 ▸ List.getElem_mem _)) (St.old (r := (rLsw rInt)) S hr3)).mono fun e w4' hp => ?_)
    obtain ⟨cs, F, rfl, ho, hF, hb⟩ := hp
    obtain ⟨u4, rfl⟩ := lsw_own ho
    obtain ⟨A4, c4, e4, -⟩ := lst_val ((St.got S hb ho hF).reads 0 rfl)
    subst e4
    generalize F = F4 at ho hF
    refine ⟨_, _, rfl, (St.got S hb ho hF), ?_⟩
    clear S hb ho hF
    refine Sx.G.elem 22 24 (.tmp 14) (.tmp 15) 1 24 b1 0 xs.length xs.length i rfl (by kernel_rfl) (by kernel_rfl) (by kernel_rfl) (by kernel_rfl) (by omega) ?_
    refine Sx.G.hw i [.slice A4 x3.length c4] .a1 (by rw [List.length_take]; omega) ?_
    refine Sx.G.nil (Sx.E.block_normal (Sx.E.next (Sx.C.region ?_)))
    refine Sx.G.p (.int .i64 (i : Int)) ?_
    refine Sx.G.q (.int .i64 (IntKind.i64.wrap ((i : Int) + 1))) (.int .i64 ((i + 1 : Nat) : Int)) (congrArg (Value.int .i64) (Sx.wrap_up i (by omega))) ?_
    refine Sx.G.p (.int .i64 ((i + 1 : Nat) : Int)) ?_
    refine Sx.G.nil ?_
    exact Sx.E.again (i + 1, max hi w4'.heap.size, _) (show i + 1 ≤ xs.length by omega) (show xs.length - (i + 1) < xs.length - i by omega) (fun a hA => (Sx.Ag.sub hA (by kernel_rfl))) (fun w' S => by
      replace S := St.pick S [1, 0] [_, _] rfl (by decide)
      have S3 := Sx.St.closeW S (by decide) xs.length xs.length (by simp [List.length_take]; omega) hmc
      rw [hx3] at S3
      rw [show xs.take i ++ xs[i] :: List.replicate (xs.length - (i + 1)) ([] : (List Int)) = xs.take (i + 1) ++ List.replicate (xs.length - (i + 1)) ([] : (List Int)) by rw [Kit.take_step hlt, List.append_assoc]; rfl] at S3
      exact S3
      )

set_option maxRecDepth 100000 in
set_option maxHeartbeats 4000000 in
theorem keq_GuestS (xs : (List gT)) (A : Option Addr) (c : Nat) (B : Option Addr) (d : Nat) (w : World) (hc : (rLsw wG).cap xs) (h : rdLst wG w 0 w.heap.size xs [.slice A xs.length c]) (j : rdLst wG w 0 w.heap.size xs [.slice B xs.length d]) : Calls Try.prog 29 #[.slice A xs.length c, .slice B xs.length d] w (fun e w' => e = .returned (.bool true) ∧ Below w.heap.size w w') := by
  obtain ⟨hl, hce⟩ := hc
  refine Sx.enter (args := [.slice A xs.length c, .slice B xs.length d]) Try.func29 rfl Try.ntmps29 rfl ?_
  refine Sx.C.seq (Sx.C.region ?_)
  refine Sx.G.p (.bool false) ?_
  refine Sx.G.nil (Sx.E.next (Sx.C.seq (Sx.C.seq (Sx.C.region ?_))))
  refine Sx.G.p (.slice A xs.length c) ?_
  refine Sx.G.p (.int .i64 ((xs.length : Nat) : Int)) ?_
  refine Sx.G.p (.slice B xs.length d) ?_
  refine Sx.G.p (.int .i64 ((xs.length : Nat) : Int)) ?_
  refine Sx.G.q (.bool (((xs.length : Nat) : Int) != ((xs.length : Nat) : Int))) (.bool false) (congrArg Value.bool (bne_self_eq_false _)) ?_
  refine Sx.G.nil (Sx.E.next ?_)
  refine Sx.C.nn ?_
  refine Sx.C.skip (Sx.E.next (Sx.C.seq (Sx.C.seq (Sx.C.region ?_))))
  refine Sx.G.p (.int .i64 0) ?_
  refine Sx.G.nil (Sx.E.next (Sx.C.block ?_))
  refine Sx.C.loop (α := Nat) (fun i => i ≤ xs.length) (fun i => [(5, .int .i64 (i : Int)), (0, .slice A xs.length c), (1, .slice B xs.length d), (4, .bool false)]) (fun i => []) (fun i => xs.length - i) 0 (Nat.zero_le _) (fun a hA => (Sx.Ag.sub hA (by kernel_rfl))) (fun w S => S) (fun i hx => ?_)
  refine Sx.C.seq (Sx.C.seq (Sx.C.region ?_))
  refine Sx.G.p (.int .i64 (i : Int)) ?_
  refine Sx.G.p (.slice A xs.length c) ?_
  refine Sx.G.p (.int .i64 ((xs.length : Nat) : Int)) ?_
  refine Sx.G.p (.bool (decide ((i : Int) < ((xs.length : Nat) : Int)))) ?_
  refine Sx.G.nil (Sx.E.next ?_)
  cases hc1 : (decide ((i : Int) < ((xs.length : Nat) : Int)))
  · have hb1 := hc1
    replace hc1 := of_decide_eq_false hc1
    refine Sx.C.nn ?_
    refine Sx.C.exit (Sx.E.then_exit (Sx.E.then_exit (Sx.E.block_hit (Sx.E.next (Sx.C.seq (Sx.C.region ?_))))))
    refine Sx.G.p (.bool true) ?_
    refine Sx.G.nil (Sx.E.next (Sx.C.ret ?_))
    refine Sx.E.ret1 (.bool true) rfl (by kernel_rfl) (fun w S => ?_)
    exact ⟨rfl, S.below⟩
  · have hb1 := hc1
    replace hc1 := of_decide_eq_true hc1
    refine Sx.C.yy ?_
    refine Sx.C.skip (Sx.E.next (Sx.C.seq (Sx.C.block (Sx.C.seq ?_))))
    refine Sx.C.draw (.take 0 (.take 1 (.take 2 (.take 3 (.take 4 (.take 5 (.take 6 (.take 7 (.alone 8 (.take 9 .nil)))))))))) [] (fun w S => St.pick S [] _ rfl (by decide)) (by kernel_rfl) (by kernel_rfl) (by kernel_rfl) ?_
    refine Sx.GT.p (.slice A xs.length c) ?_
    refine Sx.GT.p (.int .i64 (i : Int)) ?_
    obtain ⟨b2, f2, es2, eA2, hr2, hl2, hm2⟩ := Sx.old_elem (by decide) h i (by omega)
    subst eA2
    obtain ⟨x2, hx2⟩ : ∃ z_, z_ = (xs[i]'(by omega)) := ⟨_, rfl⟩
    rw [← hx2] at hr2
    have hR2 := hr2
    obtain ⟨P2_0, P2_1, P2_2, P2_3, rfl, hf2_0, hf2_1, hf2_2, hf2_3⟩ := wG_rd hr2
    obtain ⟨A2_0, c2_0, e2_0, -⟩ := lst_val hf2_0
    subst e2_0
    obtain ⟨A2_1, c2_1, e2_1, -⟩ := lst_val hf2_1
    subst e2_1
    obtain ⟨A2_2, c2_2, e2_2, -⟩ := lst_val hf2_2
    subst e2_2
    obtain ⟨A2_3, c2_3, e2_3, -⟩ := lst_val hf2_3
    subst e2_3
    refine Sx.GT.elem 29 52 (.tmp 17) (.tmp 18) 15 184 b2 f2 xs.length c i 2 (by rfl) (by rfl) (by kernel_rfl) (by kernel_rfl) (by kernel_rfl) (by kernel_rfl) (by omega) ?_
    refine Sx.GT.ldr 52 (.tmp 19) b2 (f2 + i * 15) [.slice A2_0 x2.prog.length c2_0, .int .i64 x2.a, .int .i64 x2.pc, .slice A2_1 x2.wr.length c2_1, .slice A2_2 x2.lv.length c2_2, .int .i64 x2.t.1, .int .i64 x2.t.2.1, .bool x2.t.2.2, .int .i64 x2.pd, .int .i64 x2.x.1, .int .i64 x2.x.2.1, .bool x2.x.2.2.1, .int .i64 x2.x.2.2.2, .bool x2.hl, .slice A2_3 x2.seen.length c2_3] 3 (by rfl) (by rfl) (by kernel_rfl) (by kernel_rfl) (fun w S => hm2 w _ S) (by kernel_rfl) (by kernel_rfl) ?_
    refine Sx.GT.p (.slice B xs.length d) ?_
    refine Sx.GT.p (.int .i64 (i : Int)) ?_
    obtain ⟨b3, f3, es3, eA3, hr3, hl3, hm3⟩ := Sx.old_elem (by decide) j i (by omega)
    subst eA3
    rw [← hx2] at hr3
    have hR3 := hr3
    obtain ⟨P3_0, P3_1, P3_2, P3_3, rfl, hf3_0, hf3_1, hf3_2, hf3_3⟩ := wG_rd hr3
    obtain ⟨A3_0, c3_0, e3_0, -⟩ := lst_val hf3_0
    subst e3_0
    obtain ⟨A3_1, c3_1, e3_1, -⟩ := lst_val hf3_1
    subst e3_1
    obtain ⟨A3_2, c3_2, e3_2, -⟩ := lst_val hf3_2
    subst e3_2
    obtain ⟨A3_3, c3_3, e3_3, -⟩ := lst_val hf3_3
    subst e3_3
    refine Sx.GT.elem 29 52 (.tmp 21) (.tmp 22) 15 184 b3 f3 xs.length d i 6 (by rfl) (by rfl) (by kernel_rfl) (by kernel_rfl) (by kernel_rfl) (by kernel_rfl) (by omega) ?_
    refine Sx.GT.ldr 52 (.tmp 23) b3 (f3 + i * 15) [.slice A3_0 x2.prog.length c3_0, .int .i64 x2.a, .int .i64 x2.pc, .slice A3_1 x2.wr.length c3_1, .slice A3_2 x2.lv.length c3_2, .int .i64 x2.t.1, .int .i64 x2.t.2.1, .bool x2.t.2.2, .int .i64 x2.pd, .int .i64 x2.x.1, .int .i64 x2.x.2.1, .bool x2.x.2.2.1, .int .i64 x2.x.2.2.2, .bool x2.hl, .slice A3_3 x2.seen.length c3_3] 7 (by rfl) (by rfl) (by kernel_rfl) (by kernel_rfl) (fun w S => hm3 w _ S) (by kernel_rfl) (by kernel_rfl) ?_
    refine Sx.GT.alone (Sx.Alone.cp 38 #[.agg #[.slice A2_0 x2.prog.length c2_0, .int .i64 x2.a, .int .i64 x2.pc, .slice A2_1 x2.wr.length c2_1, .slice A2_2 x2.lv.length c2_2, .int .i64 x2.t.1, .int .i64 x2.t.2.1, .bool x2.t.2.2, .int .i64 x2.pd, .int .i64 x2.x.1, .int .i64 x2.x.2.1, .bool x2.x.2.2.1, .int .i64 x2.x.2.2.2, .bool x2.hl, .slice A2_3 x2.seen.length c2_3], .agg #[.slice A3_0 x2.prog.length c3_0, .int .i64 x2.a, .int .i64 x2.pc, .slice A3_1 x2.wr.length c3_1, .slice A3_2 x2.lv.length c3_2, .int .i64 x2.t.1, .int .i64 x2.t.2.1, .bool x2.t.2.2, .int .i64 x2.pd, .int .i64 x2.x.1, .int .i64 x2.x.2.1, .bool x2.x.2.2.1, .int .i64 x2.x.2.2.2, .bool x2.hl, .slice A3_3 x2.seen.length c3_3]] (.bool true) (fun w S => by exact Kit.keq_Guest x2 _ _ _ (hce _ (hx2 ▸ List.getElem_mem _)) (St.old S hR2) (St.old S hR3)) (fun w S => St.pick S [] _ rfl (by decide)) ?_)
    refine Sx.GT.p (.bool false) ?_
    refine Sx.GT.nil (Sx.E.next ?_)
    refine Sx.C.nn ?_
    refine Sx.C.skip (Sx.E.block_normal (Sx.E.next (Sx.C.region ?_)))
    refine Sx.G.p (.int .i64 (i : Int)) ?_
    refine Sx.G.q (.int .i64 (IntKind.i64.wrap ((i : Int) + 1))) (.int .i64 ((i + 1 : Nat) : Int)) (congrArg (Value.int .i64) (Sx.wrap_up i (by omega))) ?_
    refine Sx.G.p (.int .i64 ((i + 1 : Nat) : Int)) ?_
    refine Sx.G.nil ?_
    exact Sx.E.again (i + 1) (by omega) (by omega) (fun a hA => (Sx.Ag.sub hA (by kernel_rfl))) (fun w S => S)

set_option maxRecDepth 100000 in
set_option maxHeartbeats 4000000 in
theorem ksz_GuestS (xs : (List gT)) (A : Option Addr) (c : Nat) (left : Int) (w : World) (hw : (rLsw wG).wf xs) (h0 : 0 ≤ left) (h1 : left ≤ 1048576) (h : rdLst wG w 0 w.heap.size xs [.slice A xs.length c]) : Calls Try.prog 21 #[.slice A xs.length c, .int .i64 left] w (fun e w' => ∃ l, e = .returned (.int .i64 l) ∧ Kit.Sz left ((rLsw wG).size xs) l ∧ Below w.heap.size w w') := by
  obtain ⟨hl, hwe⟩ := hw
  simp only [maxLen] at hl
  refine Sx.enter (args := [.slice A xs.length c, .int .i64 left]) Try.func21 rfl Try.ntmps21 rfl ?_
  refine Sx.C.seq (Sx.C.region ?_)
  refine Sx.G.p (.int .i64 0) ?_
  refine Sx.G.nil (Sx.E.next (Sx.C.seq (Sx.C.region ?_)))
  refine Sx.G.p (.int .i64 left) ?_
  refine Sx.G.p (.slice A xs.length c) ?_
  refine Sx.G.p (.int .i64 ((xs.length : Nat) : Int)) ?_
  refine Sx.G.q (.int .i64 (IntKind.i64.wrap (left - ((xs.length : Nat) : Int)))) (.int .i64 (left - ((xs.length : Nat) : Int))) (congrArg (Value.int .i64) (by rw [IntKind.wrap_i64]; omega)) ?_
  refine Sx.G.p (.int .i64 (left - ((xs.length : Nat) : Int))) ?_
  refine Sx.G.nil (Sx.E.next (Sx.C.seq (Sx.C.seq (Sx.C.region ?_))))
  refine Sx.G.p (.int .i64 (left - ((xs.length : Nat) : Int))) ?_
  refine Sx.G.p (.bool (decide ((left - ((xs.length : Nat) : Int)) < 0))) ?_
  refine Sx.G.nil (Sx.E.next ?_)
  cases hc1 : (decide ((left - ((xs.length : Nat) : Int)) < 0))
  · have hb1 := hc1
    replace hc1 := of_decide_eq_false hc1
    refine Sx.C.nn ?_
    refine Sx.C.skip (Sx.E.next (Sx.C.seq (Sx.C.seq (Sx.C.region ?_))))
    refine Sx.G.p (.int .i64 0) ?_
    refine Sx.G.nil (Sx.E.next (Sx.C.block ?_))
    refine Sx.C.loop (α := Nat × Int) (fun x => x.1 ≤ xs.length ∧ x.2 = left - ((xs.length : Nat) : Int) - ((sizeAll wG (xs.take x.1) : Nat) : Int) ∧ 0 ≤ x.2) (fun x => [(5, .int .i64 (x.1 : Int)), (1, .int .i64 x.2), (0, .slice A xs.length c), (4, .int .i64 0)]) (fun x => []) (fun x => xs.length - x.1) (0, left - ((xs.length : Nat) : Int)) (by refine ⟨Nat.zero_le _, ?_, by omega⟩; simp [sizeAll]) (fun a hA => (Sx.Ag.sub hA (by kernel_rfl))) (fun w S => S) (fun x hx => ?_)
    obtain ⟨i, m⟩ := x
    dsimp only at hx
    obtain ⟨hi, hm, h0m⟩ := hx
    refine Sx.C.seq (Sx.C.seq (Sx.C.region ?_))
    refine Sx.G.p (.int .i64 (i : Int)) ?_
    refine Sx.G.p (.slice A xs.length c) ?_
    refine Sx.G.p (.int .i64 ((xs.length : Nat) : Int)) ?_
    refine Sx.G.p (.bool (decide ((i : Int) < ((xs.length : Nat) : Int)))) ?_
    refine Sx.G.nil (Sx.E.next ?_)
    cases hc2 : (decide ((i : Int) < ((xs.length : Nat) : Int)))
    · have hb2 := hc2
      replace hc2 := of_decide_eq_false hc2
      refine Sx.C.nn ?_
      refine Sx.C.exit (Sx.E.then_exit (Sx.E.then_exit (Sx.E.block_hit (Sx.E.next (Sx.C.seq (Sx.C.region ?_))))))
      refine Sx.G.p (.int .i64 m) ?_
      refine Sx.G.p (.int .i64 m) ?_
      refine Sx.G.nil (Sx.E.next (Sx.C.ret ?_))
      refine Sx.E.ret1 (.int .i64 m) rfl (by kernel_rfl) (fun w S => ?_)
      have hle := fun q => Kit.size_le (r := wG) (xs := xs) q
      have h2' : xs.take i = xs := List.take_of_length_le (by omega)
      rw [h2'] at hm
      exact ⟨_, rfl, show Kit.Sz left (xs.length + sizeAll wG xs) _ by unfold Kit.Sz; omega, S.below⟩
    · have hb2 := hc2
      replace hc2 := of_decide_eq_true hc2
      refine Sx.C.yy ?_
      refine Sx.C.skip (Sx.E.next (Sx.C.seq (Sx.C.block (Sx.C.seq (Sx.C.region ?_)))))
      refine Sx.G.p (.slice A xs.length c) ?_
      refine Sx.G.p (.int .i64 (i : Int)) ?_
      obtain ⟨b3, f3, es3, eA3, hr3, hl3, hm3⟩ := Sx.old_elem (by decide) h i (by omega)
      subst eA3
      obtain ⟨x3, hx3⟩ : ∃ z_, z_ = (xs[i]'(by omega)) := ⟨_, rfl⟩
      rw [← hx3] at hr3
      have hR3 := hr3
      obtain ⟨P3_0, P3_1, P3_2, P3_3, rfl, hf3_0, hf3_1, hf3_2, hf3_3⟩ := wG_rd hr3
      obtain ⟨A3_0, c3_0, e3_0, -⟩ := lst_val hf3_0
      subst e3_0
      obtain ⟨A3_1, c3_1, e3_1, -⟩ := lst_val hf3_1
      subst e3_1
      obtain ⟨A3_2, c3_2, e3_2, -⟩ := lst_val hf3_2
      subst e3_2
      obtain ⟨A3_3, c3_3, e3_3, -⟩ := lst_val hf3_3
      subst e3_3
      refine Sx.G.elem 23 67 (.tmp 18) (.tmp 19) 15 184 b3 f3 xs.length c i rfl (by kernel_rfl) (by kernel_rfl) (by kernel_rfl) (by kernel_rfl) (by omega) ?_
      refine Sx.G.ldr 67 (.tmp 20) b3 (f3 + i * 15) [.slice A3_0 x3.prog.length c3_0, .int .i64 x3.a, .int .i64 x3.pc, .slice A3_1 x3.wr.length c3_1, .slice A3_2 x3.lv.length c3_2, .int .i64 x3.t.1, .int .i64 x3.t.2.1, .bool x3.t.2.2, .int .i64 x3.pd, .int .i64 x3.x.1, .int .i64 x3.x.2.1, .bool x3.x.2.2.1, .int .i64 x3.x.2.2.2, .bool x3.hl, .slice A3_3 x3.seen.length c3_3] rfl (by kernel_rfl) (by kernel_rfl) (fun w S => hm3 w _ S) (by kernel_rfl) (by kernel_rfl) ?_
      refine Sx.G.p (.int .i64 m) ?_
      refine Sx.G.c 34 #[.agg #[.slice A3_0 x3.prog.length c3_0, .int .i64 x3.a, .int .i64 x3.pc, .slice A3_1 x3.wr.length c3_1, .slice A3_2 x3.lv.length c3_2, .int .i64 x3.t.1, .int .i64 x3.t.2.1, .bool x3.t.2.2, .int .i64 x3.pd, .int .i64 x3.x.1, .int .i64 x3.x.2.1, .bool x3.x.2.2.1, .int .i64 x3.x.2.2.2, .bool x3.hl, .slice A3_3 x3.seen.length c3_3], .int .i64 m] (fun w4 S => (Kit.ksz_Guest x3 _ m _ (hwe _ (hx3 ▸ List.getElem_mem _)) (by omega) (by omega) (St.old S hR3)).mono fun e w4' hp => ?_)
      obtain ⟨l4, rfl, hz4, hb⟩ := hp
      skip
      unfold Kit.Sz at hz4
      refine ⟨_, _, rfl, (S.call hb), ?_⟩
      clear S hb
      refine Sx.G.p (.int .i64 l4) ?_
      refine Sx.G.nil (Sx.E.next (Sx.C.seq (Sx.C.region ?_)))
      refine Sx.G.p (.int .i64 l4) ?_
      refine Sx.G.p (.bool (decide (l4 < 0))) ?_
      refine Sx.G.nil (Sx.E.next ?_)
      cases hc5 : (decide (l4 < 0))
      · have hb5 := hc5
        replace hc5 := of_decide_eq_false hc5
        refine Sx.C.nn ?_
        refine Sx.C.skip (Sx.E.block_normal (Sx.E.next (Sx.C.region ?_)))
        refine Sx.G.p (.int .i64 (i : Int)) ?_
        refine Sx.G.q (.int .i64 (IntKind.i64.wrap ((i : Int) + 1))) (.int .i64 ((i + 1 : Nat) : Int)) (congrArg (Value.int .i64) (Sx.wrap_up i (by omega))) ?_
        refine Sx.G.p (.int .i64 ((i + 1 : Nat) : Int)) ?_
        refine Sx.G.nil ?_
        have hst := Kit.size_step (r := wG) (show i < xs.length by omega)
        rw [← hx3] at hst
        exact Sx.E.again (i + 1, l4) (by refine ⟨by omega, ?_, by omega⟩; show _ = left - _ - ((sizeAll wG (xs.take (i + 1)) : Nat) : Int); omega) (show xs.length - (i + 1) < xs.length - i by omega) (fun a hA => (Sx.Ag.sub hA (by kernel_rfl))) (fun w S => S)
      · have hb5 := hc5
        replace hc5 := of_decide_eq_true hc5
        refine Sx.C.yy ?_
        refine Sx.C.seq (Sx.C.region ?_)
        refine Sx.G.p (.int .i64 (-1)) ?_
        refine Sx.G.nil (Sx.E.next (Sx.C.ret (Sx.E.block_ret (Sx.E.then_ret (Sx.E.then_ret (Sx.E.block_ret (Sx.E.then_ret ?_)))))))
        refine Sx.E.ret1 (.int .i64 (-1)) rfl (by kernel_rfl) (fun w S => ?_)
        have hle := fun q => Kit.size_le (r := wG) (xs := xs) q
        have hst := Kit.size_step (r := wG) (show i < xs.length by omega)
        rw [← hx3] at hst
        have h1' := hle (i + 1)
        exact ⟨_, rfl, show Kit.Sz left (xs.length + sizeAll wG xs) _ by unfold Kit.Sz; omega, S.below⟩
  · have hb1 := hc1
    replace hc1 := of_decide_eq_true hc1
    refine Sx.C.yy ?_
    refine Sx.C.seq (Sx.C.region ?_)
    refine Sx.G.p (.int .i64 (-1)) ?_
    refine Sx.G.nil (Sx.E.next (Sx.C.ret (Sx.E.then_ret ?_)))
    refine Sx.E.ret1 (.int .i64 (-1)) rfl (by kernel_rfl) (fun w S => ?_)
    have hle := fun q => Kit.size_le (r := wG) (xs := xs) q
    exact ⟨_, rfl, show Kit.Sz left (xs.length + sizeAll wG xs) _ by unfold Kit.Sz; omega, S.below⟩

set_option maxRecDepth 100000 in
set_option maxHeartbeats 4000000 in
theorem kmk0_GuestS {w0 w : World} {lo hi : Nat} {R : List Res} (xs : (List gT)) (A : Option Addr) (c k : Nat) (F : List Nat) (hc : (rLsw wG).cap xs) (hk : k + cntAll wG xs ≤ 1000000000000) (S : St w0 w (ow (rLsw wG) lo hi xs [.slice A xs.length c] F :: R)) : Calls Try.prog 31 #[.slice A xs.length c, .int .i64 ((k : Nat) : Int)] w fun e w' => e = .returned (.int .i64 ((k + cntAll wG xs : Nat) : Int)) ∧ St w0 w' (ow (rLsw wG) lo hi (mkAll wG k xs) [.slice A xs.length c] F :: R) := by
  obtain ⟨hl, hce⟩ := hc
  refine Sx.enterS (args := [.slice A xs.length c, .int .i64 ((k : Nat) : Int)]) S Try.func31 rfl Try.ntmps31 rfl ?_
  refine Sx.C.seq (Sx.C.region ?_)
  refine Sx.G.p (.int .i64 0) ?_
  refine Sx.G.nil (Sx.E.next (Sx.C.seq (Sx.C.seq (Sx.C.region ?_))))
  refine Sx.G.p (.int .i64 0) ?_
  refine Sx.G.nil (Sx.E.next (Sx.C.block ?_))
  refine Sx.C.loop (α := Nat × Nat) (fun x => x.1 ≤ xs.length ∧ x.2 = k + cntAll wG (xs.take x.1)) (fun x => [(5, .int .i64 (x.1 : Int)), (1, .int .i64 ((x.2 : Nat) : Int)), (0, .slice A xs.length c), (4, .int .i64 0)]) (fun x => (ow (rLsw wG) lo hi (mkAll wG k (xs.take x.1) ++ xs.drop x.1) [.slice A xs.length c] F :: R)) (fun x => xs.length - x.1) (0, k) (by refine ⟨Nat.zero_le _, ?_⟩; simp [cntAll]) (fun a hA => (Sx.Ag.sub hA (by kernel_rfl))) (fun w S => S) (fun x hx => ?_)
  obtain ⟨i, q⟩ := x
  dsimp only at hx
  obtain ⟨hi', hq⟩ := hx
  have hqm := Kit.cnt_le (r := wG) (xs := xs) i
  refine Sx.C.seq (Sx.C.seq (Sx.C.region ?_))
  refine Sx.G.p (.int .i64 (i : Int)) ?_
  refine Sx.G.p (.slice A xs.length c) ?_
  refine Sx.G.p (.int .i64 ((xs.length : Nat) : Int)) ?_
  refine Sx.G.p (.bool (decide ((i : Int) < ((xs.length : Nat) : Int)))) ?_
  refine Sx.G.nil (Sx.E.next ?_)
  cases hc1 : (decide ((i : Int) < ((xs.length : Nat) : Int)))
  · have hb1 := hc1
    replace hc1 := of_decide_eq_false hc1
    refine Sx.C.nn ?_
    refine Sx.C.exit (Sx.E.then_exit (Sx.E.then_exit (Sx.E.block_hit (Sx.E.next (Sx.C.seq (Sx.C.region ?_))))))
    refine Sx.G.p (.int .i64 ((q : Nat) : Int)) ?_
    refine Sx.G.p (.int .i64 ((q : Nat) : Int)) ?_
    refine Sx.G.nil (Sx.E.next (Sx.C.ret ?_))
    refine Sx.E.ret1 (.int .i64 ((q : Nat) : Int)) rfl (by kernel_rfl) (fun w S => ?_)
    have h2' : xs.take i = xs := List.take_of_length_le (by omega)
    have h3' : xs.drop i = [] := List.drop_of_length_le (by omega)
    rw [h2'] at hq
    rw [h2', h3', List.append_nil] at S
    subst hq
    exact ⟨rfl, S⟩
  · have hb1 := hc1
    replace hc1 := of_decide_eq_true hc1
    refine Sx.C.yy ?_
    refine Sx.C.skip (Sx.E.next (Sx.C.seq ?_))
    have hlt : i < xs.length := by omega
    obtain ⟨x1, hx1⟩ : ∃ x, x = xs[i] := ⟨_, rfl⟩
    have hm1 : x1 ∈ xs := hx1 ▸ List.getElem_mem _
    refine Sx.C.open (r := wG) (pre := mkAll wG k (xs.take i)) (x := x1) (post := xs.drop (i + 1)) (by rw [hx1, ← Kit.drop_step hlt]) (by decide) (fun b off es F1 Fi F2 eA eF hes hm hmc => ?_)
    subst eA eF
    have hst0 := Kit.cnt_step (r := wG) (show i < xs.length by omega)
    rw [← hx1] at hst0
    have hcnt0 := Kit.cnt_Guest x1
    rw [hcnt0] at hst0
    have hqm0 := Kit.cnt_le (r := wG) (xs := xs) (i + 1)
    refine Kit.copen_Guest (fun p0 p1 p2 p3 pF0 pF1 pF2 pF3 e1 e2 => ?_)
    subst e1 e2
    refine Sx.C.know (p := ∃ A c, p0 = .slice A x1.prog.length c) (fun w S => by obtain ⟨A, c, e, -⟩ := lst_val (St.reads S 1 rfl); exact ⟨A, c, e⟩) ?_
    rintro ⟨pA0, pc0, rfl⟩
    refine Sx.C.know (p := ∃ A c, p1 = .slice A x1.wr.length c) (fun w S => by obtain ⟨A, c, e, -⟩ := lst_val (St.reads S 2 rfl); exact ⟨A, c, e⟩) ?_
    rintro ⟨pA1, pc1, rfl⟩
    refine Sx.C.know (p := ∃ A c, p2 = .slice A x1.lv.length c) (fun w S => by obtain ⟨A, c, e, -⟩ := lst_val (St.reads S 3 rfl); exact ⟨A, c, e⟩) ?_
    rintro ⟨pA2, pc2, rfl⟩
    refine Sx.C.know (p := ∃ A c, p3 = .slice A x1.seen.length c) (fun w S => by obtain ⟨A, c, e, -⟩ := lst_val (St.reads S 4 rfl); exact ⟨A, c, e⟩) ?_
    rintro ⟨pA3, pc3, rfl⟩
    obtain ⟨hcap0, hcap1, hcap2, hcap3, hcap4, hcap5, hcap6, hcap7, hcap8, hcap9⟩ := hce _ (hm1)
    refine Sx.C.block (Sx.C.seq (Sx.C.region ?_))
    refine Sx.G.p (.slice (some ⟨b, off, none⟩) xs.length c) ?_
    refine Sx.G.p (.int .i64 (i : Int)) ?_
    refine Sx.G.elem 29 52 (.tmp 12) (.tmp 13) 15 184 b off xs.length c i rfl (by kernel_rfl) (by kernel_rfl) (by kernel_rfl) (by kernel_rfl) (by omega) ?_
    refine Sx.G.p (.pointer (some ⟨b, (off + i * 15), none⟩)) ?_
    refine Sx.G.hld1 (k := i) (size := 15) 47 (.tmp 15) b ((off + i * 15) + 0) 0 0 (.slice pA0 x1.prog.length pc0) rfl (by kernel_rfl) (by kernel_rfl) rfl (by rw [Kit.mk_len, List.length_take]; omega) rfl rfl rfl (by kernel_rfl) ?_
    refine Sx.G.p (.int .i64 ((q : Nat) : Int)) ?_
    obtain ⟨q2, hq2⟩ : ∃ q', q' = q + cntAll (rPair rInt rInt) x1.prog := ⟨_, rfl⟩
    refine Sx.G.c 39 #[.slice pA0 x1.prog.length pc0, .int .i64 ((q : Nat) : Int)] (fun w2 S => (Kit.kmk_InsS x1.prog pA0 pc0 q _ hcap0 (by omega) S 1 rfl).mono fun e w2' hp => ?_)
    rw [← hq2] at hp
    obtain ⟨rfl, S'⟩ := hp
    refine ⟨_, _, rfl, S', ?_⟩
    clear S S'
    refine Sx.G.p (.int .i64 ((q2 : Nat) : Int)) ?_
    refine Sx.G.nil (Sx.E.next (Sx.C.seq (Sx.C.region ?_)))
    refine Sx.G.p (.slice (some ⟨b, off, none⟩) xs.length c) ?_
    refine Sx.G.p (.int .i64 (i : Int)) ?_
    refine Sx.G.p (.int .i64 ((q2 : Nat) : Int)) ?_
    refine Sx.G.elem 29 52 (.tmp 19) (.tmp 20) 15 184 b off xs.length c i rfl (by kernel_rfl) (by kernel_rfl) (by kernel_rfl) (by kernel_rfl) (by omega) ?_
    refine Sx.G.p (.pointer (some ⟨b, (off + i * 15) + 1, none⟩)) ?_
    refine Sx.G.hsto (k := i) (size := 15) 3 (.tmp 23) (.tmp 21) b ((off + i * 15) + 1) 1 0 [.int .i64 ((q2 : Nat) : Int)] [.slice pA0 x1.prog.length pc0, .int .i64 ((q2 : Nat) : Int), .int .i64 x1.pc, .slice pA1 x1.wr.length pc1, .slice pA2 x1.lv.length pc2, .int .i64 x1.t.1, .int .i64 x1.t.2.1, .bool x1.t.2.2, .int .i64 x1.pd, .int .i64 x1.x.1, .int .i64 x1.x.2.1, .bool x1.x.2.2.1, .int .i64 x1.x.2.2.2, .bool x1.hl, .slice pA3 x1.seen.length pc3] (Sx.hole wG b off lo hi (mkAll wG k (xs.take i)) (xs.drop (i + 1)) [.slice pA0 x1.prog.length pc0, .int .i64 ((q2 : Nat) : Int), .int .i64 x1.pc, .slice pA1 x1.wr.length pc1, .slice pA2 x1.lv.length pc2, .int .i64 x1.t.1, .int .i64 x1.t.2.1, .bool x1.t.2.2, .int .i64 x1.pd, .int .i64 x1.x.1, .int .i64 x1.x.2.1, .bool x1.x.2.2.1, .int .i64 x1.x.2.2.2, .bool x1.hl, .slice pA3 x1.seen.length pc3] F1 F2 :: ow (rLsw (rPair rInt rInt)) lo hi (mkAll (rPair rInt rInt) q x1.prog) [.slice pA0 x1.prog.length pc0] pF0 :: ow (rLsw (rPair rInt rInt)) lo hi x1.wr [.slice pA1 x1.wr.length pc1] pF1 :: ow (rLsw (rPair rInt rInt)) lo hi x1.lv [.slice pA2 x1.lv.length pc2] pF2 :: ow (rLsw rInt) lo hi x1.seen [.slice pA3 x1.seen.length pc3] pF3 :: R) rfl (by kernel_rfl) (by kernel_rfl) (by kernel_rfl) rfl (by rw [Kit.mk_len, List.length_take]; omega) rfl rfl rfl rfl (by kernel_rfl) (by kernel_rfl) (by kernel_rfl) ?_
    refine Sx.G.nil (Sx.E.next (Sx.C.seq (Sx.C.region ?_)))
    refine Sx.G.p (.int .i64 ((q2 : Nat) : Int)) ?_
    refine Sx.G.q (.int .i64 (IntKind.i64.wrap (((q2 : Nat) : Int) + 1))) (.int .i64 ((q2 + 1 : Nat) : Int)) (congrArg (Value.int .i64) (Sx.wrap_up q2 (by omega))) ?_
    refine Sx.G.p (.int .i64 ((q2 + 1 : Nat) : Int)) ?_
    refine Sx.G.nil (Sx.E.next (Sx.C.seq (Sx.C.region ?_)))
    refine Sx.G.p (.slice (some ⟨b, off, none⟩) xs.length c) ?_
    refine Sx.G.p (.int .i64 (i : Int)) ?_
    refine Sx.G.p (.int .i64 ((q2 + 1 : Nat) : Int)) ?_
    refine Sx.G.elem 29 52 (.tmp 26) (.tmp 27) 15 184 b off xs.length c i rfl (by kernel_rfl) (by kernel_rfl) (by kernel_rfl) (by kernel_rfl) (by omega) ?_
    refine Sx.G.p (.pointer (some ⟨b, (off + i * 15) + 2, none⟩)) ?_
    refine Sx.G.hsto (k := i) (size := 15) 3 (.tmp 30) (.tmp 28) b ((off + i * 15) + 2) 2 0 [.int .i64 ((q2 + 1 : Nat) : Int)] [.slice pA0 x1.prog.length pc0, .int .i64 ((q2 : Nat) : Int), .int .i64 ((q2 + 1 : Nat) : Int), .slice pA1 x1.wr.length pc1, .slice pA2 x1.lv.length pc2, .int .i64 x1.t.1, .int .i64 x1.t.2.1, .bool x1.t.2.2, .int .i64 x1.pd, .int .i64 x1.x.1, .int .i64 x1.x.2.1, .bool x1.x.2.2.1, .int .i64 x1.x.2.2.2, .bool x1.hl, .slice pA3 x1.seen.length pc3] (Sx.hole wG b off lo hi (mkAll wG k (xs.take i)) (xs.drop (i + 1)) [.slice pA0 x1.prog.length pc0, .int .i64 ((q2 : Nat) : Int), .int .i64 ((q2 + 1 : Nat) : Int), .slice pA1 x1.wr.length pc1, .slice pA2 x1.lv.length pc2, .int .i64 x1.t.1, .int .i64 x1.t.2.1, .bool x1.t.2.2, .int .i64 x1.pd, .int .i64 x1.x.1, .int .i64 x1.x.2.1, .bool x1.x.2.2.1, .int .i64 x1.x.2.2.2, .bool x1.hl, .slice pA3 x1.seen.length pc3] F1 F2 :: ow (rLsw (rPair rInt rInt)) lo hi (mkAll (rPair rInt rInt) q x1.prog) [.slice pA0 x1.prog.length pc0] pF0 :: ow (rLsw (rPair rInt rInt)) lo hi x1.wr [.slice pA1 x1.wr.length pc1] pF1 :: ow (rLsw (rPair rInt rInt)) lo hi x1.lv [.slice pA2 x1.lv.length pc2] pF2 :: ow (rLsw rInt) lo hi x1.seen [.slice pA3 x1.seen.length pc3] pF3 :: R) rfl (by kernel_rfl) (by kernel_rfl) (by kernel_rfl) rfl (by rw [Kit.mk_len, List.length_take]; omega) rfl rfl rfl rfl (by kernel_rfl) (by kernel_rfl) (by kernel_rfl) ?_
    refine Sx.G.nil (Sx.E.next (Sx.C.seq (Sx.C.region ?_)))
    refine Sx.G.p (.int .i64 ((q2 + 1 : Nat) : Int)) ?_
    refine Sx.G.q (.int .i64 (IntKind.i64.wrap (((q2 + 1 : Nat) : Int) + 1))) (.int .i64 ((q2 + 2 : Nat) : Int)) (congrArg (Value.int .i64) (Sx.wrap_up (q2 + 1) (by omega))) ?_
    refine Sx.G.p (.int .i64 ((q2 + 2 : Nat) : Int)) ?_
    refine Sx.G.nil (Sx.E.next (Sx.C.seq (Sx.C.region ?_)))
    refine Sx.G.p (.slice (some ⟨b, off, none⟩) xs.length c) ?_
    refine Sx.G.p (.int .i64 (i : Int)) ?_
    refine Sx.G.elem 29 52 (.tmp 33) (.tmp 34) 15 184 b off xs.length c i rfl (by kernel_rfl) (by kernel_rfl) (by kernel_rfl) (by kernel_rfl) (by omega) ?_
    refine Sx.G.p (.pointer (some ⟨b, (off + i * 15) + 3, none⟩)) ?_
    refine Sx.G.hld1 (k := i) (size := 15) 48 (.tmp 36) b ((off + i * 15) + 3) 3 0 (.slice pA1 x1.wr.length pc1) rfl (by kernel_rfl) (by kernel_rfl) rfl (by rw [Kit.mk_len, List.length_take]; omega) rfl rfl rfl (by kernel_rfl) ?_
    refine Sx.G.p (.int .i64 ((q2 + 2 : Nat) : Int)) ?_
    obtain ⟨q3, hq3⟩ : ∃ q', q' = (q2 + 2) + cntAll (rPair rInt rInt) x1.wr := ⟨_, rfl⟩
    refine Sx.G.c 40 #[.slice pA1 x1.wr.length pc1, .int .i64 ((q2 + 2 : Nat) : Int)] (fun w3 S => (Kit.kmk_SlotS x1.wr pA1 pc1 (q2 + 2) _ hcap3 (by omega) S 2 rfl).mono fun e w3' hp => ?_)
    rw [← hq3] at hp
    obtain ⟨rfl, S'⟩ := hp
    refine ⟨_, _, rfl, S', ?_⟩
    clear S S'
    refine Sx.G.p (.int .i64 ((q3 : Nat) : Int)) ?_
    refine Sx.G.nil (Sx.E.next (Sx.C.seq (Sx.C.region ?_)))
    refine Sx.G.p (.slice (some ⟨b, off, none⟩) xs.length c) ?_
    refine Sx.G.p (.int .i64 (i : Int)) ?_
    refine Sx.G.elem 29 52 (.tmp 40) (.tmp 41) 15 184 b off xs.length c i rfl (by kernel_rfl) (by kernel_rfl) (by kernel_rfl) (by kernel_rfl) (by omega) ?_
    refine Sx.G.p (.pointer (some ⟨b, (off + i * 15) + 4, none⟩)) ?_
    refine Sx.G.hld1 (k := i) (size := 15) 48 (.tmp 43) b ((off + i * 15) + 4) 4 0 (.slice pA2 x1.lv.length pc2) rfl (by kernel_rfl) (by kernel_rfl) rfl (by rw [Kit.mk_len, List.length_take]; omega) rfl rfl rfl (by kernel_rfl) ?_
    refine Sx.G.p (.int .i64 ((q3 : Nat) : Int)) ?_
    obtain ⟨q4, hq4⟩ : ∃ q', q' = q3 + cntAll (rPair rInt rInt) x1.lv := ⟨_, rfl⟩
    refine Sx.G.c 40 #[.slice pA2 x1.lv.length pc2, .int .i64 ((q3 : Nat) : Int)] (fun w4 S => (Kit.kmk_SlotS x1.lv pA2 pc2 q3 _ hcap4 (by omega) S 3 rfl).mono fun e w4' hp => ?_)
    rw [← hq4] at hp
    obtain ⟨rfl, S'⟩ := hp
    refine ⟨_, _, rfl, S', ?_⟩
    clear S S'
    refine Sx.G.p (.int .i64 ((q4 : Nat) : Int)) ?_
    refine Sx.G.nil (Sx.E.next (Sx.C.seq (Sx.C.region ?_)))
    refine Sx.G.p (.slice (some ⟨b, off, none⟩) xs.length c) ?_
    refine Sx.G.p (.int .i64 (i : Int)) ?_
    refine Sx.G.p (.int .i64 ((q4 : Nat) : Int)) ?_
    refine Sx.G.elem 29 52 (.tmp 47) (.tmp 48) 15 184 b off xs.length c i rfl (by kernel_rfl) (by kernel_rfl) (by kernel_rfl) (by kernel_rfl) (by omega) ?_
    refine Sx.G.p (.pointer (some ⟨b, (off + i * 15) + 5, none⟩)) ?_
    refine Sx.G.p (.pointer (some ⟨b, (off + i * 15) + 5, none⟩)) ?_
    refine Sx.G.hsto (k := i) (size := 15) 3 (.tmp 52) (.tmp 49) b ((off + i * 15) + 5) 5 0 [.int .i64 ((q4 : Nat) : Int)] [.slice pA0 x1.prog.length pc0, .int .i64 ((q2 : Nat) : Int), .int .i64 ((q2 + 1 : Nat) : Int), .slice pA1 x1.wr.length pc1, .slice pA2 x1.lv.length pc2, .int .i64 ((q4 : Nat) : Int), .int .i64 x1.t.2.1, .bool x1.t.2.2, .int .i64 x1.pd, .int .i64 x1.x.1, .int .i64 x1.x.2.1, .bool x1.x.2.2.1, .int .i64 x1.x.2.2.2, .bool x1.hl, .slice pA3 x1.seen.length pc3] (Sx.hole wG b off lo hi (mkAll wG k (xs.take i)) (xs.drop (i + 1)) [.slice pA0 x1.prog.length pc0, .int .i64 ((q2 : Nat) : Int), .int .i64 ((q2 + 1 : Nat) : Int), .slice pA1 x1.wr.length pc1, .slice pA2 x1.lv.length pc2, .int .i64 ((q4 : Nat) : Int), .int .i64 x1.t.2.1, .bool x1.t.2.2, .int .i64 x1.pd, .int .i64 x1.x.1, .int .i64 x1.x.2.1, .bool x1.x.2.2.1, .int .i64 x1.x.2.2.2, .bool x1.hl, .slice pA3 x1.seen.length pc3] F1 F2 :: ow (rLsw (rPair rInt rInt)) lo hi (mkAll (rPair rInt rInt) q x1.prog) [.slice pA0 x1.prog.length pc0] pF0 :: ow (rLsw (rPair rInt rInt)) lo hi (mkAll (rPair rInt rInt) (q2 + 2) x1.wr) [.slice pA1 x1.wr.length pc1] pF1 :: ow (rLsw (rPair rInt rInt)) lo hi (mkAll (rPair rInt rInt) q3 x1.lv) [.slice pA2 x1.lv.length pc2] pF2 :: ow (rLsw rInt) lo hi x1.seen [.slice pA3 x1.seen.length pc3] pF3 :: R) rfl (by kernel_rfl) (by kernel_rfl) (by kernel_rfl) rfl (by rw [Kit.mk_len, List.length_take]; omega) rfl rfl rfl rfl (by kernel_rfl) (by kernel_rfl) (by kernel_rfl) ?_
    refine Sx.G.nil (Sx.E.next (Sx.C.seq (Sx.C.region ?_)))
    refine Sx.G.p (.int .i64 ((q4 : Nat) : Int)) ?_
    refine Sx.G.q (.int .i64 (IntKind.i64.wrap (((q4 : Nat) : Int) + 1))) (.int .i64 ((q4 + 1 : Nat) : Int)) (congrArg (Value.int .i64) (Sx.wrap_up q4 (by omega))) ?_
    refine Sx.G.p (.int .i64 ((q4 + 1 : Nat) : Int)) ?_
    refine Sx.G.nil (Sx.E.next (Sx.C.seq (Sx.C.region ?_)))
    refine Sx.G.p (.slice (some ⟨b, off, none⟩) xs.length c) ?_
    refine Sx.G.p (.int .i64 (i : Int)) ?_
    refine Sx.G.p (.int .i64 ((q4 + 1 : Nat) : Int)) ?_
    refine Sx.G.elem 29 52 (.tmp 55) (.tmp 56) 15 184 b off xs.length c i rfl (by kernel_rfl) (by kernel_rfl) (by kernel_rfl) (by kernel_rfl) (by omega) ?_
    refine Sx.G.p (.pointer (some ⟨b, (off + i * 15) + 5, none⟩)) ?_
    refine Sx.G.p (.pointer (some ⟨b, (off + i * 15) + 6, none⟩)) ?_
    refine Sx.G.hsto (k := i) (size := 15) 3 (.tmp 60) (.tmp 57) b ((off + i * 15) + 6) 6 0 [.int .i64 ((q4 + 1 : Nat) : Int)] [.slice pA0 x1.prog.length pc0, .int .i64 ((q2 : Nat) : Int), .int .i64 ((q2 + 1 : Nat) : Int), .slice pA1 x1.wr.length pc1, .slice pA2 x1.lv.length pc2, .int .i64 ((q4 : Nat) : Int), .int .i64 ((q4 + 1 : Nat) : Int), .bool x1.t.2.2, .int .i64 x1.pd, .int .i64 x1.x.1, .int .i64 x1.x.2.1, .bool x1.x.2.2.1, .int .i64 x1.x.2.2.2, .bool x1.hl, .slice pA3 x1.seen.length pc3] (Sx.hole wG b off lo hi (mkAll wG k (xs.take i)) (xs.drop (i + 1)) [.slice pA0 x1.prog.length pc0, .int .i64 ((q2 : Nat) : Int), .int .i64 ((q2 + 1 : Nat) : Int), .slice pA1 x1.wr.length pc1, .slice pA2 x1.lv.length pc2, .int .i64 ((q4 : Nat) : Int), .int .i64 ((q4 + 1 : Nat) : Int), .bool x1.t.2.2, .int .i64 x1.pd, .int .i64 x1.x.1, .int .i64 x1.x.2.1, .bool x1.x.2.2.1, .int .i64 x1.x.2.2.2, .bool x1.hl, .slice pA3 x1.seen.length pc3] F1 F2 :: ow (rLsw (rPair rInt rInt)) lo hi (mkAll (rPair rInt rInt) q x1.prog) [.slice pA0 x1.prog.length pc0] pF0 :: ow (rLsw (rPair rInt rInt)) lo hi (mkAll (rPair rInt rInt) (q2 + 2) x1.wr) [.slice pA1 x1.wr.length pc1] pF1 :: ow (rLsw (rPair rInt rInt)) lo hi (mkAll (rPair rInt rInt) q3 x1.lv) [.slice pA2 x1.lv.length pc2] pF2 :: ow (rLsw rInt) lo hi x1.seen [.slice pA3 x1.seen.length pc3] pF3 :: R) rfl (by kernel_rfl) (by kernel_rfl) (by kernel_rfl) rfl (by rw [Kit.mk_len, List.length_take]; omega) rfl rfl rfl rfl (by kernel_rfl) (by kernel_rfl) (by kernel_rfl) ?_
    refine Sx.G.nil (Sx.E.next (Sx.C.seq (Sx.C.region ?_)))
    refine Sx.G.p (.int .i64 ((q4 + 1 : Nat) : Int)) ?_
    refine Sx.G.q (.int .i64 (IntKind.i64.wrap (((q4 + 1 : Nat) : Int) + 1))) (.int .i64 ((q4 + 2 : Nat) : Int)) (congrArg (Value.int .i64) (Sx.wrap_up (q4 + 1) (by omega))) ?_
    refine Sx.G.p (.int .i64 ((q4 + 2 : Nat) : Int)) ?_
    refine Sx.G.nil (Sx.E.next (Sx.C.seq (Sx.C.region ?_)))
    refine Sx.G.p (.slice (some ⟨b, off, none⟩) xs.length c) ?_
    refine Sx.G.p (.int .i64 (i : Int)) ?_
    refine Sx.G.p (.int .i64 ((q4 + 2 : Nat) : Int)) ?_
    refine Sx.G.p (.int .i64 (((q4 + 2 : Nat) : Int).tmod 3)) ?_
    refine Sx.G.q (.bool ((((q4 + 2 : Nat) : Int).tmod 3) == 0)) (.bool ((q4 + 2) % 3 == 0)) (congrArg Value.bool (Kit.tmod3 (q4 + 2))) ?_
    refine Sx.G.elem 29 52 (.tmp 63) (.tmp 64) 15 184 b off xs.length c i rfl (by kernel_rfl) (by kernel_rfl) (by kernel_rfl) (by kernel_rfl) (by omega) ?_
    refine Sx.G.p (.pointer (some ⟨b, (off + i * 15) + 5, none⟩)) ?_
    refine Sx.G.p (.pointer (some ⟨b, (off + i * 15) + 7, none⟩)) ?_
    refine Sx.G.hsto (k := i) (size := 15) 4 (.tmp 70) (.tmp 67) b ((off + i * 15) + 7) 7 0 [.bool ((q4 + 2) % 3 == 0)] [.slice pA0 x1.prog.length pc0, .int .i64 ((q2 : Nat) : Int), .int .i64 ((q2 + 1 : Nat) : Int), .slice pA1 x1.wr.length pc1, .slice pA2 x1.lv.length pc2, .int .i64 ((q4 : Nat) : Int), .int .i64 ((q4 + 1 : Nat) : Int), .bool ((q4 + 2) % 3 == 0), .int .i64 x1.pd, .int .i64 x1.x.1, .int .i64 x1.x.2.1, .bool x1.x.2.2.1, .int .i64 x1.x.2.2.2, .bool x1.hl, .slice pA3 x1.seen.length pc3] (Sx.hole wG b off lo hi (mkAll wG k (xs.take i)) (xs.drop (i + 1)) [.slice pA0 x1.prog.length pc0, .int .i64 ((q2 : Nat) : Int), .int .i64 ((q2 + 1 : Nat) : Int), .slice pA1 x1.wr.length pc1, .slice pA2 x1.lv.length pc2, .int .i64 ((q4 : Nat) : Int), .int .i64 ((q4 + 1 : Nat) : Int), .bool ((q4 + 2) % 3 == 0), .int .i64 x1.pd, .int .i64 x1.x.1, .int .i64 x1.x.2.1, .bool x1.x.2.2.1, .int .i64 x1.x.2.2.2, .bool x1.hl, .slice pA3 x1.seen.length pc3] F1 F2 :: ow (rLsw (rPair rInt rInt)) lo hi (mkAll (rPair rInt rInt) q x1.prog) [.slice pA0 x1.prog.length pc0] pF0 :: ow (rLsw (rPair rInt rInt)) lo hi (mkAll (rPair rInt rInt) (q2 + 2) x1.wr) [.slice pA1 x1.wr.length pc1] pF1 :: ow (rLsw (rPair rInt rInt)) lo hi (mkAll (rPair rInt rInt) q3 x1.lv) [.slice pA2 x1.lv.length pc2] pF2 :: ow (rLsw rInt) lo hi x1.seen [.slice pA3 x1.seen.length pc3] pF3 :: R) rfl (by kernel_rfl) (by kernel_rfl) (by kernel_rfl) rfl (by rw [Kit.mk_len, List.length_take]; omega) rfl rfl rfl rfl (by kernel_rfl) (by kernel_rfl) (by kernel_rfl) ?_
    refine Sx.G.nil (Sx.E.next (Sx.C.seq (Sx.C.region ?_)))
    refine Sx.G.p (.int .i64 ((q4 + 2 : Nat) : Int)) ?_
    refine Sx.G.q (.int .i64 (IntKind.i64.wrap (((q4 + 2 : Nat) : Int) + 1))) (.int .i64 ((q4 + 3 : Nat) : Int)) (congrArg (Value.int .i64) (Sx.wrap_up (q4 + 2) (by omega))) ?_
    refine Sx.G.p (.int .i64 ((q4 + 3 : Nat) : Int)) ?_
    refine Sx.G.nil (Sx.E.next (Sx.C.seq (Sx.C.region ?_)))
    refine Sx.G.p (.slice (some ⟨b, off, none⟩) xs.length c) ?_
    refine Sx.G.p (.int .i64 (i : Int)) ?_
    refine Sx.G.p (.int .i64 ((q4 + 3 : Nat) : Int)) ?_
    refine Sx.G.elem 29 52 (.tmp 73) (.tmp 74) 15 184 b off xs.length c i rfl (by kernel_rfl) (by kernel_rfl) (by kernel_rfl) (by kernel_rfl) (by omega) ?_
    refine Sx.G.p (.pointer (some ⟨b, (off + i * 15) + 8, none⟩)) ?_
    refine Sx.G.hsto (k := i) (size := 15) 3 (.tmp 77) (.tmp 75) b ((off + i * 15) + 8) 8 0 [.int .i64 ((q4 + 3 : Nat) : Int)] [.slice pA0 x1.prog.length pc0, .int .i64 ((q2 : Nat) : Int), .int .i64 ((q2 + 1 : Nat) : Int), .slice pA1 x1.wr.length pc1, .slice pA2 x1.lv.length pc2, .int .i64 ((q4 : Nat) : Int), .int .i64 ((q4 + 1 : Nat) : Int), .bool ((q4 + 2) % 3 == 0), .int .i64 ((q4 + 3 : Nat) : Int), .int .i64 x1.x.1, .int .i64 x1.x.2.1, .bool x1.x.2.2.1, .int .i64 x1.x.2.2.2, .bool x1.hl, .slice pA3 x1.seen.length pc3] (Sx.hole wG b off lo hi (mkAll wG k (xs.take i)) (xs.drop (i + 1)) [.slice pA0 x1.prog.length pc0, .int .i64 ((q2 : Nat) : Int), .int .i64 ((q2 + 1 : Nat) : Int), .slice pA1 x1.wr.length pc1, .slice pA2 x1.lv.length pc2, .int .i64 ((q4 : Nat) : Int), .int .i64 ((q4 + 1 : Nat) : Int), .bool ((q4 + 2) % 3 == 0), .int .i64 ((q4 + 3 : Nat) : Int), .int .i64 x1.x.1, .int .i64 x1.x.2.1, .bool x1.x.2.2.1, .int .i64 x1.x.2.2.2, .bool x1.hl, .slice pA3 x1.seen.length pc3] F1 F2 :: ow (rLsw (rPair rInt rInt)) lo hi (mkAll (rPair rInt rInt) q x1.prog) [.slice pA0 x1.prog.length pc0] pF0 :: ow (rLsw (rPair rInt rInt)) lo hi (mkAll (rPair rInt rInt) (q2 + 2) x1.wr) [.slice pA1 x1.wr.length pc1] pF1 :: ow (rLsw (rPair rInt rInt)) lo hi (mkAll (rPair rInt rInt) q3 x1.lv) [.slice pA2 x1.lv.length pc2] pF2 :: ow (rLsw rInt) lo hi x1.seen [.slice pA3 x1.seen.length pc3] pF3 :: R) rfl (by kernel_rfl) (by kernel_rfl) (by kernel_rfl) rfl (by rw [Kit.mk_len, List.length_take]; omega) rfl rfl rfl rfl (by kernel_rfl) (by kernel_rfl) (by kernel_rfl) ?_
    refine Sx.G.nil (Sx.E.next (Sx.C.seq (Sx.C.region ?_)))
    refine Sx.G.p (.int .i64 ((q4 + 3 : Nat) : Int)) ?_
    refine Sx.G.q (.int .i64 (IntKind.i64.wrap (((q4 + 3 : Nat) : Int) + 1))) (.int .i64 ((q4 + 4 : Nat) : Int)) (congrArg (Value.int .i64) (Sx.wrap_up (q4 + 3) (by omega))) ?_
    refine Sx.G.p (.int .i64 ((q4 + 4 : Nat) : Int)) ?_
    refine Sx.G.nil (Sx.E.next (Sx.C.seq (Sx.C.region ?_)))
    refine Sx.G.p (.slice (some ⟨b, off, none⟩) xs.length c) ?_
    refine Sx.G.p (.int .i64 (i : Int)) ?_
    refine Sx.G.p (.int .i64 ((q4 + 4 : Nat) : Int)) ?_
    refine Sx.G.elem 29 52 (.tmp 80) (.tmp 81) 15 184 b off xs.length c i rfl (by kernel_rfl) (by kernel_rfl) (by kernel_rfl) (by kernel_rfl) (by omega) ?_
    refine Sx.G.p (.pointer (some ⟨b, (off + i * 15) + 9, none⟩)) ?_
    refine Sx.G.p (.pointer (some ⟨b, (off + i * 15) + 9, none⟩)) ?_
    refine Sx.G.hsto (k := i) (size := 15) 3 (.tmp 85) (.tmp 82) b ((off + i * 15) + 9) 9 0 [.int .i64 ((q4 + 4 : Nat) : Int)] [.slice pA0 x1.prog.length pc0, .int .i64 ((q2 : Nat) : Int), .int .i64 ((q2 + 1 : Nat) : Int), .slice pA1 x1.wr.length pc1, .slice pA2 x1.lv.length pc2, .int .i64 ((q4 : Nat) : Int), .int .i64 ((q4 + 1 : Nat) : Int), .bool ((q4 + 2) % 3 == 0), .int .i64 ((q4 + 3 : Nat) : Int), .int .i64 ((q4 + 4 : Nat) : Int), .int .i64 x1.x.2.1, .bool x1.x.2.2.1, .int .i64 x1.x.2.2.2, .bool x1.hl, .slice pA3 x1.seen.length pc3] (Sx.hole wG b off lo hi (mkAll wG k (xs.take i)) (xs.drop (i + 1)) [.slice pA0 x1.prog.length pc0, .int .i64 ((q2 : Nat) : Int), .int .i64 ((q2 + 1 : Nat) : Int), .slice pA1 x1.wr.length pc1, .slice pA2 x1.lv.length pc2, .int .i64 ((q4 : Nat) : Int), .int .i64 ((q4 + 1 : Nat) : Int), .bool ((q4 + 2) % 3 == 0), .int .i64 ((q4 + 3 : Nat) : Int), .int .i64 ((q4 + 4 : Nat) : Int), .int .i64 x1.x.2.1, .bool x1.x.2.2.1, .int .i64 x1.x.2.2.2, .bool x1.hl, .slice pA3 x1.seen.length pc3] F1 F2 :: ow (rLsw (rPair rInt rInt)) lo hi (mkAll (rPair rInt rInt) q x1.prog) [.slice pA0 x1.prog.length pc0] pF0 :: ow (rLsw (rPair rInt rInt)) lo hi (mkAll (rPair rInt rInt) (q2 + 2) x1.wr) [.slice pA1 x1.wr.length pc1] pF1 :: ow (rLsw (rPair rInt rInt)) lo hi (mkAll (rPair rInt rInt) q3 x1.lv) [.slice pA2 x1.lv.length pc2] pF2 :: ow (rLsw rInt) lo hi x1.seen [.slice pA3 x1.seen.length pc3] pF3 :: R) rfl (by kernel_rfl) (by kernel_rfl) (by kernel_rfl) rfl (by rw [Kit.mk_len, List.length_take]; omega) rfl rfl rfl rfl (by kernel_rfl) (by kernel_rfl) (by kernel_rfl) ?_
    refine Sx.G.nil (Sx.E.next (Sx.C.seq (Sx.C.region ?_)))
    refine Sx.G.p (.int .i64 ((q4 + 4 : Nat) : Int)) ?_
    refine Sx.G.q (.int .i64 (IntKind.i64.wrap (((q4 + 4 : Nat) : Int) + 1))) (.int .i64 ((q4 + 5 : Nat) : Int)) (congrArg (Value.int .i64) (Sx.wrap_up (q4 + 4) (by omega))) ?_
    refine Sx.G.p (.int .i64 ((q4 + 5 : Nat) : Int)) ?_
    refine Sx.G.nil (Sx.E.next (Sx.C.seq (Sx.C.region ?_)))
    refine Sx.G.p (.slice (some ⟨b, off, none⟩) xs.length c) ?_
    refine Sx.G.p (.int .i64 (i : Int)) ?_
    refine Sx.G.p (.int .i64 ((q4 + 5 : Nat) : Int)) ?_
    refine Sx.G.elem 29 52 (.tmp 88) (.tmp 89) 15 184 b off xs.length c i rfl (by kernel_rfl) (by kernel_rfl) (by kernel_rfl) (by kernel_rfl) (by omega) ?_
    refine Sx.G.p (.pointer (some ⟨b, (off + i * 15) + 9, none⟩)) ?_
    refine Sx.G.p (.pointer (some ⟨b, (off + i * 15) + 10, none⟩)) ?_
    refine Sx.G.hsto (k := i) (size := 15) 3 (.tmp 93) (.tmp 90) b ((off + i * 15) + 10) 10 0 [.int .i64 ((q4 + 5 : Nat) : Int)] [.slice pA0 x1.prog.length pc0, .int .i64 ((q2 : Nat) : Int), .int .i64 ((q2 + 1 : Nat) : Int), .slice pA1 x1.wr.length pc1, .slice pA2 x1.lv.length pc2, .int .i64 ((q4 : Nat) : Int), .int .i64 ((q4 + 1 : Nat) : Int), .bool ((q4 + 2) % 3 == 0), .int .i64 ((q4 + 3 : Nat) : Int), .int .i64 ((q4 + 4 : Nat) : Int), .int .i64 ((q4 + 5 : Nat) : Int), .bool x1.x.2.2.1, .int .i64 x1.x.2.2.2, .bool x1.hl, .slice pA3 x1.seen.length pc3] (Sx.hole wG b off lo hi (mkAll wG k (xs.take i)) (xs.drop (i + 1)) [.slice pA0 x1.prog.length pc0, .int .i64 ((q2 : Nat) : Int), .int .i64 ((q2 + 1 : Nat) : Int), .slice pA1 x1.wr.length pc1, .slice pA2 x1.lv.length pc2, .int .i64 ((q4 : Nat) : Int), .int .i64 ((q4 + 1 : Nat) : Int), .bool ((q4 + 2) % 3 == 0), .int .i64 ((q4 + 3 : Nat) : Int), .int .i64 ((q4 + 4 : Nat) : Int), .int .i64 ((q4 + 5 : Nat) : Int), .bool x1.x.2.2.1, .int .i64 x1.x.2.2.2, .bool x1.hl, .slice pA3 x1.seen.length pc3] F1 F2 :: ow (rLsw (rPair rInt rInt)) lo hi (mkAll (rPair rInt rInt) q x1.prog) [.slice pA0 x1.prog.length pc0] pF0 :: ow (rLsw (rPair rInt rInt)) lo hi (mkAll (rPair rInt rInt) (q2 + 2) x1.wr) [.slice pA1 x1.wr.length pc1] pF1 :: ow (rLsw (rPair rInt rInt)) lo hi (mkAll (rPair rInt rInt) q3 x1.lv) [.slice pA2 x1.lv.length pc2] pF2 :: ow (rLsw rInt) lo hi x1.seen [.slice pA3 x1.seen.length pc3] pF3 :: R) rfl (by kernel_rfl) (by kernel_rfl) (by kernel_rfl) rfl (by rw [Kit.mk_len, List.length_take]; omega) rfl rfl rfl rfl (by kernel_rfl) (by kernel_rfl) (by kernel_rfl) ?_
    refine Sx.G.nil (Sx.E.next (Sx.C.seq (Sx.C.region ?_)))
    refine Sx.G.p (.int .i64 ((q4 + 5 : Nat) : Int)) ?_
    refine Sx.G.q (.int .i64 (IntKind.i64.wrap (((q4 + 5 : Nat) : Int) + 1))) (.int .i64 ((q4 + 6 : Nat) : Int)) (congrArg (Value.int .i64) (Sx.wrap_up (q4 + 5) (by omega))) ?_
    refine Sx.G.p (.int .i64 ((q4 + 6 : Nat) : Int)) ?_
    refine Sx.G.nil (Sx.E.next (Sx.C.seq (Sx.C.region ?_)))
    refine Sx.G.p (.slice (some ⟨b, off, none⟩) xs.length c) ?_
    refine Sx.G.p (.int .i64 (i : Int)) ?_
    refine Sx.G.p (.int .i64 ((q4 + 6 : Nat) : Int)) ?_
    refine Sx.G.p (.int .i64 (((q4 + 6 : Nat) : Int).tmod 3)) ?_
    refine Sx.G.q (.bool ((((q4 + 6 : Nat) : Int).tmod 3) == 0)) (.bool ((q4 + 6) % 3 == 0)) (congrArg Value.bool (Kit.tmod3 (q4 + 6))) ?_
    refine Sx.G.elem 29 52 (.tmp 96) (.tmp 97) 15 184 b off xs.length c i rfl (by kernel_rfl) (by kernel_rfl) (by kernel_rfl) (by kernel_rfl) (by omega) ?_
    refine Sx.G.p (.pointer (some ⟨b, (off + i * 15) + 9, none⟩)) ?_
    refine Sx.G.p (.pointer (some ⟨b, (off + i * 15) + 11, none⟩)) ?_
    refine Sx.G.hsto (k := i) (size := 15) 4 (.tmp 103) (.tmp 100) b ((off + i * 15) + 11) 11 0 [.bool ((q4 + 6) % 3 == 0)] [.slice pA0 x1.prog.length pc0, .int .i64 ((q2 : Nat) : Int), .int .i64 ((q2 + 1 : Nat) : Int), .slice pA1 x1.wr.length pc1, .slice pA2 x1.lv.length pc2, .int .i64 ((q4 : Nat) : Int), .int .i64 ((q4 + 1 : Nat) : Int), .bool ((q4 + 2) % 3 == 0), .int .i64 ((q4 + 3 : Nat) : Int), .int .i64 ((q4 + 4 : Nat) : Int), .int .i64 ((q4 + 5 : Nat) : Int), .bool ((q4 + 6) % 3 == 0), .int .i64 x1.x.2.2.2, .bool x1.hl, .slice pA3 x1.seen.length pc3] (Sx.hole wG b off lo hi (mkAll wG k (xs.take i)) (xs.drop (i + 1)) [.slice pA0 x1.prog.length pc0, .int .i64 ((q2 : Nat) : Int), .int .i64 ((q2 + 1 : Nat) : Int), .slice pA1 x1.wr.length pc1, .slice pA2 x1.lv.length pc2, .int .i64 ((q4 : Nat) : Int), .int .i64 ((q4 + 1 : Nat) : Int), .bool ((q4 + 2) % 3 == 0), .int .i64 ((q4 + 3 : Nat) : Int), .int .i64 ((q4 + 4 : Nat) : Int), .int .i64 ((q4 + 5 : Nat) : Int), .bool ((q4 + 6) % 3 == 0), .int .i64 x1.x.2.2.2, .bool x1.hl, .slice pA3 x1.seen.length pc3] F1 F2 :: ow (rLsw (rPair rInt rInt)) lo hi (mkAll (rPair rInt rInt) q x1.prog) [.slice pA0 x1.prog.length pc0] pF0 :: ow (rLsw (rPair rInt rInt)) lo hi (mkAll (rPair rInt rInt) (q2 + 2) x1.wr) [.slice pA1 x1.wr.length pc1] pF1 :: ow (rLsw (rPair rInt rInt)) lo hi (mkAll (rPair rInt rInt) q3 x1.lv) [.slice pA2 x1.lv.length pc2] pF2 :: ow (rLsw rInt) lo hi x1.seen [.slice pA3 x1.seen.length pc3] pF3 :: R) rfl (by kernel_rfl) (by kernel_rfl) (by kernel_rfl) rfl (by rw [Kit.mk_len, List.length_take]; omega) rfl rfl rfl rfl (by kernel_rfl) (by kernel_rfl) (by kernel_rfl) ?_
    refine Sx.G.nil (Sx.E.next (Sx.C.seq (Sx.C.region ?_)))
    refine Sx.G.p (.int .i64 ((q4 + 6 : Nat) : Int)) ?_
    refine Sx.G.q (.int .i64 (IntKind.i64.wrap (((q4 + 6 : Nat) : Int) + 1))) (.int .i64 ((q4 + 7 : Nat) : Int)) (congrArg (Value.int .i64) (Sx.wrap_up (q4 + 6) (by omega))) ?_
    refine Sx.G.p (.int .i64 ((q4 + 7 : Nat) : Int)) ?_
    refine Sx.G.nil (Sx.E.next (Sx.C.seq (Sx.C.region ?_)))
    refine Sx.G.p (.slice (some ⟨b, off, none⟩) xs.length c) ?_
    refine Sx.G.p (.int .i64 (i : Int)) ?_
    refine Sx.G.p (.int .i64 ((q4 + 7 : Nat) : Int)) ?_
    refine Sx.G.elem 29 52 (.tmp 106) (.tmp 107) 15 184 b off xs.length c i rfl (by kernel_rfl) (by kernel_rfl) (by kernel_rfl) (by kernel_rfl) (by omega) ?_
    refine Sx.G.p (.pointer (some ⟨b, (off + i * 15) + 9, none⟩)) ?_
    refine Sx.G.p (.pointer (some ⟨b, (off + i * 15) + 12, none⟩)) ?_
    refine Sx.G.hsto (k := i) (size := 15) 3 (.tmp 111) (.tmp 108) b ((off + i * 15) + 12) 12 0 [.int .i64 ((q4 + 7 : Nat) : Int)] [.slice pA0 x1.prog.length pc0, .int .i64 ((q2 : Nat) : Int), .int .i64 ((q2 + 1 : Nat) : Int), .slice pA1 x1.wr.length pc1, .slice pA2 x1.lv.length pc2, .int .i64 ((q4 : Nat) : Int), .int .i64 ((q4 + 1 : Nat) : Int), .bool ((q4 + 2) % 3 == 0), .int .i64 ((q4 + 3 : Nat) : Int), .int .i64 ((q4 + 4 : Nat) : Int), .int .i64 ((q4 + 5 : Nat) : Int), .bool ((q4 + 6) % 3 == 0), .int .i64 ((q4 + 7 : Nat) : Int), .bool x1.hl, .slice pA3 x1.seen.length pc3] (Sx.hole wG b off lo hi (mkAll wG k (xs.take i)) (xs.drop (i + 1)) [.slice pA0 x1.prog.length pc0, .int .i64 ((q2 : Nat) : Int), .int .i64 ((q2 + 1 : Nat) : Int), .slice pA1 x1.wr.length pc1, .slice pA2 x1.lv.length pc2, .int .i64 ((q4 : Nat) : Int), .int .i64 ((q4 + 1 : Nat) : Int), .bool ((q4 + 2) % 3 == 0), .int .i64 ((q4 + 3 : Nat) : Int), .int .i64 ((q4 + 4 : Nat) : Int), .int .i64 ((q4 + 5 : Nat) : Int), .bool ((q4 + 6) % 3 == 0), .int .i64 ((q4 + 7 : Nat) : Int), .bool x1.hl, .slice pA3 x1.seen.length pc3] F1 F2 :: ow (rLsw (rPair rInt rInt)) lo hi (mkAll (rPair rInt rInt) q x1.prog) [.slice pA0 x1.prog.length pc0] pF0 :: ow (rLsw (rPair rInt rInt)) lo hi (mkAll (rPair rInt rInt) (q2 + 2) x1.wr) [.slice pA1 x1.wr.length pc1] pF1 :: ow (rLsw (rPair rInt rInt)) lo hi (mkAll (rPair rInt rInt) q3 x1.lv) [.slice pA2 x1.lv.length pc2] pF2 :: ow (rLsw rInt) lo hi x1.seen [.slice pA3 x1.seen.length pc3] pF3 :: R) rfl (by kernel_rfl) (by kernel_rfl) (by kernel_rfl) rfl (by rw [Kit.mk_len, List.length_take]; omega) rfl rfl rfl rfl (by kernel_rfl) (by kernel_rfl) (by kernel_rfl) ?_
    refine Sx.G.nil (Sx.E.next (Sx.C.seq (Sx.C.region ?_)))
    refine Sx.G.p (.int .i64 ((q4 + 7 : Nat) : Int)) ?_
    refine Sx.G.q (.int .i64 (IntKind.i64.wrap (((q4 + 7 : Nat) : Int) + 1))) (.int .i64 ((q4 + 8 : Nat) : Int)) (congrArg (Value.int .i64) (Sx.wrap_up (q4 + 7) (by omega))) ?_
    refine Sx.G.p (.int .i64 ((q4 + 8 : Nat) : Int)) ?_
    refine Sx.G.nil (Sx.E.next (Sx.C.seq (Sx.C.region ?_)))
    refine Sx.G.p (.slice (some ⟨b, off, none⟩) xs.length c) ?_
    refine Sx.G.p (.int .i64 (i : Int)) ?_
    refine Sx.G.p (.int .i64 ((q4 + 8 : Nat) : Int)) ?_
    refine Sx.G.p (.int .i64 (((q4 + 8 : Nat) : Int).tmod 3)) ?_
    refine Sx.G.q (.bool ((((q4 + 8 : Nat) : Int).tmod 3) == 0)) (.bool ((q4 + 8) % 3 == 0)) (congrArg Value.bool (Kit.tmod3 (q4 + 8))) ?_
    refine Sx.G.elem 29 52 (.tmp 114) (.tmp 115) 15 184 b off xs.length c i rfl (by kernel_rfl) (by kernel_rfl) (by kernel_rfl) (by kernel_rfl) (by omega) ?_
    refine Sx.G.p (.pointer (some ⟨b, (off + i * 15) + 13, none⟩)) ?_
    refine Sx.G.hsto (k := i) (size := 15) 4 (.tmp 120) (.tmp 118) b ((off + i * 15) + 13) 13 0 [.bool ((q4 + 8) % 3 == 0)] [.slice pA0 x1.prog.length pc0, .int .i64 ((q2 : Nat) : Int), .int .i64 ((q2 + 1 : Nat) : Int), .slice pA1 x1.wr.length pc1, .slice pA2 x1.lv.length pc2, .int .i64 ((q4 : Nat) : Int), .int .i64 ((q4 + 1 : Nat) : Int), .bool ((q4 + 2) % 3 == 0), .int .i64 ((q4 + 3 : Nat) : Int), .int .i64 ((q4 + 4 : Nat) : Int), .int .i64 ((q4 + 5 : Nat) : Int), .bool ((q4 + 6) % 3 == 0), .int .i64 ((q4 + 7 : Nat) : Int), .bool ((q4 + 8) % 3 == 0), .slice pA3 x1.seen.length pc3] (Sx.hole wG b off lo hi (mkAll wG k (xs.take i)) (xs.drop (i + 1)) [.slice pA0 x1.prog.length pc0, .int .i64 ((q2 : Nat) : Int), .int .i64 ((q2 + 1 : Nat) : Int), .slice pA1 x1.wr.length pc1, .slice pA2 x1.lv.length pc2, .int .i64 ((q4 : Nat) : Int), .int .i64 ((q4 + 1 : Nat) : Int), .bool ((q4 + 2) % 3 == 0), .int .i64 ((q4 + 3 : Nat) : Int), .int .i64 ((q4 + 4 : Nat) : Int), .int .i64 ((q4 + 5 : Nat) : Int), .bool ((q4 + 6) % 3 == 0), .int .i64 ((q4 + 7 : Nat) : Int), .bool ((q4 + 8) % 3 == 0), .slice pA3 x1.seen.length pc3] F1 F2 :: ow (rLsw (rPair rInt rInt)) lo hi (mkAll (rPair rInt rInt) q x1.prog) [.slice pA0 x1.prog.length pc0] pF0 :: ow (rLsw (rPair rInt rInt)) lo hi (mkAll (rPair rInt rInt) (q2 + 2) x1.wr) [.slice pA1 x1.wr.length pc1] pF1 :: ow (rLsw (rPair rInt rInt)) lo hi (mkAll (rPair rInt rInt) q3 x1.lv) [.slice pA2 x1.lv.length pc2] pF2 :: ow (rLsw rInt) lo hi x1.seen [.slice pA3 x1.seen.length pc3] pF3 :: R) rfl (by kernel_rfl) (by kernel_rfl) (by kernel_rfl) rfl (by rw [Kit.mk_len, List.length_take]; omega) rfl rfl rfl rfl (by kernel_rfl) (by kernel_rfl) (by kernel_rfl) ?_
    refine Sx.G.nil (Sx.E.next (Sx.C.seq (Sx.C.region ?_)))
    refine Sx.G.p (.int .i64 ((q4 + 8 : Nat) : Int)) ?_
    refine Sx.G.q (.int .i64 (IntKind.i64.wrap (((q4 + 8 : Nat) : Int) + 1))) (.int .i64 ((q4 + 9 : Nat) : Int)) (congrArg (Value.int .i64) (Sx.wrap_up (q4 + 8) (by omega))) ?_
    refine Sx.G.p (.int .i64 ((q4 + 9 : Nat) : Int)) ?_
    refine Sx.G.nil (Sx.E.next (Sx.C.region ?_))
    refine Sx.G.p (.slice (some ⟨b, off, none⟩) xs.length c) ?_
    refine Sx.G.p (.int .i64 (i : Int)) ?_
    refine Sx.G.elem 29 52 (.tmp 123) (.tmp 124) 15 184 b off xs.length c i rfl (by kernel_rfl) (by kernel_rfl) (by kernel_rfl) (by kernel_rfl) (by omega) ?_
    refine Sx.G.p (.pointer (some ⟨b, (off + i * 15) + 14, none⟩)) ?_
    refine Sx.G.hld1 (k := i) (size := 15) 24 (.tmp 126) b ((off + i * 15) + 14) 14 0 (.slice pA3 x1.seen.length pc3) rfl (by kernel_rfl) (by kernel_rfl) rfl (by rw [Kit.mk_len, List.length_take]; omega) rfl rfl rfl (by kernel_rfl) ?_
    refine Sx.G.p (.int .i64 ((q4 + 9 : Nat) : Int)) ?_
    obtain ⟨q5, hq5⟩ : ∃ q', q' = (q4 + 9) + cntAll rInt x1.seen := ⟨_, rfl⟩
    refine Sx.G.c 13 #[.slice pA3 x1.seen.length pc3, .int .i64 ((q4 + 9 : Nat) : Int)] (fun w5 S => (Kit.kmk_IntS x1.seen pA3 pc3 (q4 + 9) _ hcap9 (by omega) S 4 rfl).mono fun e w5' hp => ?_)
    rw [← hq5] at hp
    obtain ⟨rfl, S'⟩ := hp
    refine ⟨_, _, rfl, S', ?_⟩
    clear S S'
    refine Sx.G.p (.int .i64 ((q5 : Nat) : Int)) ?_
    refine Sx.G.nil (Sx.E.block_normal (Sx.E.next (Sx.C.region ?_)))
    refine Sx.G.p (.int .i64 (i : Int)) ?_
    refine Sx.G.q (.int .i64 (IntKind.i64.wrap ((i : Int) + 1))) (.int .i64 ((i + 1 : Nat) : Int)) (congrArg (Value.int .i64) (Sx.wrap_up i (by omega))) ?_
    refine Sx.G.p (.int .i64 ((i + 1 : Nat) : Int)) ?_
    refine Sx.G.nil ?_
    have hcnt := Kit.cnt_Guest x1
    exact Sx.E.again (i + 1, (q5 : Nat)) (by refine ⟨by omega, ?_⟩; show _ = k + cntAll wG (xs.take (i + 1)); rw [Kit.cnt_step hlt, ← hx1]; rw [hcnt]; omega) (show xs.length - (i + 1) < xs.length - i by omega) (fun a hA => (Sx.Ag.sub hA (by kernel_rfl))) (fun w S => by
      subst hq5
      subst hq4
      subst hq3
      subst hq2
      have e0 : mkAll (rPair rInt rInt) q x1.prog = (wG.mark q x1).prog := by
        simp only [wG, rVia, rPair, rInt, rBool, rLsw, Nat.add_zero, Nat.zero_add, rCtl, rExit]
        try simp only [Nat.add_assoc, Nat.reduceAdd]
      rw [e0] at S
      have e1 : mkAll (rPair rInt rInt) ((q + cntAll (rPair rInt rInt) x1.prog) + 2) x1.wr = (wG.mark q x1).wr := by
        simp only [wG, rVia, rPair, rInt, rBool, rLsw, Nat.add_zero, Nat.zero_add, rCtl, rExit]
        try simp only [Nat.add_assoc, Nat.reduceAdd]
      rw [e1] at S
      have e2 : mkAll (rPair rInt rInt) (((q + cntAll (rPair rInt rInt) x1.prog) + 2) + cntAll (rPair rInt rInt) x1.wr) x1.lv = (wG.mark q x1).lv := by
        simp only [wG, rVia, rPair, rInt, rBool, rLsw, Nat.add_zero, Nat.zero_add, rCtl, rExit]
        try simp only [Nat.add_assoc, Nat.reduceAdd]
      rw [e2] at S
      have e3 : mkAll rInt (((((q + cntAll (rPair rInt rInt) x1.prog) + 2) + cntAll (rPair rInt rInt) x1.wr) + cntAll (rPair rInt rInt) x1.lv) + 9) x1.seen = (wG.mark q x1).seen := by
        simp only [wG, rVia, rPair, rInt, rBool, rLsw, Nat.add_zero, Nat.zero_add, rCtl, rExit]
        try simp only [Nat.add_assoc, Nat.reduceAdd]
      rw [e3] at S
      replace S := Kit.cshut_Guest (g := wG.mark q x1) S
      have S3 := Sx.St.close S (by decide) xs.length c (by simp [Kit.mk_len, List.length_take, List.length_drop]; omega) hmc
      rw [hq, hx1, Kit.mk_step k hlt] at S3
      exact S3
      )
theorem kmk_GuestS {w0 w : World} {lo hi : Nat} {L : List Res} (xs : (List gT)) (A : Option Addr) (c k : Nat) (F : List Nat) (hc : (rLsw wG).cap xs) (hk : k + cntAll wG xs ≤ 1000000000000) (S : St w0 w L) (i : Nat) (hi' : L[i]? = some (ow (rLsw wG) lo hi xs [.slice A xs.length c] F)) : Calls Try.prog 31 #[.slice A xs.length c, .int .i64 ((k : Nat) : Int)] w fun e w' => e = .returned (.int .i64 ((k + cntAll wG xs : Nat) : Int)) ∧ St w0 w' (L.set i (ow (rLsw wG) lo hi (mkAll wG k xs) [.slice A xs.length c] F)) :=
  anywhere (fun R S => kmk0_GuestS xs A c k F hc hk S) S i hi'

set_option maxRecDepth 100000 in
set_option maxHeartbeats 4000000 in
theorem kto_GuestS (xs : (List gT)) (A : Option Addr) (c : Nat) (w : World) (hc : (rLsw wG).cap xs) (h : rdLst wG w 0 w.heap.size xs [.slice A xs.length c]) : Calls Try.prog 25 #[.slice A xs.length c] w (Gives (rLsw wG) w xs) := by
  obtain ⟨hl, hce⟩ := hc
  refine Sx.enter (args := [.slice A xs.length c]) Try.func25 rfl Try.ntmps25 rfl ?_
  refine Sx.C.seq (Sx.C.region ?_)
  refine Sx.G.p (.slice none 0 0) ?_
  refine Sx.G.nil (Sx.E.next (Sx.C.seq (Sx.C.region ?_)))
  refine Sx.G.p (.slice A xs.length c) ?_
  refine Sx.G.p (.int .i64 ((xs.length : Nat) : Int)) ?_
  refine Sx.G.mks (r := wG) ({ prog := [], a := 0, pc := 0, wr := [], lv := [], t := (0, 0, false), pd := 0, x := (0, 0, false, 0), hl := false, seen := [] } : gT) [.slice none 0 0, .int .i64 0, .int .i64 0, .slice none 0 0, .slice none 0 0, .int .i64 0, .int .i64 0, .bool false, .int .i64 0, .int .i64 0, .int .i64 0, .bool false, .int .i64 0, .bool false, .slice none 0 0] 29 52 (.tmp 6) (.tmp 6) 15 184 xs.length rfl (by kernel_rfl) (by kernel_rfl) (by kernel_rfl) rfl rfl (fun w lo hi => Kit.own_zero_Guest w lo hi) (by kernel_rfl) (by kernel_rfl) (by simp only [maxLen]; omega) (by omega) (fun b1 hi1 F1 => ?_)
  refine Sx.G.p (.slice (some ⟨b1, 0, none⟩) xs.length xs.length) ?_
  refine Sx.G.nil (Sx.E.next (Sx.C.seq (Sx.C.seq (Sx.C.region ?_))))
  refine Sx.G.p (.int .i64 0) ?_
  refine Sx.G.nil (Sx.E.next (Sx.C.block ?_))
  refine Sx.C.loop (α := Nat × Nat × List Nat) (fun x => x.1 ≤ xs.length) (fun x => [(4, .int .i64 (x.1 : Int)), (0, .slice A xs.length c), (2, .slice none 0 0), (3, .slice (some ⟨b1, 0, none⟩) xs.length xs.length)]) (fun x => [ow (rLsw wG) w.heap.size x.2.1 (xs.take x.1 ++ List.replicate (xs.length - x.1) ({ prog := [], a := 0, pc := 0, wr := [], lv := [], t := (0, 0, false), pd := 0, x := (0, 0, false, 0), hl := false, seen := [] } : gT)) [.slice (some ⟨b1, 0, none⟩) xs.length xs.length] x.2.2]) (fun x => xs.length - x.1) (0, hi1, F1) (Nat.zero_le _) (fun a hA => (Sx.Ag.sub hA (by kernel_rfl))) (fun w' S => by have S2 := Sx.St.widen S 0 rfl (Nat.le_refl _) (S.hi 0 _ rfl); exact S2) (fun x hx => ?_)
  obtain ⟨i, hi, F⟩ := x
  dsimp only at hx
  obtain hi' := hx
  refine Sx.C.seq (Sx.C.seq (Sx.C.region ?_))
  refine Sx.G.p (.int .i64 (i : Int)) ?_
  refine Sx.G.p (.slice A xs.length c) ?_
  refine Sx.G.p (.int .i64 ((xs.length : Nat) : Int)) ?_
  refine Sx.G.p (.bool (decide ((i : Int) < ((xs.length : Nat) : Int)))) ?_
  refine Sx.G.nil (Sx.E.next ?_)
  cases hc2 : (decide ((i : Int) < ((xs.length : Nat) : Int)))
  · have hb2 := hc2
    replace hc2 := of_decide_eq_false hc2
    refine Sx.C.nn ?_
    refine Sx.C.exit (Sx.E.then_exit (Sx.E.then_exit (Sx.E.block_hit (Sx.E.next (Sx.C.seq (Sx.C.region ?_))))))
    refine Sx.G.p (.slice (some ⟨b1, 0, none⟩) xs.length xs.length) ?_
    refine Sx.G.p (.slice (some ⟨b1, 0, none⟩) xs.length xs.length) ?_
    refine Sx.G.nil (Sx.E.next (Sx.C.ret ?_))
    refine Sx.E.ret1 (.slice (some ⟨b1, 0, none⟩) xs.length xs.length) rfl (by kernel_rfl) (fun w S => ?_)
    have h2' : xs.take i = xs := List.take_of_length_le (by omega)
    rw [h2', show xs.length - i = 0 by omega, List.replicate_zero, List.append_nil] at S
    exact ⟨[_], F, rfl, S.own 0 rfl, S.nodup 0 rfl, S.below⟩
  · have hb2 := hc2
    replace hc2 := of_decide_eq_true hc2
    refine Sx.C.yy ?_
    refine Sx.C.skip (Sx.E.next (Sx.C.seq ?_))
    have hlt : i < xs.length := by omega
    refine Sx.C.open (r := wG) (pre := xs.take i) (x := ({ prog := [], a := 0, pc := 0, wr := [], lv := [], t := (0, 0, false), pd := 0, x := (0, 0, false, 0), hl := false, seen := [] } : gT)) (post := List.replicate (xs.length - (i + 1)) ({ prog := [], a := 0, pc := 0, wr := [], lv := [], t := (0, 0, false), pd := 0, x := (0, 0, false, 0), hl := false, seen := [] } : gT)) (by rw [show xs.length - i = (xs.length - (i + 1)) + 1 by omega, List.replicate_succ]) (by decide) (fun b off es F1 Fi F2 eA eF hes hm hmc => ?_)
    obtain ⟨rfl, rfl⟩ : b1 = b ∧ 0 = off := by cases eA; exact ⟨rfl, rfl⟩
    subst eF
    refine Sx.C.know (p := ∃ A0 A1 A2 A3 c0 c1 c2 c3, es = [.slice A0 0 c0, .int .i64 ({ prog := [], a := 0, pc := 0, wr := [], lv := [], t := (0, 0, false), pd := 0, x := (0, 0, false, 0), hl := false, seen := [] } : gT).a, .int .i64 ({ prog := [], a := 0, pc := 0, wr := [], lv := [], t := (0, 0, false), pd := 0, x := (0, 0, false, 0), hl := false, seen := [] } : gT).pc, .slice A1 0 c1, .slice A2 0 c2, .int .i64 ({ prog := [], a := 0, pc := 0, wr := [], lv := [], t := (0, 0, false), pd := 0, x := (0, 0, false, 0), hl := false, seen := [] } : gT).t.1, .int .i64 ({ prog := [], a := 0, pc := 0, wr := [], lv := [], t := (0, 0, false), pd := 0, x := (0, 0, false, 0), hl := false, seen := [] } : gT).t.2.1, .bool ({ prog := [], a := 0, pc := 0, wr := [], lv := [], t := (0, 0, false), pd := 0, x := (0, 0, false, 0), hl := false, seen := [] } : gT).t.2.2, .int .i64 ({ prog := [], a := 0, pc := 0, wr := [], lv := [], t := (0, 0, false), pd := 0, x := (0, 0, false, 0), hl := false, seen := [] } : gT).pd, .int .i64 ({ prog := [], a := 0, pc := 0, wr := [], lv := [], t := (0, 0, false), pd := 0, x := (0, 0, false, 0), hl := false, seen := [] } : gT).x.1, .int .i64 ({ prog := [], a := 0, pc := 0, wr := [], lv := [], t := (0, 0, false), pd := 0, x := (0, 0, false, 0), hl := false, seen := [] } : gT).x.2.1, .bool ({ prog := [], a := 0, pc := 0, wr := [], lv := [], t := (0, 0, false), pd := 0, x := (0, 0, false, 0), hl := false, seen := [] } : gT).x.2.2.1, .int .i64 ({ prog := [], a := 0, pc := 0, wr := [], lv := [], t := (0, 0, false), pd := 0, x := (0, 0, false, 0), hl := false, seen := [] } : gT).x.2.2.2, .bool ({ prog := [], a := 0, pc := 0, wr := [], lv := [], t := (0, 0, false), pd := 0, x := (0, 0, false, 0), hl := false, seen := [] } : gT).hl, .slice A3 0 c3]) (fun w S => Kit.open_zero_Guest (St.at_ S 1 rfl).1) ?_
    rintro ⟨z0, z1, z2, z3, d0, d1, d2, d3, rfl⟩
    refine Sx.C.block (Sx.C.region ?_)
    refine Sx.G.p (.slice (some ⟨b1, 0, none⟩) xs.length xs.length) ?_
    refine Sx.G.p (.int .i64 (i : Int)) ?_
    refine Sx.G.p (.slice A xs.length c) ?_
    refine Sx.G.p (.int .i64 (i : Int)) ?_
    obtain ⟨b3, f3, es3, eA3, hr3, hl3, hm3⟩ := Sx.old_elem (by decide) h i (by omega)
    subst eA3
    obtain ⟨x3, hx3⟩ : ∃ z_, z_ = (xs[i]'(by omega)) := ⟨_, rfl⟩
    rw [← hx3] at hr3
    have hR3 := hr3
    obtain ⟨P3_0, P3_1, P3_2, P3_3, rfl, hf3_0, hf3_1, hf3_2, hf3_3⟩ := wG_rd hr3
    obtain ⟨A3_0, c3_0, e3_0, -⟩ := lst_val hf3_0
    subst e3_0
    obtain ⟨A3_1, c3_1, e3_1, -⟩ := lst_val hf3_1
    subst e3_1
    obtain ⟨A3_2, c3_2, e3_2, -⟩ := lst_val hf3_2
    subst e3_2
    obtain ⟨A3_3, c3_3, e3_3, -⟩ := lst_val hf3_3
    subst e3_3
    refine Sx.G.elem 23 67 (.tmp 16) (.tmp 17) 15 184 b3 f3 xs.length c i rfl (by kernel_rfl) (by kernel_rfl) (by kernel_rfl) (by kernel_rfl) (by omega) ?_
    refine Sx.G.ldr 67 (.tmp 18) b3 (f3 + i * 15) [.slice A3_0 x3.prog.length c3_0, .int .i64 x3.a, .int .i64 x3.pc, .slice A3_1 x3.wr.length c3_1, .slice A3_2 x3.lv.length c3_2, .int .i64 x3.t.1, .int .i64 x3.t.2.1, .bool x3.t.2.2, .int .i64 x3.pd, .int .i64 x3.x.1, .int .i64 x3.x.2.1, .bool x3.x.2.2.1, .int .i64 x3.x.2.2.2, .bool x3.hl, .slice A3_3 x3.seen.length c3_3] rfl (by kernel_rfl) (by kernel_rfl) (fun w S => hm3 w _ S) (by kernel_rfl) (by kernel_rfl) ?_
    refine Sx.G.c 35 #[.agg #[.slice A3_0 x3.prog.length c3_0, .int .i64 x3.a, .int .i64 x3.pc, .slice A3_1 x3.wr.length c3_1, .slice A3_2 x3.lv.length c3_2, .int .i64 x3.t.1, .int .i64 x3.t.2.1, .bool x3.t.2.2, .int .i64 x3.pd, .int .i64 x3.x.1, .int .i64 x3.x.2.1, .bool x3.x.2.2.1, .int .i64 x3.x.2.2.2, .bool x3.hl, .slice A3_3 x3.seen.length c3_3]] (fun w4 S => (Kit.kto_Guest x3 _ _ (hce _ (hx3 ▸ List.getElem_mem _)) (St.old S hR3)).mono fun e w4' hp => ?_)
    obtain ⟨cs, F, rfl, ho, hF, hb⟩ := hp
    obtain ⟨P4_0, P4_1, P4_2, P4_3, G4_0, G4_1, G4_2, G4_3, rfl, -, S'⟩ := wG_open2 (St.got S hb ho hF)
    obtain ⟨A4_0, c4_0, e4_0, -⟩ := lst_val (S'.reads 0 rfl)
    subst e4_0
    obtain ⟨A4_1, c4_1, e4_1, -⟩ := lst_val (S'.reads 1 rfl)
    subst e4_1
    obtain ⟨A4_2, c4_2, e4_2, -⟩ := lst_val (S'.reads 2 rfl)
    subst e4_2
    obtain ⟨A4_3, c4_3, e4_3, -⟩ := lst_val (S'.reads 3 rfl)
    subst e4_3
    refine ⟨_, _, rfl, S', ?_⟩
    clear S S' ho hF hb
    refine Sx.G.elem 29 52 (.tmp 14) (.tmp 15) 15 184 b1 0 xs.length xs.length i rfl (by kernel_rfl) (by kernel_rfl) (by kernel_rfl) (by kernel_rfl) (by omega) ?_
    refine Sx.G.hw i [.slice A4_0 x3.prog.length c4_0, .int .i64 x3.a, .int .i64 x3.pc, .slice A4_1 x3.wr.length c4_1, .slice A4_2 x3.lv.length c4_2, .int .i64 x3.t.1, .int .i64 x3.t.2.1, .bool x3.t.2.2, .int .i64 x3.pd, .int .i64 x3.x.1, .int .i64 x3.x.2.1, .bool x3.x.2.2.1, .int .i64 x3.x.2.2.2, .bool x3.hl, .slice A4_3 x3.seen.length c4_3] .a4 (by rw [List.length_take]; omega) ?_
    refine Sx.G.nil (Sx.E.block_normal (Sx.E.next (Sx.C.region ?_)))
    refine Sx.G.p (.int .i64 (i : Int)) ?_
    refine Sx.G.q (.int .i64 (IntKind.i64.wrap ((i : Int) + 1))) (.int .i64 ((i + 1 : Nat) : Int)) (congrArg (Value.int .i64) (Sx.wrap_up i (by omega))) ?_
    refine Sx.G.p (.int .i64 ((i + 1 : Nat) : Int)) ?_
    refine Sx.G.nil ?_
    exact Sx.E.again (i + 1, max hi w4'.heap.size, _) (show i + 1 ≤ xs.length by omega) (show xs.length - (i + 1) < xs.length - i by omega) (fun a hA => (Sx.Ag.sub hA (by kernel_rfl))) (fun w' S => by
      replace S := wG_shut2 (g := x3) S
      replace S := St.pick S [1, 0] [_, _] rfl (by decide)
      have S3 := Sx.St.closeW S (by decide) xs.length xs.length (by simp [List.length_take]; omega) hmc
      rw [hx3] at S3
      rw [show xs.take i ++ xs[i] :: List.replicate (xs.length - (i + 1)) ({ prog := [], a := 0, pc := 0, wr := [], lv := [], t := (0, 0, false), pd := 0, x := (0, 0, false, 0), hl := false, seen := [] } : gT) = xs.take (i + 1) ++ List.replicate (xs.length - (i + 1)) ({ prog := [], a := 0, pc := 0, wr := [], lv := [], t := (0, 0, false), pd := 0, x := (0, 0, false, 0), hl := false, seen := [] } : gT) by rw [Kit.take_step hlt, List.append_assoc]; rfl] at S3
      exact S3
      )

end Go.Proofs.Ytmiokacihcpepaa.Kit
