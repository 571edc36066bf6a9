/-
  Contracts of the law package's helpers over slices of slices of ints (conversion, equality, marking, looking the marks up, size); no statement about the project's code stands here. No condition.
-/
import Derived.Test.YtmiokacihcpepaaGridA
namespace Go.Proofs.Ytmiokacihcpepaa.Grid
set_option maxRecDepth 100000
open Go.ChangeShapes Go.WideShapes Go.ChangeAt Go.RowKit
open Go.Proofs.Ytmiokacihcpepaa.Base Go.Proofs.Ytmiokacihcpepaa.Mem Go.Proofs.Ytmiokacihcpepaa.Ints

theorem Try.infoInt : (Try.prog.info? 3).map (fun i => (i.zero, i.size, i.bytes)) = some (some (.int .i64 0), 1, 8) := by kernel_rfl
theorem Try.infoPage : (Try.prog.info? 24).map (fun i => (i.zero, i.size, i.bytes)) = some (some (.slice none 0 0), 1, 24) := by kernel_rfl

theorem grown_of_below {w w' : World} (h : Below w.heap.size w w') (row : Option Nat) : w.grownBy w' row := ⟨h.os, h.tape, h.output, h.size, fun i hi _ => h.block i hi⟩
/-- A cell of a row may be written. -/
theorem row_one {w : World} {base g n c : Nat} {e : TypeId} {xs : List Value} (h : w.ownsRow base e 1 (.slice (some ⟨g, 0, none⟩) n c) n xs) {k : Nat} (hk : k < n) :
    (∃ u, w.cell? ⟨g, k, none⟩ = some u) ∧ w.frozen? ⟨g, k, none⟩ = false := by
  have hl := h.1
  refine ⟨⟨xs[k]'(by omega), ?_⟩, h.frozenAt _⟩
  rw [h.cellAt _ (by omega)]; exact List.getElem?_eq_getElem _
theorem take_set1 {xs : List Value} {k : Nat} {ys : List Value} {u : Value} (h : xs.take k = ys) (hl : k < xs.length) : (xs.set k u).take (k + 1) = ys ++ [u] := by
  rw [← h, List.take_succ_eq_append_getElem (by simpa using hl)]
  simp [List.take_set_of_le]
theorem ncells_snoc {l : List Int} {k : Nat} (hk : k < l.length) : ncells (l.take (k + 1)) = ncells (l.take k) ++ [.int .i64 l[k]] := by
  rw [List.take_succ_eq_append_getElem hk, ncells_append]
  rfl

/-- .. whose length is within its capacity. -/
def IPostC (w : World) (l : List Int) (e : Ending) (w' : World) : Prop :=
  ∃ A n c, e = .returned (.slice A n c) ∧ n ≤ c ∧ l.length = n ∧ Owned w' w.heap.size w'.heap.size A (ncells l) ∧ Below w.heap.size w w'
set_option maxHeartbeats 1000000 in
theorem toIntS_cap (A : Option Addr) (n c lo : Nat) (l : List Int) (w : World) (hn : n ≤ 1048576) (hl : l.length = n) (h1 : Lies w lo w.heap.size A (ncells l)) :
    Calls Try.prog 26 #[.slice A n c] w (IPostC w l) := by
  obtain ⟨i0, hi0, hz0, hz1, hz2⟩ := info_parts Try.infoInt
  have H1 := Lib.hid h1
  have HL := Lib.hid hl
  clear h1 hl
  obtain ⟨wm, hmk, hown, hgm⟩ := run_make_full w w.heap.size 24 3 i0 _ 1 Try.underlying24 hi0 hz0 hz1 .i64 .i64 n (by rw [hz2]; omega) (by simp only [maxLen]; omega) (Nat.le_refl _)
  have HO := Lib.hid (And.intro hown hgm)
  clear hown hgm
  go_enter Try.func26, Try.ntmps26
  go_wp2
  go_loopw [4] (fun i wr => ∃ (k : Nat) (xs : List Value), k ≤ n ∧ i = .int .i64 k ∧ xs.take k = ncells (l.take k) ∧ wr.ownsRow w.heap.size 3 1 (.slice (some ⟨w.heap.size, 0, none⟩) n n) n xs ∧ Below w.heap.size w wr) (fun i _ => n - (intOf i).toNat)
  case atStart => exact ⟨0, _, Nat.zero_le _, rfl, by simp [ncells], HO.out.1, (Below.refl _ _).grown HO.out.2 (Nat.le_refl _) (fun _ h => by cases h)⟩
  case round =>
    obtain ⟨k, xs, hk, rfl, hxs, hown, hb⟩ := hrel
    have HX := Lib.hid hxs
    clear hxs
    by_cases hlt : k < n
    · have hkl : k < l.length := by have := HL.out; omega
      obtain ⟨b, off, rfl, _, hbw, c1⟩ := int_at H1.out k hkl
      have d1 : wr.cell? ⟨b, off + k, none⟩ = some (.int .i64 l[k]) := (hb.cell hbw).trans c1
      have hi0 : (0 : Int) ≤ (k : Int) := Int.natCast_nonneg _
      have hi1 : (k : Int) < (n : Int) := by omega
      have HT := Lib.hid (ncells_snoc hkl)
      obtain ⟨⟨u1, e1⟩, f1⟩ := row_one hown hlt
      clear c1
      generalize l[k] = x at d1 HT
      have hrow := (hown.stored k (.int .i64 x)).1
      have hbw2 : Below w.heap.size w (wr.setCell ⟨w.heap.size, k, none⟩ (.int .i64 x)) := hb.setCell (p := ⟨w.heap.size, k, none⟩) (Nat.le_refl _) _
      have hts : (xs.set k (.int .i64 x)).take (k + 1) = ncells (l.take (k + 1)) := (take_set1 HX.out (by have := hown.1; omega)).trans HT.out.symm
      have HF := Lib.hid (And.intro hrow (And.intro hbw2 hts))
      clear hrow hbw2 hts
      go_wp2
      go_roundw
      case rel => exact ⟨k + 1, _, by omega, by go_num, HF.out.2.2, HF.out.1, HF.out.2.1⟩
      case measure => simp [intOf]; omega
    · have hkn : k = n := by omega
      subst hkn
      have hx : xs = ncells l := by
        have h1 := HX.out
        have h2 := hown.1
        rw [List.take_of_length_le (by omega), List.take_of_length_le (by have := HL.out; omega)] at h1
        exact h1
      subst hx
      go_wp2
      go_ret
      exact ⟨_, _, _, rfl, Nat.le_refl _, HL.out, Owned.of_row hown, hb⟩
theorem toIntS_any (A : Option Addr) (n c lo : Nat) (l : List Int) (w : World) (hn : n ≤ 1048576) (hl : l.length = n) (h1 : Lies w lo w.heap.size A (ncells l)) :
    Calls Try.prog 26 #[.slice A n c] w (IPost w l) := (toIntS_cap A n c lo l w hn hl h1).mono fun e w' h => by
  obtain ⟨A, n, c, h0, _, h2⟩ := h
  exact ⟨A, n, c, h0, h2⟩

theorem hcells_take {M : List (List Int)} {hs : List Hd} {k : Nat} (hk : k < M.length) (hl : hs.length = (M.take k).length) (h : Hd) : hcells (M.take (k + 1)) (hs ++ [h]) = hcells (M.take k) hs ++ [.slice h.1 M[k].length h.2] := by
  rw [List.take_succ_eq_append_getElem hk, hcells_snoc _ _ hl]
/-- A memory made at its full length whose pages are put one by one. -/
structure Filled (T : TypeId) (w0 w : World) (n k : Nat) (xs : List Value) (M : List (List Int)) (hs : List Hd) : Prop where
  row : w.ownsRow w0.heap.size T 1 (.slice (some ⟨w0.heap.size, 0, none⟩) n n) n xs
  cells : xs.take k = hcells M hs
  pages : Pages w (w0.heap.size + 1) w.heap.size M hs
  below : Below w0.heap.size w0 w
  size : w0.heap.size < w.heap.size
  len : M.length = k
theorem Filled.step {T : TypeId} {w0 w w1 : World} {n k c : Nat} {xs : List Value} {M : List (List Int)} {hs : List Hd} {B : Option Addr} {r : List Int} (h : Filled T w0 w n k xs M hs) (hk : k < n) (hb : Below w.heap.size w w1) (ho : Owned w1 w.heap.size w1.heap.size B (ncells r)) :
    Filled T w0 (w1.setCell ⟨w0.heap.size, k, none⟩ (.slice B r.length c)) n (k + 1) (xs.set k (.slice B r.length c)) (M ++ [r]) (hs ++ [(B, c)]) := by
  have hl := h.pages.1
  have h0 := h.size
  have hr1 := h.row.kept (grown_of_below hb none) (.inr (by simp [Value.ownBlock]))
  refine ⟨(hr1.stored k _).1, ?_, ?_, ((h.below.trans (hb.mono h.below.size)).setCell (p := ⟨w0.heap.size, k, none⟩) (Nat.le_refl _) _), by have := hb.size; simp; omega, by simp [h.len]⟩
  · rw [hcells_snoc r (B, c) hl]
    exact take_set1 h.cells (by have := h.row.1; omega)
  · have p2 := (h.pages.below hb (Nat.le_refl _)).snoc (k := (B, c)) ho (Nat.le_refl _) h0 hb.size
    have e : (w1.setCell ⟨w0.heap.size, k, none⟩ (.slice B r.length c)).heap.size = w1.heap.size := by simp
    rw [e]
    exact p2.kept fun q q1 _ => Below.heap_setCell w1 ⟨w0.heap.size, k, none⟩ _ q (by show q ≠ w0.heap.size; omega)
theorem Filled.og {T : TypeId} {w0 w : World} {n : Nat} {xs : List Value} {M : List (List Int)} {hs : List Hd} (h : Filled T w0 w n n xs M hs) : OG w w0.heap.size w.heap.size (some ⟨w0.heap.size, 0, none⟩) M hs := by
  have hx : xs = hcells M hs := by
    have h1 := h.cells
    rwa [List.take_of_length_le (by have := h.row.1; omega)] at h1
  have hr := h.row
  rw [hx] at hr
  exact OG.mk' (Owned.of_row hr) h.pages (by omega) (.inl (by omega))
theorem Filled.start {T : TypeId} {w0 w : World} {n : Nat} {xs : List Value} (hr : w.ownsRow w0.heap.size T 1 (.slice (some ⟨w0.heap.size, 0, none⟩) n n) n xs) (hg : w0.grownBy w none) : Filled T w0 w n 0 xs [] [] :=
  ⟨hr, rfl, Pages.nil, (Below.refl _ _).grown hg (Nat.le_refl _) (fun _ h => by cases h), (hr.lt _ rfl).2, rfl⟩

def tot : List (List Int) → Nat
  | [] => 0
  | r :: M => r.length + tot M
theorem tot_append : ∀ M N, tot (M ++ N) = tot M + tot N
  | [], N => by simp [tot]
  | r :: M, N => by simp [tot, tot_append M N]; omega
theorem tot_take {M : List (List Int)} {k : Nat} (hk : k < M.length) : tot (M.take (k + 1)) = tot (M.take k) + M[k].length := by
  rw [List.take_succ_eq_append_getElem hk, tot_append]; simp [tot]
theorem tot_take_le (M : List (List Int)) (k : Nat) : tot (M.take k) ≤ tot M := by
  have := tot_append (M.take k) (M.drop k)
  rw [List.take_append_drop] at this
  omega
theorem tot_at {M : List (List Int)} {k : Nat} (hk : k < M.length) : M[k].length ≤ tot M := by
  have := tot_take hk
  have := tot_take_le M (k + 1)
  omega

/-- The bounds that the laws keep. -/
structure capG (M : List (List Int)) : Prop where
  len : M.length ≤ 1048576
  all : tot M ≤ 1048580
  page : ∀ r ∈ M, r.length ≤ 1048576
theorem capG.at_ {M : List (List Int)} (h : capG M) {k : Nat} (hk : k < M.length) : M[k].length ≤ 1048576 := h.page _ (List.getElem_mem _)
theorem capG.of {M : List (List Int)} (h : M.length + tot M ≤ 1048576) : capG M := ⟨by omega, by omega, fun r hr => by
  obtain ⟨k, hk, rfl⟩ := List.getElem_of_mem hr
  have := tot_at hk
  omega⟩

set_option maxHeartbeats 1000000 in
theorem toIntSS_any (A : Option Addr) (n c lo : Nat) (M : List (List Int)) (hs : List Hd) (w : World) (hc : capG M) (hl : M.length = n) (h1 : RG w lo w.heap.size A M hs) :
    Calls Try.prog 24 #[.slice A n c] w (GPost w M) := by
  obtain ⟨i0, hi0, hz0, hz1, hz2⟩ := info_parts Try.infoPage
  have hn : n ≤ 1048576 := hl ▸ hc.len
  have HC := Lib.hid hc
  clear hc
  have H1 := Lib.hid h1
  have HL := Lib.hid hl
  clear h1 hl
  obtain ⟨wm, hmk, hown, hgm⟩ := run_make_full w w.heap.size 22 24 i0 _ 1 Try.underlying22 hi0 hz0 hz1 .i64 .i64 n (by rw [hz2]; omega) (by simp only [maxLen]; omega) (Nat.le_refl _)
  have HO := Lib.hid (Filled.start hown hgm)
  clear hown hgm
  go_enter Try.func24, Try.ntmps24
  go_wp2
  go_loopw [4] (fun i wr => ∃ (k : Nat) (xs : List Value) (gs : List Hd), k ≤ n ∧ i = .int .i64 k ∧ Filled 24 w wr n k xs (M.take k) gs) (fun i _ => n - (intOf i).toNat)
  case atStart => exact ⟨0, _, [], Nat.zero_le _, rfl, HO.out⟩
  case round =>
    obtain ⟨k, xs, gs, hk, rfl, hf⟩ := hrel
    have HX := Lib.hid hf
    have hb := hf.below
    clear hf
    by_cases hlt : k < n
    · have hkl : k < M.length := by have := HL.out; omega
      obtain ⟨b, off, B, c', rfl, _, hbw, c1, hB⟩ := H1.out.page k hkl
      have d1 : wr.cell? ⟨b, off + k, none⟩ = some (.slice B M[k].length c') := (hb.cell hbw).trans c1
      have hi0 : (0 : Int) ≤ (k : Int) := Int.natCast_nonneg _
      have hi1 : (k : Int) < (n : Int) := by omega
      have hK := toIntS_any B M[k].length c' lo M[k] wr (HC.out.at_ hkl) rfl ((hB.below hb (Nat.le_refl _)).wide (Nat.le_refl _) hb.size)
      have HT : M.take (k + 1) = M.take k ++ [M[k]] := List.take_succ_eq_append_getElem hkl
      have HT := Lib.hid HT
      clear c1 hB
      generalize M[k] = r at d1 HT hK
      have HK := Lib.hid hK
      clear hK
      go_wp2_with fail
      refine (HK.out).mono ?_
      rintro e w1 ⟨A1, n1, c1, rfl, rfl, ho1, hb1⟩
      have hs' := HX.out.step (c := c1) hlt hb1 ho1
      rw [← HT.out] at hs'
      obtain ⟨⟨u1, e1⟩, f1⟩ := row_one (HX.out.row.kept (grown_of_below hb1 none) (.inr (by simp [Value.ownBlock]))) hlt
      have HF := Lib.hid hs'
      clear hs' ho1 hb1
      go_wp2_with fail
      go_roundw
      case rel => exact ⟨k + 1, _, _, by omega, by go_num, HF.out⟩
      case measure => simp [intOf]; omega
    · have hkn : k = n := by omega
      subst hkn
      have hx := HX.out
      rw [List.take_of_length_le (by have := HL.out; omega)] at hx
      have HX := Lib.hid hx
      clear hx
      go_wp2
      go_ret
      exact ⟨_, _, _, _, rfl, HL.out, HX.out.og, HX.out.below⟩
end Go.Proofs.Ytmiokacihcpepaa.Grid
