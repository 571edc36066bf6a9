/-
  Memory: what chapter 4's reading functions compute, and their contracts (cellOk, hasPage, hasCell, l04Has, PageOk, MemOk, CellAt of the project and of the given model). No condition beyond a memory's size.
-/
import Derived.Test.YtkbcmeachfplnaaGridM
import Derived.Test.YtkbcmeachfplnaaIn
namespace Go.Proofs.Ytkbcmeachfplnaa.Grid
open Go.ChangeShapes Go.WideShapes Go.ChangeAt Go.RowKit
open Go.Proofs.Ytkbcmeachfplnaa.Base Go.Proofs.Ytkbcmeachfplnaa.Mem Go.Proofs.Ytkbcmeachfplnaa.Ints
set_option linter.unusedVariables false

theorem all_snoc {α : Type} (p : α → Bool) (l : List α) (k : Nat) (h : k < l.length) (ht : (l.take k).all p = true) : (l.take (k + 1)).all p = p l[k] := by
  rw [List.take_succ_eq_append_getElem h, List.all_append, ht]
  simp
theorem all_stop {α : Type} (p : α → Bool) (l : List α) (k : Nat) (h : k < l.length) (hs : p l[k] = false) : l.all p = false := by
  rw [List.all_eq_false]
  exact ⟨l[k], List.getElem_mem h, by simpa using hs⟩

def cellB (v : Int) : Bool := inB v 0 99
def cellsB (l : List Int) : Bool := l.all cellB
def pageB (l : List Int) : Bool := cellsB l && decide ((l.length : Int) = 4)
def pagesB (M : List (List Int)) : Bool := M.all pageB
def memB (M : List (List Int)) (pages : Int) : Bool := pagesB M && decide ((M.length : Int) = pages)
def hasPB (n : Nat) (page : Int) : Bool := inB page 0 ((n : Int) - 1)
def hasCB (M : List (List Int)) (page cell : Int) : Bool := hasPB M.length page && hasPB (M.getD page.toNat []).length cell
def cellAt (M : List (List Int)) (page cell : Int) : Int := if hasCB M page cell = true then (M.getD page.toNat []).getD cell.toNat 0 else 0
def pageAt (M : List (List Int)) (page : Int) : List Int := if hasPB M.length page = true then M.getD page.toNat [] else [0, 0, 0, 0]
def withC (M : List (List Int)) (page cell v : Int) : List (List Int) := if hasCB M page cell = true ∧ cellB v = true then M.set page.toNat ((M.getD page.toNat []).set cell.toNat v) else M
def withP (M : List (List Int)) (page : Int) (l : List Int) : List (List Int) := if hasPB M.length page = true ∧ pageB l = true then M.set page.toNat l else M

theorem hasPB_yes {n : Nat} {page : Int} (h : hasPB n page = true) : ∃ k : Nat, page = (k : Int) ∧ k < n := by
  obtain ⟨h0, h1⟩ := inB_iff.1 h
  exact ⟨page.toNat, by omega, by omega⟩
theorem hasPB_no {n : Nat} {page : Int} (h : hasPB n page = false) : ¬ (0 ≤ page ∧ page < n) := by
  have := inB_false.1 h
  omega
theorem hasPB_mk {n k : Nat} (h : k < n) : hasPB n (k : Int) = true := inB_iff.2 ⟨by omega, by omega⟩
theorem hasPB_not {n : Nat} {page : Int} (h : ¬ (0 ≤ page ∧ page < n)) : hasPB n page = false := inB_false.2 (by omega)
theorem getD_at {M : List (List Int)} {k : Nat} (h : k < M.length) : M.getD (k : Int).toNat [] = M[k] := by
  rw [Int.toNat_natCast, List.getD_eq_getElem?_getD, List.getElem?_eq_getElem h]; rfl
theorem hasCB_yes {M : List (List Int)} {page cell : Int} (h : hasCB M page cell = true) : ∃ k j : Nat, page = (k : Int) ∧ cell = (j : Int) ∧ ∃ (hk : k < M.length), j < M[k].length := by
  simp only [hasCB, Bool.and_eq_true] at h
  obtain ⟨k, rfl, hk⟩ := hasPB_yes h.1
  obtain ⟨j, rfl, hj⟩ := hasPB_yes h.2
  rw [getD_at hk] at hj
  exact ⟨k, j, rfl, rfl, hk, hj⟩
theorem cellAt_yes {M : List (List Int)} {k j : Nat} (h : hasCB M (k : Int) (j : Int) = true) (hk : k < M.length) (hj : j < M[k].length) : cellAt M (k : Int) (j : Int) = M[k][j] := by
  rw [cellAt, if_pos h, getD_at hk, Int.toNat_natCast, List.getD_eq_getElem?_getD, List.getElem?_eq_getElem hj]; rfl
theorem cellAt_no {M : List (List Int)} {page cell : Int} (h : hasCB M page cell = false) : cellAt M page cell = 0 := by rw [cellAt, h]; rfl

theorem impl_cellOk (v : Int) (w : World) :
    Calls Try.prog 55 #[.int .i64 v] w fun e w' => e = .returned (.bool (cellB v)) ∧ w = w' := by
  cases h1 : decide (0 ≤ v)
  all_goals
    cases h2 : decide (v ≤ 99)
    all_goals
      have hv : cellB v = (decide (0 ≤ v) && decide (v ≤ 99)) := rfl
      rw [h1, h2] at hv
      simp only [Bool.and_false, Bool.and_true] at hv
      rw [hv]; clear hv
      go_enter Try.func55, Try.ntmps55
      go_wp2
      go_ret
      exact ⟨rfl, rfl⟩

theorem impl_hasP (A : Option Addr) (n c : Nat) (page : Int) (w : World) (hn : n ≤ 1048576) :
    Calls Try.prog 62 #[.slice A n c, .int .i64 page] w fun e w' => e = .returned (.bool (hasPB n page)) ∧ w = w' := by
  by_cases h0 : 0 ≤ page
  · by_cases h1 : page < n
    · rw [show hasPB n page = true from inB_iff.2 ⟨h0, by omega⟩]
      go_enter Try.func62, Try.ntmps62
      go_wp2
      go_ret
      exact ⟨rfl, rfl⟩
    · rw [show hasPB n page = false from hasPB_not (by omega)]
      go_enter Try.func62, Try.ntmps62
      go_wp2
      go_ret
      exact ⟨rfl, rfl⟩
  · rw [show hasPB n page = false from hasPB_not (by omega)]
    go_enter Try.func62, Try.ntmps62
    go_wp2
    go_ret
    exact ⟨rfl, rfl⟩

set_option maxHeartbeats 1000000 in
theorem impl_hasC (A : Option Addr) (n c lo hi : Nat) (page cell : Int) (M : List (List Int)) (hs : List Hd) (w : World) (hc : capG M) (hl : M.length = n) (h1 : RG w lo hi A M hs) :
    Calls Try.prog 54 #[.slice A n c, .int .i64 page, .int .i64 cell] w fun e w' => e = .returned (.bool (hasCB M page cell)) ∧ w = w' := by
  have hn : n ≤ 1048576 := hl ▸ hc.len
  have hK := fun V : World => impl_hasP A n c page V hn
  cases hp : hasPB n page
  · have hv : hasCB M page cell = false := by rw [hasCB, hl, hp]; rfl
    rw [hv]
    rw [hp] at hK
    have HK := Lib.hid hK
    clear hK hc hl h1 hv hp
    go_enter Try.func54, Try.ntmps54
    go_wp2_with fail
    refine (HK.out _).mono ?_
    rintro e w' ⟨rfl, rfl⟩
    go_wp2_with fail
    go_ret
    exact ⟨rfl, rfl⟩
  · rw [hp] at hK
    have HK := Lib.hid hK
    clear hK
    obtain ⟨k, rfl, hk⟩ := hasPB_yes hp
    have hkl : k < M.length := by omega
    obtain ⟨b, off, B, c', rfl, _, hbw, c1, hB⟩ := h1.page k hkl
    have hm := hc.at_ hkl
    have hv : hasCB M (k : Int) cell = hasPB M[k].length cell := by rw [hasCB, hl, hp, getD_at hkl]; rfl
    rw [hv]
    clear hc hl h1 hv hp hB
    generalize M[k] = r at c1 hm ⊢
    by_cases q0 : 0 ≤ cell
    · by_cases q1 : cell < r.length
      · rw [show hasPB r.length cell = true from inB_iff.2 ⟨q0, by omega⟩]
        go_enter Try.func54, Try.ntmps54
        go_wp2_with fail
        refine (HK.out _).mono ?_
        rintro e w' ⟨rfl, rfl⟩
        go_wp2_with fail
        go_ret
        exact ⟨rfl, rfl⟩
      · rw [show hasPB r.length cell = false from hasPB_not (by omega)]
        have q2 : decide (cell < (r.length : Int)) = false := by simpa using q1
        go_enter Try.func54, Try.ntmps54
        go_wp2_with fail
        refine (HK.out _).mono ?_
        rintro e w' ⟨rfl, rfl⟩
        go_wp2_with fail
        go_ret
        exact ⟨rfl, rfl⟩
    · rw [show hasPB r.length cell = false from hasPB_not (by omega)]
      go_enter Try.func54, Try.ntmps54
      go_wp2_with fail
      refine (HK.out _).mono ?_
      rintro e w' ⟨rfl, rfl⟩
      go_wp2_with fail
      go_ret
      exact ⟨rfl, rfl⟩

set_option maxHeartbeats 1000000 in
theorem spec_hasC (A : Option Addr) (n c lo hi : Nat) (page cell : Int) (M : List (List Int)) (hs : List Hd) (w : World) (hc : capG M) (hl : M.length = n) (h1 : RG w lo hi A M hs) :
    Calls Try.prog 59 #[.slice A n c, .int .i64 page, .int .i64 cell] w fun e w' => e = .returned (.bool (hasCB M page cell)) ∧ w = w' := by
  have hn : n ≤ 1048576 := hl ▸ hc.len
  have hK := fun V : World => spec_in page 0 ((n : Int) - 1) V
  cases hp : hasPB n page
  · have hv : hasCB M page cell = false := by rw [hasCB, hl, hp]; rfl
    rw [hv]
    rw [show inB page 0 ((n : Int) - 1) = false from hp] at hK
    have HK := Lib.hid hK
    clear hK hc hl h1 hv hp
    go_enter Try.func59, Try.ntmps59
    go_wp2_with fail
    refine (HK.out _).mono ?_
    rintro e w' ⟨rfl, rfl⟩
    go_wp2_with fail
    go_ret
    exact ⟨rfl, rfl⟩
  · rw [show inB page 0 ((n : Int) - 1) = true from hp] at hK
    have HK := Lib.hid hK
    clear hK
    obtain ⟨k, rfl, hk⟩ := hasPB_yes hp
    have hkl : k < M.length := by omega
    obtain ⟨b, off, B, c', rfl, _, hbw, c1, hB⟩ := h1.page k hkl
    have hm := hc.at_ hkl
    have hv : hasCB M (k : Int) cell = hasPB M[k].length cell := by rw [hasCB, hl, hp, getD_at hkl]; rfl
    rw [hv]
    clear hc hl h1 hv hp hB
    generalize M[k] = r at c1 hm ⊢
    go_enter Try.func59, Try.ntmps59
    go_wp2_with fail
    refine (HK.out _).mono ?_
    rintro e w' ⟨rfl, rfl⟩
    go_wp2_with fail
    refine (spec_in cell 0 ((r.length : Int) - 1) _).mono ?_
    rintro e w' ⟨rfl, rfl⟩
    go_wp2_with fail
    go_ret
    exact ⟨rfl, rfl⟩

set_option maxHeartbeats 1000000 in
theorem impl_cellAt (A : Option Addr) (n c lo hi : Nat) (page cell : Int) (M : List (List Int)) (hs : List Hd) (w : World) (hc : capG M) (hl : M.length = n) (h1 : RG w lo hi A M hs) :
    Calls Try.prog 20 #[.slice A n c, .int .i64 page, .int .i64 cell] w fun e w' => e = .returned (.int .i64 (cellAt M page cell)) ∧ w = w' := by
  have hn : n ≤ 1048576 := hl ▸ hc.len
  have hK := fun V (hV : V = w) => impl_hasC A n c lo hi page cell M hs V hc hl (hV ▸ h1)
  cases hv : hasCB M page cell
  · rw [hv] at hK
    rw [cellAt_no hv]
    have HK := Lib.hid hK
    clear hK hc hl h1 hv
    go_enter Try.func20, Try.ntmps20
    go_wp2_with fail
    refine (HK.out _ rfl).mono ?_
    rintro e w' ⟨rfl, rfl⟩
    go_wp2_with fail
    go_ret
    exact ⟨rfl, rfl⟩
  · rw [hv] at hK
    obtain ⟨k, j, rfl, rfl, hkl, hj⟩ := hasCB_yes hv
    rw [cellAt_yes hv hkl hj]
    obtain ⟨b, off, B, c', rfl, _, hbw, c1, hB⟩ := h1.page k hkl
    obtain ⟨b', off', rfl, _, hbw', c2⟩ := int_at hB j hj
    have hm := hc.at_ hkl
    have HK := Lib.hid hK
    have hk : k < n := by omega
    generalize M[k][j] = x at c2 ⊢
    clear hK hc hl h1 hv hB
    generalize M[k] = r at c1 hm hj
    go_enter Try.func20, Try.ntmps20
    go_wp2_with fail
    refine (HK.out _ rfl).mono ?_
    rintro e w' ⟨rfl, rfl⟩
    go_wp2_with fail
    go_ret
    exact ⟨rfl, rfl⟩

set_option maxHeartbeats 1000000 in
theorem spec_cellAt (A : Option Addr) (n c lo hi : Nat) (page cell : Int) (M : List (List Int)) (hs : List Hd) (w : World) (hc : capG M) (hl : M.length = n) (h1 : RG w lo hi A M hs) :
    Calls Try.prog 21 #[.slice A n c, .int .i64 page, .int .i64 cell] w fun e w' => e = .returned (.int .i64 (cellAt M page cell)) ∧ w = w' := by
  have hn : n ≤ 1048576 := hl ▸ hc.len
  have hK := fun V (hV : V = w) => spec_hasC A n c lo hi page cell M hs V hc hl (hV ▸ h1)
  cases hv : hasCB M page cell
  · rw [hv] at hK
    rw [cellAt_no hv]
    have HK := Lib.hid hK
    clear hK hc hl h1 hv
    go_enter Try.func21, Try.ntmps21
    go_wp2_with fail
    refine (HK.out _ rfl).mono ?_
    rintro e w' ⟨rfl, rfl⟩
    go_wp2_with fail
    go_ret
    exact ⟨rfl, rfl⟩
  · rw [hv] at hK
    obtain ⟨k, j, rfl, rfl, hkl, hj⟩ := hasCB_yes hv
    rw [cellAt_yes hv hkl hj]
    obtain ⟨b, off, B, c', rfl, _, hbw, c1, hB⟩ := h1.page k hkl
    obtain ⟨b', off', rfl, _, hbw', c2⟩ := int_at hB j hj
    have hm := hc.at_ hkl
    have HK := Lib.hid hK
    have hk : k < n := by omega
    generalize M[k][j] = x at c2 ⊢
    clear hK hc hl h1 hv hB
    generalize M[k] = r at c1 hm hj
    go_enter Try.func21, Try.ntmps21
    go_wp2_with fail
    refine (HK.out _ rfl).mono ?_
    rintro e w' ⟨rfl, rfl⟩
    go_wp2_with fail
    go_ret
    exact ⟨rfl, rfl⟩

set_option maxHeartbeats 1000000 in
theorem impl_pageOk (A : Option Addr) (n c lo hi : Nat) (l : List Int) (w : World) (hn : n ≤ 1048576) (hl : l.length = n) (h1 : Lies w lo hi A (ncells l)) :
    Calls Try.prog 35 #[.slice A n c] w fun e w' => e = .returned (.bool (pageB l)) ∧ w = w' := by
  have H1 := Lib.hid h1
  have HL := Lib.hid hl
  clear h1 hl
  by_cases hsz : (n : Int) = 4
  · have hn4 : n = 4 := by omega
    subst hn4
    go_enter Try.func35, Try.ntmps35
    go_wp2
    go_loop [4, 10] (fun _ i => ∃ (k : Nat), k ≤ 4 ∧ i = .int .i64 k ∧ (l.take k).all cellB = true) (fun _ i => 4 - (intOf i).toNat)
    case atStart => exact ⟨0, Nat.zero_le _, rfl, rfl⟩
    case round =>
      obtain ⟨k, hk, rfl, ht⟩ := hrel
      have HT := Lib.hid ht
      clear ht
      by_cases hlt : k < 4
      · have hkl : k < l.length := by have := HL.out; omega
        obtain ⟨b, off, rfl, _, hbw, c1⟩ := int_at H1.out k hkl
        have hi0 : (0 : Int) ≤ (k : Int) := Int.natCast_nonneg _
        have hi1 : (k : Int) < 4 := by omega
        have hK := fun V : World => impl_cellOk l[k] V
        have hs := all_snoc cellB l k hkl HT.out
        have hf := all_stop cellB l k hkl
        generalize l[k] = x at c1 hK hs hf
        cases hv : cellB x
        · rw [hv] at hK
          have HK := Lib.hid hK
          have HF := Lib.hid (hf hv)
          clear hK hf hs hv
          go_wp2_with fail
          refine (HK.out _).mono ?_
          rintro e w1 ⟨rfl, rfl⟩
          go_wp2_with fail
          go_ret
          exact ⟨by rw [pageB, cellsB, HF.out]; rfl, rfl⟩
        · rw [hv] at hK hs
          have HK := Lib.hid hK
          have HS := Lib.hid hs
          clear hK hf hs hv
          go_wp2_with fail
          refine (HK.out _).mono ?_
          rintro e w1 ⟨rfl, rfl⟩
          go_wp2_with fail
          go_round
          case rel => exact ⟨k + 1, by omega, by go_num, HS.out⟩
          case measure => simp [intOf]; omega
      · have hkn : k = 4 := by omega
        subst hkn
        have ht := HT.out
        rw [List.take_of_length_le (by have := HL.out; omega)] at ht
        have HT := Lib.hid ht
        clear ht
        go_wp2_with fail
        go_ret
        exact ⟨by rw [pageB, cellsB, HT.out, HL.out]; rfl, rfl⟩
  · have hd : ((n : Int) == 4) = false := by simpa using hsz
    have hd' : ((n : Int) != 4) = true := by simpa using hsz
    have hne : ¬ n = 4 := by omega
    go_enter Try.func35, Try.ntmps35
    go_wp2
    go_ret
    exact ⟨by rw [pageB, HL.out, decide_eq_false hsz, Bool.and_false]; rfl, rfl⟩

set_option maxHeartbeats 1000000 in
theorem spec_pageOk (A : Option Addr) (n c lo hi : Nat) (l : List Int) (w : World) (hn : n ≤ 1048576) (hl : l.length = n) (h1 : Lies w lo hi A (ncells l)) :
    Calls Try.prog 36 #[.slice A n c] w fun e w' => e = .returned (.bool (pageB l)) ∧ w = w' := by
  have H1 := Lib.hid h1
  have HL := Lib.hid hl
  clear h1 hl
  go_enter Try.func36, Try.ntmps36
  go_wp2
  go_loop [3] (fun i => ∃ (k : Nat), k ≤ n ∧ i = .int .i64 k ∧ (l.take k).all cellB = true) (fun i => n - (intOf i).toNat)
  case atStart => exact ⟨0, Nat.zero_le _, rfl, rfl⟩
  case round =>
    obtain ⟨k, hk, rfl, ht⟩ := hrel
    have HT := Lib.hid ht
    clear ht
    by_cases hlt : k < n
    · have hkl : k < l.length := by have := HL.out; omega
      obtain ⟨b, off, rfl, _, hbw, c1⟩ := int_at H1.out k hkl
      have hi0 : (0 : Int) ≤ (k : Int) := Int.natCast_nonneg _
      have hi1 : (k : Int) < n := by omega
      have hK := fun V : World => spec_in l[k] 0 99 V
      have hs := all_snoc cellB l k hkl HT.out
      have hf := all_stop cellB l k hkl
      generalize l[k] = x at c1 hK hs hf
      cases hv : inB x 0 99
      · rw [hv] at hK
        have HK := Lib.hid hK
        have HF := Lib.hid (hf hv)
        clear hK hf hs hv
        go_wp2_with fail
        refine (HK.out _).mono ?_
        rintro e w1 ⟨rfl, rfl⟩
        go_wp2_with fail
        go_ret
        exact ⟨by rw [pageB, cellsB, HF.out]; rfl, rfl⟩
      · rw [hv] at hK
        rw [show cellB x = true from hv] at hs
        have HK := Lib.hid hK
        have HS := Lib.hid hs
        clear hK hf hs hv
        go_wp2_with fail
        refine (HK.out _).mono ?_
        rintro e w1 ⟨rfl, rfl⟩
        go_wp2_with fail
        go_round
        case rel => exact ⟨k + 1, by omega, by go_num, HS.out⟩
        case measure => simp [intOf]; omega
    · have hkn : k = n := by omega
      subst hkn
      have ht := HT.out
      rw [List.take_of_length_le (by have := HL.out; omega)] at ht
      have HT := Lib.hid ht
      clear ht
      go_wp2_with fail
      go_ret
      exact ⟨by rw [pageB, cellsB, HT.out, HL.out, Bool.true_and]; rfl, rfl⟩

set_option maxHeartbeats 1000000 in
theorem impl_memOk (A : Option Addr) (n c lo hi : Nat) (pages : Int) (M : List (List Int)) (hs : List Hd) (w : World) (hc : capG M) (hl : M.length = n) (h1 : RG w lo hi A M hs) :
    Calls Try.prog 33 #[.slice A n c, .int .i64 pages] w fun e w' => e = .returned (.bool (memB M pages)) ∧ w = w' := by
  have hn : n ≤ 1048576 := hl ▸ hc.len
  have HC := Lib.hid hc
  have H1 := Lib.hid h1
  have HL := Lib.hid hl
  clear h1 hl hc
  by_cases hsz : (n : Int) = pages
  · subst hsz
    go_enter Try.func33, Try.ntmps33
    go_wp2
    go_loop [6, 13] (fun _ i => ∃ (k : Nat), k ≤ n ∧ i = .int .i64 k ∧ (M.take k).all pageB = true) (fun _ i => n - (intOf i).toNat)
    case atStart => exact ⟨0, Nat.zero_le _, rfl, rfl⟩
    case round =>
      obtain ⟨k, hk, rfl, ht⟩ := hrel
      have HT := Lib.hid ht
      clear ht
      by_cases hlt : k < n
      · have hkl : k < M.length := by have := HL.out; omega
        obtain ⟨b, off, B, c', rfl, _, hbw, c1, hB⟩ := H1.out.page k hkl
        have hi0 : (0 : Int) ≤ (k : Int) := Int.natCast_nonneg _
        have hi1 : (k : Int) < n := by omega
        have hK := impl_pageOk B M[k].length c' lo hi M[k] w (HC.out.at_ hkl) rfl hB
        have hs := all_snoc pageB M k hkl HT.out
        have hf := all_stop pageB M k hkl
        clear hB
        generalize M[k] = x at c1 hK hs hf
        cases hv : pageB x
        · rw [hv] at hK
          have HK := Lib.hid hK
          have HF := Lib.hid (hf hv)
          clear hK hf hs hv
          go_wp2_with fail
          refine (HK.out).mono ?_
          rintro e w1 ⟨rfl, rfl⟩
          go_wp2_with fail
          go_ret
          exact ⟨by rw [memB, pagesB, HF.out]; rfl, rfl⟩
        · rw [hv] at hK hs
          have HK := Lib.hid hK
          have HS := Lib.hid hs
          clear hK hf hs hv
          go_wp2_with fail
          refine (HK.out).mono ?_
          rintro e w1 ⟨rfl, rfl⟩
          go_wp2_with fail
          go_round
          case rel => exact ⟨k + 1, by omega, by go_num, HS.out⟩
          case measure => simp [intOf]; omega
      · have hkn : k = n := by omega
        subst hkn
        have ht := HT.out
        rw [List.take_of_length_le (by have := HL.out; omega)] at ht
        have HT := Lib.hid ht
        clear ht
        go_wp2_with fail
        go_ret
        exact ⟨by rw [memB, pagesB, HT.out, HL.out]; simp, rfl⟩
  · have hd : ((n : Int) == pages) = false := by simpa using hsz
    have hd' : ((n : Int) != pages) = true := by simpa using hsz
    go_enter Try.func33, Try.ntmps33
    go_wp2
    go_ret
    exact ⟨by rw [memB, HL.out, decide_eq_false hsz, Bool.and_false]; rfl, rfl⟩

set_option maxHeartbeats 1000000 in
theorem spec_memOk (A : Option Addr) (n c lo hi : Nat) (pages : Int) (M : List (List Int)) (hs : List Hd) (w : World) (hc : capG M) (hl : M.length = n) (h1 : RG w lo hi A M hs) :
    Calls Try.prog 34 #[.slice A n c, .int .i64 pages] w fun e w' => e = .returned (.bool (memB M pages)) ∧ w = w' := by
  have hn : n ≤ 1048576 := hl ▸ hc.len
  have HC := Lib.hid hc
  have H1 := Lib.hid h1
  have HL := Lib.hid hl
  clear h1 hl hc
  go_enter Try.func34, Try.ntmps34
  go_wp2
  go_loop [5] (fun i => ∃ (k : Nat), k ≤ n ∧ i = .int .i64 k ∧ (M.take k).all pageB = true) (fun i => n - (intOf i).toNat)
  case atStart => exact ⟨0, Nat.zero_le _, rfl, rfl⟩
  case round =>
    obtain ⟨k, hk, rfl, ht⟩ := hrel
    have HT := Lib.hid ht
    clear ht
    by_cases hlt : k < n
    · have hkl : k < M.length := by have := HL.out; omega
      obtain ⟨b, off, B, c', rfl, _, hbw, c1, hB⟩ := H1.out.page k hkl
      have hi0 : (0 : Int) ≤ (k : Int) := Int.natCast_nonneg _
      have hi1 : (k : Int) < n := by omega
      have hK := spec_pageOk B M[k].length c' lo hi M[k] w (HC.out.at_ hkl) rfl hB
      have hs := all_snoc pageB M k hkl HT.out
      have hf := all_stop pageB M k hkl
      clear hB
      generalize M[k] = x at c1 hK hs hf
      cases hv : pageB x
      · rw [hv] at hK
        have HK := Lib.hid hK
        have HF := Lib.hid (hf hv)
        clear hK hf hs hv
        go_wp2_with fail
        refine (HK.out).mono ?_
        rintro e w1 ⟨rfl, rfl⟩
        go_wp2_with fail
        go_ret
        exact ⟨by rw [memB, pagesB, HF.out]; rfl, rfl⟩
      · rw [hv] at hK hs
        have HK := Lib.hid hK
        have HS := Lib.hid hs
        clear hK hf hs hv
        go_wp2_with fail
        refine (HK.out).mono ?_
        rintro e w1 ⟨rfl, rfl⟩
        go_wp2_with fail
        go_round
        case rel => exact ⟨k + 1, by omega, by go_num, HS.out⟩
        case measure => simp [intOf]; omega
    · have hkn : k = n := by omega
      subst hkn
      have ht := HT.out
      rw [List.take_of_length_le (by have := HL.out; omega)] at ht
      have HT := Lib.hid ht
      clear ht
      go_wp2_with fail
      go_ret
      exact ⟨by rw [memB, pagesB, HT.out, HL.out, Bool.true_and]; rfl, rfl⟩
end Go.Proofs.Ytkbcmeachfplnaa.Grid
