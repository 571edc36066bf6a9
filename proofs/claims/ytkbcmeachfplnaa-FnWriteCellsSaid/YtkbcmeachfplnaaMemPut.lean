/-
  Memory: contracts of PageAt, WithCell and WithPage (the project's and the given model's). No condition beyond a memory's size.
-/
import Derived.Test.YtkbcmeachfplnaaMemSet
namespace Go.Proofs.Ytkbcmeachfplnaa.Grid
open Go.ChangeShapes Go.WideShapes Go.ChangeAt Go.RowKit
open Go.Proofs.Ytkbcmeachfplnaa.Base Go.Proofs.Ytkbcmeachfplnaa.Mem Go.Proofs.Ytkbcmeachfplnaa.Ints
set_option linter.unusedVariables false

theorem pageAt_no {M : List (List Int)} {page : Int} (h : hasPB M.length page = false) : pageAt M page = zero4 := by rw [pageAt, h]; rfl
theorem pageAt_yes {M : List (List Int)} {k : Nat} (hk : k < M.length) : pageAt M (k : Int) = M[k] := by rw [pageAt, if_pos (hasPB_mk hk), getD_at hk]

set_option maxHeartbeats 1000000 in
theorem impl_pageAt (A : Option Addr) (n c lo : Nat) (page : Int) (M : List (List Int)) (hs : List Hd) (w : World) (hc : capG M) (hl : M.length = n) (h1 : RG w lo w.heap.size A M hs) :
    Calls Try.prog 31 #[.slice A n c, .int .i64 page] w (IPost w (pageAt M page)) := by
  have hn : n ≤ 1048576 := hl ▸ hc.len
  have hK := fun V : World => impl_hasP A n c page V hn
  cases hp : hasPB n page
  · rw [hp] at hK
    rw [pageAt_no (by rw [hl]; exact hp)]
    have HK := Lib.hid hK
    obtain ⟨w1, hm, ho1, hb1⟩ := make4 w
    have HF := Lib.hid (And.intro ho1 hb1)
    clear hK hc hl h1 hp ho1 hb1
    go_enter Try.func31, Try.ntmps31
    go_wp2_with fail
    refine (HK.out _).mono ?_
    rintro e w' ⟨rfl, rfl⟩
    go_wp2_with fail
    go_ret
    exact ⟨_, _, _, rfl, rfl, HF.out.1, HF.out.2⟩
  · rw [hp] at hK
    obtain ⟨k, rfl, hk⟩ := hasPB_yes hp
    have hkl : k < M.length := by omega
    obtain ⟨b, off, B, c', rfl, _, hbw, c1, hB⟩ := h1.page k hkl
    rw [pageAt_yes hkl]
    have hC := impl_copyPage B M[k].length c' lo M[k] w (hc.at_ hkl) rfl hB
    have HK := Lib.hid hK
    clear hK hc hl h1 hp hB
    generalize M[k] = r at c1 hC ⊢
    have HC := Lib.hid hC
    clear hC
    have hq0 : (0 : Int) ≤ (k : Int) := Int.natCast_nonneg _
    have hq1 : (k : Int) < (n : Int) := by omega
    go_enter Try.func31, Try.ntmps31
    go_wp2_with fail
    refine (HK.out _).mono ?_
    rintro e w' ⟨rfl, rfl⟩
    go_wp2_with fail
    refine (HC.out).mono ?_
    rintro e w' ⟨A1, n1, c1, rfl, hl1, ho1, hb1⟩
    have HF := Lib.hid (And.intro hl1 (And.intro ho1 hb1))
    clear hl1 ho1 hb1
    go_wp2_with fail
    go_ret
    exact ⟨_, _, _, rfl, HF.out.1, HF.out.2.1, HF.out.2.2⟩

set_option maxHeartbeats 1000000 in
theorem spec_pageAt (A : Option Addr) (n c lo : Nat) (page : Int) (M : List (List Int)) (hs : List Hd) (w : World) (hc : capG M) (hl : M.length = n) (h1 : RG w lo w.heap.size A M hs) :
    Calls Try.prog 32 #[.slice A n c, .int .i64 page] w (IPost w (pageAt M page)) := by
  obtain ⟨i0, hi0, hz0, hz1, hz2⟩ := info_parts Try.infoInt
  have hn : n ≤ 1048576 := hl ▸ hc.len
  have hK := fun V : World => spec_in page 0 ((n : Int) - 1) V
  cases hp : hasPB n page
  · rw [show inB page 0 ((n : Int) - 1) = false from hp] at hK
    rw [pageAt_no (by rw [hl]; exact hp)]
    have HK := Lib.hid hK
    obtain ⟨w1, hm, ho1, hb1⟩ := make4 w
    have HF := Lib.hid (And.intro ho1 hb1)
    clear hK hc hl h1 hp ho1 hb1
    go_enter Try.func32, Try.ntmps32
    go_wp2_with fail
    refine (HK.out _).mono ?_
    rintro e w' ⟨rfl, rfl⟩
    go_wp2_with fail
    go_ret
    exact ⟨_, _, _, rfl, rfl, HF.out.1, HF.out.2⟩
  · rw [show inB page 0 ((n : Int) - 1) = true from hp] at hK
    obtain ⟨k, rfl, hk⟩ := hasPB_yes hp
    have hkl : k < M.length := by omega
    obtain ⟨b, off, B, c', rfl, _, hbw, c1, hB⟩ := h1.page k hkl
    rw [pageAt_yes hkl]
    have hr := hc.at_ hkl
    have HK := Lib.hid hK
    have HS := Lib.hid (src_alloc hB (.cells #[] 3))
    have hbN : b ≠ w.heap.size := by omega
    clear hK hc hl h1 hp hB
    generalize M[k] = r at c1 hr HS ⊢
    have HE := Lib.hid (ncells_len r)
    have HM := Lib.hid (World.ownsRow_made (e := 3) (size := 1) w #[] 0 (Nat.le_refl _) (Nat.zero_le _) rfl)
    have hq0 : (0 : Int) ≤ (k : Int) := Int.natCast_nonneg _
    have hq1 : (k : Int) < (n : Int) := by omega
    go_enter Try.func32, Try.ntmps32
    go_wp2_with (first | (go_at_call 60; refine (HK.out _).mono ?_; rintro e w' ⟨rfl, rfl⟩) | (at_builtin; refine wpList_append_fresh _ rfl (.tmp 12) (.tmp 16) 32 rfl w.heap.size 3 i0 _ 1 8 Try.underlying32 hi0 hz0 hz1 hz2 rfl (by omega) w.heap.size rfl HM.out B r.length c' (ncells r) rfl (by rw [HE.out, Nat.mul_one]) HS.out (ncells_one r) (by simp only [maxLen]; omega) (by omega) (by simp) ?_; intro g1 cap1 w1 hown1 hg1; obtain ⟨ho1, hb1⟩ := fresh_page hown1 hg1; have HF := Lib.hid (And.intro ho1 hb1); clear hown1 hg1 ho1 hb1))
    go_ret
    exact ⟨_, _, _, rfl, rfl, HF.out.1, HF.out.2⟩

theorem withC_no {M : List (List Int)} {page cell v : Int} (h : hasCB M page cell = false ∨ cellB v = false) : withC M page cell v = M := by
  unfold withC
  rw [if_neg]
  rcases h with h | h <;> simp [h]
theorem withC_yes {M : List (List Int)} {k j : Nat} {v : Int} (h : hasCB M (k : Int) (j : Int) = true) (hv : cellB v = true) (hk : k < M.length) : withC M (k : Int) (j : Int) v = M.set k (M[k].set j v) := by
  unfold withC
  rw [if_pos ⟨h, hv⟩, getD_at hk, Int.toNat_natCast, Int.toNat_natCast]
theorem withP_no {M : List (List Int)} {page : Int} {l : List Int} (h : hasPB M.length page = false ∨ pageB l = false) : withP M page l = M := by
  unfold withP
  rw [if_neg]
  rcases h with h | h <;> simp [h]
theorem withP_yes {M : List (List Int)} {k : Nat} {l : List Int} (hk : k < M.length) (hv : pageB l = true) : withP M (k : Int) l = M.set k l := by
  unfold withP
  rw [if_pos ⟨hasPB_mk hk, hv⟩, Int.toNat_natCast]

/-- A cell of a memory of one's own is written. -/
theorem OG.cell {w : World} {lo hi : Nat} {A : Option Addr} {M : List (List Int)} {hs : List Hd} (h : OG w lo hi A M hs) (hh : hi ≤ w.heap.size) (k j : Nat) (hk : k < M.length) (hj : j < M[k].length) :
    ∃ b off b' off' c, A = some ⟨b, off, none⟩ ∧ b < hi ∧ w.cell? ⟨b, off + k, none⟩ = some (.slice (some ⟨b', off', none⟩) M[k].length c) ∧ (∃ u, w.cell? ⟨b', off' + j, none⟩ = some u) ∧ w.frozen? ⟨b', off' + j, none⟩ = false ∧
      ∀ v : Int, OG (w.setCell ⟨b', off' + j, none⟩ (.int .i64 v)) lo hi A (M.set k (M[k].set j v)) hs ∧ Turned lo hi w (w.setCell ⟨b', off' + j, none⟩ (.int .i64 v)) := by
  obtain ⟨b, off, B, c, lo', hi', e, hb, hc, ho, hn⟩ := h.write hh k hk
  obtain ⟨b', off', rfl, x, y, c2⟩ := int_at ho.1 j hj
  refine ⟨b, off, b', off', c, e, hb, hc, ⟨_, c2⟩, ho.2 _ _ rfl (by rw [ncells_len]; omega) _, fun v => ?_⟩
  have h1 := ho.set j (.int .i64 v)
  rw [ncells_set] at h1
  exact hn _ _ (by simp) h1 ((Turned.refl lo' hi' w).setCell x y _)

set_option maxHeartbeats 2000000 in
theorem impl_withC (A : Option Addr) (n c lo : Nat) (page cell v : Int) (M : List (List Int)) (hs : List Hd) (w : World) (hc : capG M) (hl : M.length = n) (h1 : RG w lo w.heap.size A M hs) :
    Calls Try.prog 16 #[.slice A n c, .int .i64 page, .int .i64 cell, .int .i64 v] w (GPost w (withC M page cell v)) := by
  have hn : n ≤ 1048576 := hl ▸ hc.len
  have HK := Lib.hid (impl_copyMem A n c lo M hs w hc hl h1)
  have hH := fun (B : Option Addr) (n c lo hi : Nat) (gs : List Hd) (V : World) => impl_hasC B n c lo hi page cell M gs V hc
  have hO := fun (V : World) => impl_cellOk v V
  cases hv : hasCB M page cell
  · rw [withC_no (.inl hv)]
    rw [hv] at hH
    have HH := Lib.hid hH
    clear hH hO hv hc hl h1
    go_enter Try.func16, Try.ntmps16
    go_wp2_with fail
    refine (HK.out).mono ?_
    rintro e w1 ⟨A1, n1, c1, gs, rfl, hl1, ho1, hb1⟩
    have HF := Lib.hid (And.intro hl1 (And.intro ho1 hb1))
    clear hl1 ho1 hb1
    go_wp2_with fail
    refine (HH.out _ _ _ _ _ _ _ HF.out.1 HF.out.2.1.rg).mono ?_
    rintro e w' ⟨rfl, rfl⟩
    go_wp2_with fail
    go_ret
    exact ⟨_, _, _, _, rfl, HF.out.1, HF.out.2.1, HF.out.2.2⟩
  · rw [hv] at hH
    have HH := Lib.hid hH
    clear hH
    cases hw : cellB v
    · rw [withC_no (.inr hw)]
      rw [hw] at hO
      have HO := Lib.hid hO
      clear hO hv hw hc hl h1
      go_enter Try.func16, Try.ntmps16
      go_wp2_with fail
      refine (HK.out).mono ?_
      rintro e w1 ⟨A1, n1, c1, gs, rfl, hl1, ho1, hb1⟩
      have HF := Lib.hid (And.intro hl1 (And.intro ho1 hb1))
      clear hl1 ho1 hb1
      go_wp2_with fail
      refine (HH.out _ _ _ _ _ _ _ HF.out.1 HF.out.2.1.rg).mono ?_
      rintro e w' ⟨rfl, rfl⟩
      go_wp2_with fail
      refine (HO.out _).mono ?_
      rintro e w' ⟨rfl, rfl⟩
      go_wp2_with fail
      go_ret
      exact ⟨_, _, _, _, rfl, HF.out.1, HF.out.2.1, HF.out.2.2⟩
    · obtain ⟨k, j, rfl, rfl, hk, hj⟩ := hasCB_yes hv
      rw [withC_yes hv hw hk]
      obtain ⟨N, hN⟩ : ∃ N, N = M.set k (M[k].set j v) := ⟨_, rfl⟩
      rw [← hN]
      have HN := Lib.hid hN
      rw [hw] at hO
      have HO := Lib.hid hO
      have HL := Lib.hid (show N.length = n by rw [hN, List.length_set]; exact hl)
      have HE := Lib.hid hl
      have hkn : k < n := by omega
      have hr := hc.at_ hk
      clear hO hv hw hc hl h1 hN
      go_enter Try.func16, Try.ntmps16
      go_wp2_with fail
      refine (HK.out).mono ?_
      rintro e w1 ⟨A1, n1, c1, gs, rfl, hl1, ho1, hb1⟩
      obtain rfl : n1 = n := by have := HE.out; omega
      have HF := Lib.hid (And.intro hl1 (And.intro ho1 hb1))
      obtain ⟨b, off, b', off', c2, rfl, _, d1, ⟨u1, d2⟩, f1, hst⟩ := ho1.cell (Nat.le_refl _) k j hk hj
      have hst' := hst v
      rw [← HN.out] at hst'
      have HS := Lib.hid hst'
      have hbs := hb1.size
      clear hl1 ho1 hb1 hst hst'
      generalize M[k] = r at d1 hj hr
      go_wp2_with fail
      refine (HH.out _ _ _ _ _ _ _ HF.out.1 HF.out.2.1.rg).mono ?_
      rintro e w' ⟨rfl, rfl⟩
      go_wp2_with fail
      refine (HO.out _).mono ?_
      rintro e w' ⟨rfl, rfl⟩
      go_wp2_with fail
      go_ret
      exact ⟨_, _, _, _, rfl, HL.out, by simpa using HS.out.1, HF.out.2.2.trans (HS.out.2.below (Nat.le_refl _) hbs)⟩

set_option maxHeartbeats 2000000 in
theorem spec_withC (A : Option Addr) (n c lo : Nat) (page cell v : Int) (M : List (List Int)) (hs : List Hd) (w : World) (hc : capG M) (hl : M.length = n) (h1 : RG w lo w.heap.size A M hs) :
    Calls Try.prog 19 #[.slice A n c, .int .i64 page, .int .i64 cell, .int .i64 v] w (GPost w (withC M page cell v)) := by
  have hn : n ≤ 1048576 := hl ▸ hc.len
  have HK := Lib.hid (spec_copyMem A n c lo M hs w hc hl h1)
  have hH := fun (V : World) (hV : Below w.heap.size w V) => spec_hasC A n c lo w.heap.size page cell M hs V hc hl (h1.below hV (Nat.le_refl _))
  have hO := fun (V : World) => spec_in v 0 99 V
  cases hv : hasCB M page cell
  · rw [withC_no (.inl hv)]
    rw [hv] at hH
    have HH := Lib.hid hH
    clear hH hO hv hc hl h1
    go_enter Try.func19, Try.ntmps19
    go_wp2_with fail
    refine (HK.out).mono ?_
    rintro e w1 ⟨A1, n1, c1, gs, rfl, hl1, ho1, hb1⟩
    have HF := Lib.hid (And.intro hl1 (And.intro ho1 hb1))
    clear hl1 ho1 hb1
    go_wp2_with fail
    refine (HH.out _ HF.out.2.2).mono ?_
    rintro e w' ⟨rfl, rfl⟩
    go_wp2_with fail
    go_ret
    exact ⟨_, _, _, _, rfl, HF.out.1, HF.out.2.1, HF.out.2.2⟩
  · rw [hv] at hH
    have HH := Lib.hid hH
    clear hH
    cases hw : cellB v
    · rw [withC_no (.inr hw)]
      rw [show inB v 0 99 = false from hw] at hO
      have HO := Lib.hid hO
      clear hO hv hw hc hl h1
      go_enter Try.func19, Try.ntmps19
      go_wp2_with fail
      refine (HK.out).mono ?_
      rintro e w1 ⟨A1, n1, c1, gs, rfl, hl1, ho1, hb1⟩
      have HF := Lib.hid (And.intro hl1 (And.intro ho1 hb1))
      clear hl1 ho1 hb1
      go_wp2_with fail
      refine (HH.out _ HF.out.2.2).mono ?_
      rintro e w' ⟨rfl, rfl⟩
      go_wp2_with fail
      refine (HO.out _).mono ?_
      rintro e w' ⟨rfl, rfl⟩
      go_wp2_with fail
      go_ret
      exact ⟨_, _, _, _, rfl, HF.out.1, HF.out.2.1, HF.out.2.2⟩
    · obtain ⟨k, j, rfl, rfl, hk, hj⟩ := hasCB_yes hv
      rw [withC_yes hv hw hk]
      obtain ⟨N, hN⟩ : ∃ N, N = M.set k (M[k].set j v) := ⟨_, rfl⟩
      rw [← hN]
      have HN := Lib.hid hN
      rw [show inB v 0 99 = true from hw] at hO
      have HO := Lib.hid hO
      have HL := Lib.hid (show N.length = n by rw [hN, List.length_set]; exact hl)
      have HE := Lib.hid hl
      have hkn : k < n := by omega
      have hr := hc.at_ hk
      clear hO hv hw hc hl h1 hN
      go_enter Try.func19, Try.ntmps19
      go_wp2_with fail
      refine (HK.out).mono ?_
      rintro e w1 ⟨A1, n1, c1, gs, rfl, hl1, ho1, hb1⟩
      obtain rfl : n1 = n := by have := HE.out; omega
      have HF := Lib.hid (And.intro hl1 (And.intro ho1 hb1))
      obtain ⟨b, off, b', off', c2, rfl, _, d1, ⟨u1, d2⟩, f1, hst⟩ := ho1.cell (Nat.le_refl _) k j hk hj
      have hst' := hst v
      rw [← HN.out] at hst'
      have HS := Lib.hid hst'
      have hbs := hb1.size
      clear hl1 ho1 hb1 hst hst'
      generalize M[k] = r at d1 hj hr
      go_wp2_with fail
      refine (HH.out _ HF.out.2.2).mono ?_
      rintro e w' ⟨rfl, rfl⟩
      go_wp2_with fail
      refine (HO.out _).mono ?_
      rintro e w' ⟨rfl, rfl⟩
      go_wp2_with fail
      go_ret
      exact ⟨_, _, _, _, rfl, HL.out, by simpa using HS.out.1, HF.out.2.2.trans (HS.out.2.below (Nat.le_refl _) hbs)⟩

set_option maxHeartbeats 2000000 in
theorem impl_withP (A : Option Addr) (n c lo : Nat) (page : Int) (M : List (List Int)) (hs : List Hd) (B : Option Addr) (m d lo' : Nat) (l : List Int) (w : World) (hc : capG M) (hl : M.length = n) (h1 : RG w lo w.heap.size A M hs) (hm : m ≤ 1048576) (hq : l.length = m) (h2 : Lies w lo' w.heap.size B (ncells l)) :
    Calls Try.prog 23 #[.slice A n c, .int .i64 page, .slice B m d] w (GPost w (withP M page l)) := by
  have hn : n ≤ 1048576 := hl ▸ hc.len
  have HK := Lib.hid (impl_copyMem A n c lo M hs w hc hl h1)
  have hH := fun (A : Option Addr) (c : Nat) (V : World) => impl_hasP A n c page V hn
  have hO := fun (V : World) (hV : Below w.heap.size w V) => impl_pageOk B m d lo' w.heap.size l V hm hq (h2.below hV (Nat.le_refl _))
  have HE := Lib.hid hl
  cases hv : hasPB n page
  · rw [withP_no (.inl (by rw [hl]; exact hv))]
    rw [hv] at hH
    have HH := Lib.hid hH
    clear hH hO hv hc hl h1
    go_enter Try.func23, Try.ntmps23
    go_wp2_with fail
    refine (HK.out).mono ?_
    rintro e w1 ⟨A1, n1, c1, gs, rfl, hl1, ho1, hb1⟩
    obtain rfl : n1 = n := by have := HE.out; omega
    have HF := Lib.hid (And.intro hl1 (And.intro ho1 hb1))
    clear hl1 ho1 hb1
    go_wp2_with fail
    refine (HH.out _ _ _).mono ?_
    rintro e w' ⟨rfl, rfl⟩
    go_wp2_with fail
    go_ret
    exact ⟨_, _, _, _, rfl, HF.out.1, HF.out.2.1, HF.out.2.2⟩
  · rw [hv] at hH
    have HH := Lib.hid hH
    clear hH
    cases hw : pageB l
    · rw [withP_no (.inr hw)]
      rw [hw] at hO
      have HO := Lib.hid hO
      clear hO hv hw hc hl h1
      go_enter Try.func23, Try.ntmps23
      go_wp2_with fail
      refine (HK.out).mono ?_
      rintro e w1 ⟨A1, n1, c1, gs, rfl, hl1, ho1, hb1⟩
      obtain rfl : n1 = n := by have := HE.out; omega
      have HF := Lib.hid (And.intro hl1 (And.intro ho1 hb1))
      clear hl1 ho1 hb1
      go_wp2_with fail
      refine (HH.out _ _ _).mono ?_
      rintro e w' ⟨rfl, rfl⟩
      go_wp2_with fail
      refine (HO.out _ HF.out.2.2).mono ?_
      rintro e w' ⟨rfl, rfl⟩
      go_wp2_with fail
      go_ret
      exact ⟨_, _, _, _, rfl, HF.out.1, HF.out.2.1, HF.out.2.2⟩
    · obtain ⟨k, rfl, hk⟩ := hasPB_yes hv
      rw [withP_yes (by rw [hl]; exact hk) hw]
      rw [hw] at hO
      have HO := Lib.hid hO
      have HL := Lib.hid (show (M.set k l).length = n by rw [List.length_set]; exact hl)
      have HC := Lib.hid (fun (V : World) (hV : Below w.heap.size w V) => impl_copyPage B m d lo' l V hm hq ((h2.below hV (Nat.le_refl _)).wide (Nat.le_refl _) hV.size))
      clear hO hv hw hc hl h1 hq
      have hq0 : (0 : Int) ≤ (k : Int) := Int.natCast_nonneg _
      have hq1 : (k : Int) < (n : Int) := by omega
      go_enter Try.func23, Try.ntmps23
      go_wp2_with fail
      refine (HK.out).mono ?_
      rintro e w1 ⟨A1, n1, c1, gs, rfl, hl1, ho1, hb1⟩
      obtain rfl : n1 = n := by have := HE.out; omega
      obtain ⟨b, off, rfl, hbl, hbh, _⟩ := ho1.1.1.at_ (by rw [hcells_len ho1.2.1.1, hl1]; omega)
      have hbs := hb1.size
      have HF := Lib.hid (And.intro hl1 (And.intro ho1 hb1))
      clear hl1 ho1 hb1
      go_wp2_with fail
      refine (HH.out _ _ _).mono ?_
      rintro e w' ⟨rfl, rfl⟩
      go_wp2_with fail
      refine (HO.out _ HF.out.2.2).mono ?_
      rintro e w' ⟨rfl, rfl⟩
      go_wp2_with fail
      refine (HC.out _ HF.out.2.2).mono ?_
      rintro e w2 ⟨A2, n2, c2, rfl, hl2, ho2, hb2⟩
      obtain rfl : n2 = l.length := hl2.symm
      have hkM : k < M.length := by rw [HF.out.1]; exact hk
      have ho := (HF.out.2.1.below hb2 (Nat.le_refl _)).put k (k := (A2, c2)) hkM ho2 (Nat.le_refl _) hbs hb2.size
      obtain ⟨j, hj⟩ := hd_at HF.out.2.1.2.1.1 (i := k) hkM
      obtain ⟨b2, off2, e2, _, _, d1⟩ := (HF.out.2.1.below hb2 (Nat.le_refl _)).1.1 k _ (hcells_at (List.getElem?_eq_getElem hkM) hj)
      cases e2
      have f1 := (HF.out.2.1.below hb2 (Nat.le_refl _)).1.2 b off rfl (by rw [hcells_len HF.out.2.1.2.1.1]; omega) (off + k)
      have HG := Lib.hid (And.intro ho (btr HF.out.2.2 hb2))
      clear ho2 hb2 ho
      go_wp2_with fail
      go_ret
      exact ⟨_, _, _, _, rfl, HL.out, by simpa using HG.out.1, HG.out.2.setCell (p := ⟨b, off + k, none⟩) hbl _⟩
end Go.Proofs.Ytkbcmeachfplnaa.Grid
