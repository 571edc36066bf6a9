/-
  Memory: contracts of the given model's WithPage, and of the comparisons of memories (SameMem of the project and of the given model, the law package's sameMem). No condition beyond a memory's size.
-/
import Derived.Test.YtkbcmeachfplnaaMemPut
namespace Go.Proofs.Ytkbcmeachfplnaa.Grid
open Go.ChangeShapes Go.WideShapes Go.ChangeAt Go.RowKit
open Go.Proofs.Ytkbcmeachfplnaa.Base Go.Proofs.Ytkbcmeachfplnaa.Mem Go.Proofs.Ytkbcmeachfplnaa.Ints
set_option linter.unusedVariables false

set_option maxHeartbeats 2000000 in
theorem spec_withP (A : Option Addr) (n c lo : Nat) (page : Int) (M : List (List Int)) (hs : List Hd) (B : Option Addr) (m d lo' : Nat) (l : List Int) (w : World) (hc : capG M) (hl : M.length = n) (h1 : RG w lo w.heap.size A M hs) (hm : m ≤ 1048576) (hq : l.length = m) (h2 : Lies w lo' w.heap.size B (ncells l)) :
    Calls Try.prog 29 #[.slice A n c, .int .i64 page, .slice B m d] w (GPost w (withP M page l)) := by
  obtain ⟨i0, hi0, hz0, hz1, hz2⟩ := info_parts Try.infoInt
  have hn : n ≤ 1048576 := hl ▸ hc.len
  have HK := Lib.hid (spec_copyMem A n c lo M hs w hc hl h1)
  have hH := fun (V : World) => spec_in page 0 ((n : Int) - 1) V
  have hO := fun (V : World) (hV : Below w.heap.size w V) => spec_pageOk B m d lo' w.heap.size l V hm hq (h2.below hV (Nat.le_refl _))
  have HE := Lib.hid hl
  cases hv : hasPB n page
  · rw [withP_no (.inl (by rw [hl]; exact hv))]
    rw [show inB page 0 ((n : Int) - 1) = false from hv] at hH
    have HH := Lib.hid hH
    clear hH hO hv hc hl h1
    go_enter Try.func29, Try.ntmps29
    go_wp2_with fail
    refine (HK.out).mono ?_
    rintro e w1 ⟨A1, n1, c1, gs, rfl, hl1, ho1, hb1⟩
    obtain rfl : n1 = n := by have := HE.out; omega
    have HF := Lib.hid (And.intro hl1 (And.intro ho1 hb1))
    clear hl1 ho1 hb1
    go_wp2_with fail
    refine (HH.out _).mono ?_
    rintro e w' ⟨rfl, rfl⟩
    go_wp2_with fail
    go_ret
    exact ⟨_, _, _, _, rfl, HF.out.1, HF.out.2.1, HF.out.2.2⟩
  · rw [show inB page 0 ((n : Int) - 1) = true from hv] at hH
    have HH := Lib.hid hH
    clear hH
    cases hw : pageB l
    · rw [withP_no (.inr hw)]
      rw [hw] at hO
      have HO := Lib.hid hO
      clear hO hv hw hc hl h1
      go_enter Try.func29, Try.ntmps29
      go_wp2_with fail
      refine (HK.out).mono ?_
      rintro e w1 ⟨A1, n1, c1, gs, rfl, hl1, ho1, hb1⟩
      obtain rfl : n1 = n := by have := HE.out; omega
      have HF := Lib.hid (And.intro hl1 (And.intro ho1 hb1))
      clear hl1 ho1 hb1
      go_wp2_with fail
      refine (HH.out _).mono ?_
      rintro e w' ⟨rfl, rfl⟩
      go_wp2_with fail
      refine (HO.out _ HF.out.2.2).mono ?_
      rintro e w' ⟨rfl, rfl⟩
      go_wp2_with fail
      go_ret
      exact ⟨_, _, _, _, rfl, HF.out.1, HF.out.2.1, HF.out.2.2⟩
    · obtain ⟨k, rfl, hk⟩ := hasPB_yes hv
      rw [withP_yes (by rw [hl]; exact hk) hw]
      rw [hw] at hO
      have HO := Lib.hid hO
      have HL := Lib.hid (show (M.set k l).length = n by rw [List.length_set]; exact hl)
      have HC := Lib.hid (fun (V : World) (hV : Below w.heap.size w V) => src_alloc ((h2.below hV (Nat.le_refl _)).wide (Nat.le_refl lo') hV.size) (.cells #[] 3))
      have HQ := Lib.hid hq
      have HN := Lib.hid (show (ncells l).length = m * 1 by rw [ncells_len, hq, Nat.mul_one])
      have HM := Lib.hid (fun V : World => World.ownsRow_made (e := 3) (size := 1) V #[] 0 (Nat.le_refl _) (Nat.zero_le _) rfl)
      clear hO hv hw hc hl h1 hq
      have hq0 : (0 : Int) ≤ (k : Int) := Int.natCast_nonneg _
      have hq1 : (k : Int) < (n : Int) := by omega
      go_enter Try.func29, Try.ntmps29
      go_wp2_with fail
      refine (HK.out).mono ?_
      rintro e w1 ⟨A1, n1, c1, gs, rfl, hl1, ho1, hb1⟩
      obtain rfl : n1 = n := by have := HE.out; omega
      obtain ⟨b, off, rfl, hbl, hbh, _⟩ := ho1.1.1.at_ (by rw [hcells_len ho1.2.1.1, hl1]; omega)
      have hbs := hb1.size
      have hkM : k < M.length := by rw [hl1]; exact hk
      have HF := Lib.hid (And.intro hl1 (And.intro ho1 hb1))
      clear hl1 ho1 hb1
      go_wp2_with fail
      refine (HH.out _).mono ?_
      rintro e w' ⟨rfl, rfl⟩
      go_wp2_with fail
      refine (HO.out _ HF.out.2.2).mono ?_
      rintro e w' ⟨rfl, rfl⟩
      go_wp2_with (at_builtin; refine wpList_append_fresh _ rfl (.tmp 21) (.tmp 22) 32 rfl w1.heap.size 3 i0 _ 1 8 Try.underlying32 hi0 hz0 hz1 hz2 rfl (by omega) w1.heap.size rfl (HM.out w1) B m d (ncells l) rfl HN.out (HC.out w1 HF.out.2.2) (ncells_one l) (by simp only [maxLen]; omega) (by omega) (by simp) ?_; intro g1 cap1 w2 hown1 hg1; obtain ⟨ho2, hb2⟩ := fresh_page hown1 hg1; have ho := (HF.out.2.1.below hb2 (Nat.le_refl _)).put k (k := (some ⟨g1, 0, none⟩, cap1)) hkM ho2 (Nat.le_refl _) hbs hb2.size; obtain ⟨j, hj⟩ := hd_at HF.out.2.1.2.1.1 (i := k) hkM; obtain ⟨b2, off2, e2, _, _, d1⟩ := (HF.out.2.1.below hb2 (Nat.le_refl _)).1.1 k _ (hcells_at (List.getElem?_eq_getElem hkM) hj); cases e2; have f1 := (HF.out.2.1.below hb2 (Nat.le_refl _)).1.2 b off rfl (by rw [hcells_len HF.out.2.1.2.1.1]; omega) (off + k); have HG := Lib.hid (And.intro ho (btr HF.out.2.2 hb2)); clear hown1 hg1 ho2 hb2 ho)
      go_ret
      have hg := HG.out.1
      rw [HQ.out] at hg
      exact ⟨_, _, _, _, rfl, HL.out, by simpa using hg, HG.out.2.setCell (p := ⟨b, off + k, none⟩) hbl _⟩

/-! ### Comparisons -/
def SameP {α : Type} [DecidableEq α] (w : World) (l m : List α) (e : Ending) (w' : World) : Prop := e = .returned (.bool (decide (l = m))) ∧ ∃ q, w' = w.drewN q
theorem same_step {α : Type} {l m : List α} {k : Nat} (hl : k < l.length) (hm : k < m.length) (h : l.take k = m.take k) :
    (l[k] = m[k] → l.take (k + 1) = m.take (k + 1)) ∧ (l[k] ≠ m[k] → l ≠ m) := by
  refine ⟨fun e => ?_, fun e => ?_⟩
  · rw [List.take_succ_eq_append_getElem hl, List.take_succ_eq_append_getElem hm, h, e]
  · rintro rfl
    exact e rfl
section
variable {α : Type} [DecidableEq α] {w : World} {l m : List α}
theorem SameP.yes {P : Program} {f : FuncId} {args : Array Value} {w0 : World} (h : Calls P f args w0 (SameP w l m)) (e : l = m) : Calls P f args w0 fun e w' => e = .returned (.bool true) ∧ ∃ q, w' = w.drewN q :=
  h.mono fun e1 w' ⟨h1, h2⟩ => ⟨by rw [h1, decide_eq_true e], h2⟩
theorem SameP.no {P : Program} {f : FuncId} {args : Array Value} {w0 : World} (h : Calls P f args w0 (SameP w l m)) (e : l ≠ m) : Calls P f args w0 fun e w' => e = .returned (.bool false) ∧ ∃ q, w' = w.drewN q :=
  h.mono fun e1 w' ⟨h1, h2⟩ => ⟨by rw [h1, decide_eq_false e], h2⟩
theorem same_no (q : Nat) (h : l ≠ m) : SameP w l m (.returned (.bool false)) (w.drewN q) := ⟨by rw [decide_eq_false h], q, rfl⟩
theorem same_no2 (q r : Nat) (h : l ≠ m) : SameP w l m (.returned (.bool false)) ((w.drewN q).drewN r) := ⟨by rw [decide_eq_false h], q + r, World.drewN_drewN ..⟩
theorem same_no3 {w' : World} (h : l ≠ m) (q : Nat) (e : w' = w.drewN q) : SameP w l m (.returned (.bool false)) w' := ⟨by rw [decide_eq_false h], q, e⟩
/-- The world has drawn, and nothing else. -/
def Drawn (w w' : World) : Prop := ∃ q, w' = w.drewN q
theorem Drawn.cell {w' : World} (h : Drawn w w') (p : Addr) : w'.cell? p = w.cell? p := by
  obtain ⟨q, rfl⟩ := h
  rfl
theorem Drawn.lies {w' : World} (h : Drawn w w') {lo hi : Nat} {A : Option Addr} {cs : List Value} (k : Lies w lo hi A cs) : Lies w' lo hi A cs := by
  obtain ⟨q, rfl⟩ := h
  exact k
theorem Drawn.more {w' : World} (h : Drawn w w') (r : Nat) : Drawn w (w'.drewN (1 + r)) := by
  obtain ⟨q, rfl⟩ := h
  exact ⟨q + (1 + r), World.drewN_drewN ..⟩
theorem same_yes2 {n : Nat} {w' : World} (hd : Drawn w w') (h : l.take n = m.take n) (hl : l.length = n) (hm : m.length = n) : SameP w l m (.returned (.bool true)) w' := by
  rw [List.take_of_length_le (by omega), List.take_of_length_le (by omega)] at h
  exact ⟨by rw [decide_eq_true h], hd⟩
theorem same_yes {n : Nat} (q : Nat) (h : l.take n = m.take n) (hl : l.length = n) (hm : m.length = n) : SameP w l m (.returned (.bool true)) (w.drewN q) := by
  rw [List.take_of_length_le (by omega), List.take_of_length_le (by omega)] at h
  exact ⟨by rw [decide_eq_true h], q, rfl⟩
end

set_option maxHeartbeats 1000000 in
theorem lib_equal (A B : Option Addr) (n n' c d lo lo' hi hi' : Nat) (l m : List Int) (w : World) (hn : n ≤ 1048576) (hn' : n' ≤ 1048576) (hl : l.length = n) (hm : m.length = n')
    (h1 : Lies w lo hi A (ncells l)) (h2 : Lies w lo' hi' B (ncells m)) :
    Calls Try.prog 66 #[.slice A n c, .slice B n' d] w (SameP w l m) := by
  have H1 := Lib.hid h1
  have H2 := Lib.hid h2
  have HL := Lib.hid hl
  have HM := Lib.hid hm
  clear h1 h2 hl hm
  by_cases hnn : n = n'
  · subst hnn
    go_enter Try.func66, Try.ntmps66
    go_wp2
    go_loopw [5, 13] (fun _ i wr => ∃ (k q : Nat), k ≤ n ∧ i = .int .i64 k ∧ l.take k = m.take k ∧ wr = w.drewN q) (fun _ i _ => n - (intOf i).toNat)
    case atStart => exact ⟨0, 0, Nat.zero_le _, rfl, rfl, rfl⟩
    case round =>
      obtain ⟨k, q, hk, rfl, ht, rfl⟩ := hrel
      have HT := Lib.hid ht
      clear ht
      by_cases hlt : k < n
      · have hkl : k < l.length := by have := HL.out; omega
        have hkm : k < m.length := by have := HM.out; omega
        obtain ⟨b, off, rfl, _, hbw, c1⟩ := int_at H1.out k hkl
        obtain ⟨b', off', rfl, _, hbw', c2⟩ := int_at H2.out k hkm
        have hi0 : (0 : Int) ≤ (k : Int) := Int.natCast_nonneg _
        have hi1 : (k : Int) < (n : Int) := by omega
        have HP := Lib.hid (same_step hkl hkm HT.out)
        generalize l[k] = x at c1 HP
        generalize m[k] = y at c2 HP
        by_cases hx : x = y
        · subst hx
          go_wp2
          go_quiet (fail)
          go_wp2
          go_roundw
          case rel => exact ⟨k + 1, _, by omega, by go_num, HP.out.1 (by simp), rfl⟩
          case measure => simp [intOf]; omega
        · have hx' : (x == y) = false := by simpa using hx
          have hx2 : (x != y) = true := by simpa using hx
          go_wp2
          go_quiet (fail)
          go_wp2
          go_ret
          exact same_no2 _ _ (HP.out.2 hx)
      · have hkn : k = n := by omega
        subst hkn
        go_wp2
        go_ret
        exact same_yes _ HT.out HL.out HM.out
  · have hd : (n == n') = false := by simpa using hnn
    have hd' : ((n : Int) == (n' : Int)) = false := by simp; omega
    go_enter Try.func66, Try.ntmps66
    go_wp2
    go_ret
    exact same_no 0 (fun e => hnn (by rw [← HL.out, ← HM.out, e]))

set_option maxHeartbeats 1000000 in
theorem spec_ints (A B : Option Addr) (n n' c d lo lo' hi hi' : Nat) (l m : List Int) (w : World) (hn : n ≤ 1048576) (hn' : n' ≤ 1048576) (hl : l.length = n) (hm : m.length = n')
    (h1 : Lies w lo hi A (ncells l)) (h2 : Lies w lo' hi' B (ncells m)) :
    Calls Try.prog 71 #[.slice A n c, .slice B n' d] w (SameP w l m) := by
  have H1 := Lib.hid h1
  have H2 := Lib.hid h2
  have HL := Lib.hid hl
  have HM := Lib.hid hm
  clear h1 h2 hl hm
  by_cases hnn : n = n'
  · subst hnn
    go_enter Try.func71, Try.ntmps71
    go_wp2
    go_loopw [5] (fun  i wr => ∃ (k q : Nat), k ≤ n ∧ i = .int .i64 k ∧ l.take k = m.take k ∧ wr = w.drewN q) (fun  i _ => n - (intOf i).toNat)
    case atStart => exact ⟨0, 0, Nat.zero_le _, rfl, rfl, rfl⟩
    case round =>
      obtain ⟨k, q, hk, rfl, ht, rfl⟩ := hrel
      have HT := Lib.hid ht
      clear ht
      by_cases hlt : k < n
      · have hkl : k < l.length := by have := HL.out; omega
        have hkm : k < m.length := by have := HM.out; omega
        obtain ⟨b, off, rfl, _, hbw, c1⟩ := int_at H1.out k hkl
        obtain ⟨b', off', rfl, _, hbw', c2⟩ := int_at H2.out k hkm
        have hi0 : (0 : Int) ≤ (k : Int) := Int.natCast_nonneg _
        have hi1 : (k : Int) < (n : Int) := by omega
        have HP := Lib.hid (same_step hkl hkm HT.out)
        generalize l[k] = x at c1 HP
        generalize m[k] = y at c2 HP
        by_cases hx : x = y
        · subst hx
          go_wp2
          go_quiet (fail)
          go_wp2
          go_roundw
          case rel => exact ⟨k + 1, _, by omega, by go_num, HP.out.1 (by simp), rfl⟩
          case measure => simp [intOf]; omega
        · have hx' : (x == y) = false := by simpa using hx
          have hx2 : (x != y) = true := by simpa using hx
          go_wp2
          go_quiet (fail)
          go_wp2
          go_ret
          exact same_no2 _ _ (HP.out.2 hx)
      · have hkn : k = n := by omega
        subst hkn
        go_wp2
        go_ret
        exact same_yes _ HT.out HL.out HM.out
  · have hd : (n == n') = false := by simpa using hnn
    have hd' : ((n : Int) == (n' : Int)) = false := by simp; omega
    go_enter Try.func71, Try.ntmps71
    go_wp2
    go_ret
    exact same_no 0 (fun e => hnn (by rw [← HL.out, ← HM.out, e]))

set_option maxHeartbeats 1000000 in
theorem law_ints (A B : Option Addr) (n n' c d lo lo' hi hi' : Nat) (l m : List Int) (w : World) (hn : n ≤ 1048576) (hn' : n' ≤ 1048576) (hl : l.length = n) (hm : m.length = n')
    (h1 : Lies w lo hi A (ncells l)) (h2 : Lies w lo' hi' B (ncells m)) :
    Calls Try.prog 30 #[.slice A n c, .slice B n' d] w (SameP w l m) := by
  have H1 := Lib.hid h1
  have H2 := Lib.hid h2
  have HL := Lib.hid hl
  have HM := Lib.hid hm
  clear h1 h2 hl hm
  by_cases hnn : n = n'
  · subst hnn
    go_enter Try.func30, Try.ntmps30
    go_wp2
    go_loopw [5] (fun  i wr => ∃ (k q : Nat), k ≤ n ∧ i = .int .i64 k ∧ l.take k = m.take k ∧ wr = w.drewN q) (fun  i _ => n - (intOf i).toNat)
    case atStart => exact ⟨0, 0, Nat.zero_le _, rfl, rfl, rfl⟩
    case round =>
      obtain ⟨k, q, hk, rfl, ht, rfl⟩ := hrel
      have HT := Lib.hid ht
      clear ht
      by_cases hlt : k < n
      · have hkl : k < l.length := by have := HL.out; omega
        have hkm : k < m.length := by have := HM.out; omega
        obtain ⟨b, off, rfl, _, hbw, c1⟩ := int_at H1.out k hkl
        obtain ⟨b', off', rfl, _, hbw', c2⟩ := int_at H2.out k hkm
        have hi0 : (0 : Int) ≤ (k : Int) := Int.natCast_nonneg _
        have hi1 : (k : Int) < (n : Int) := by omega
        have HP := Lib.hid (same_step hkl hkm HT.out)
        generalize l[k] = x at c1 HP
        generalize m[k] = y at c2 HP
        by_cases hx : x = y
        · subst hx
          go_wp2
          go_quiet (fail)
          go_wp2
          go_roundw
          case rel => exact ⟨k + 1, _, by omega, by go_num, HP.out.1 (by simp), rfl⟩
          case measure => simp [intOf]; omega
        · have hx' : (x == y) = false := by simpa using hx
          have hx2 : (x != y) = true := by simpa using hx
          go_wp2
          go_quiet (fail)
          go_wp2
          go_ret
          exact same_no2 _ _ (HP.out.2 hx)
      · have hkn : k = n := by omega
        subst hkn
        go_wp2
        go_ret
        exact same_yes _ HT.out HL.out HM.out
  · have hd : (n == n') = false := by simpa using hnn
    have hd' : ((n : Int) == (n' : Int)) = false := by simp; omega
    go_enter Try.func30, Try.ntmps30
    go_wp2
    go_ret
    exact same_no 0 (fun e => hnn (by rw [← HL.out, ← HM.out, e]))

set_option maxHeartbeats 2000000 in
theorem impl_sameMem (A B : Option Addr) (n n' c d lo lo' hi hi' : Nat) (M N : List (List Int)) (hs gs : List Hd) (w : World) (hc : capG M) (hc' : capG N) (hl : M.length = n) (hm : N.length = n')
    (h1 : RG w lo hi A M hs) (h2 : RG w lo' hi' B N gs) :
    Calls Try.prog 37 #[.slice A n c, .slice B n' d] w (SameP w M N) := by
  have hn : n ≤ 1048576 := hl ▸ hc.len
  have hn' : n' ≤ 1048576 := hm ▸ hc'.len
  have H1 := Lib.hid h1
  have H2 := Lib.hid h2
  have HL := Lib.hid hl
  have HM := Lib.hid hm
  have HC := Lib.hid hc
  have HC' := Lib.hid hc'
  clear h1 h2 hl hm hc hc'
  by_cases hnn : n = n'
  · subst hnn
    go_enter Try.func37, Try.ntmps37
    go_wp2
    go_loopw [5, 13] (fun _ i wr => ∃ (k : Nat), k ≤ n ∧ i = .int .i64 k ∧ M.take k = N.take k ∧ Drawn w wr) (fun _ i _ => n - (intOf i).toNat)
    case atStart => exact ⟨0, Nat.zero_le _, rfl, rfl, 0, rfl⟩
    case round =>
      obtain ⟨k, hk, rfl, ht, hw⟩ := hrel
      have HT := Lib.hid ht
      have HW := Lib.hid hw
      clear ht hw
      by_cases hlt : k < n
      · have hkl : k < M.length := by have := HL.out; omega
        have hkm : k < N.length := by have := HM.out; omega
        obtain ⟨b, off, C, e1, rfl, _, hbw, c1, hC⟩ := H1.out.page k hkl
        obtain ⟨b', off', D, e2, rfl, _, hbw', c2, hD⟩ := H2.out.page k hkm
        have d1 := (HW.out.cell _).trans c1
        have d2 := (HW.out.cell _).trans c2
        have hi0 : (0 : Int) ≤ (k : Int) := Int.natCast_nonneg _
        have hi1 : (k : Int) < (n : Int) := by omega
        have HP := Lib.hid (same_step hkl hkm HT.out)
        have hK := lib_equal C D M[k].length N[k].length e1 e2 lo lo' hi hi' M[k] N[k] wr.drew (HC.out.at_ hkl) (HC'.out.at_ hkm) rfl rfl ((HW.out.lies hC).drewN 1) ((HW.out.lies hD).drewN 1)
        clear hC hD c1 c2
        generalize M[k] = x at d1 HP hK
        generalize N[k] = y at d2 HP hK
        by_cases hx : x = y
        · have HX := Lib.hid hx
          have HK := Lib.hid (SameP.yes hK hx)
          clear hK hx
          go_wp2
          go_still_tail 8, (by kernel_rfl)
          go_wp2_with fail
          refine (HK.out).mono ?_
          rintro e w1 ⟨rfl, r, rfl⟩
          go_wp2_with fail
          go_roundw
          case rel => exact ⟨k + 1, by omega, by go_num, HP.out.1 HX.out, HW.out.more r⟩
          case measure => simp [intOf]; omega
        · have HX := Lib.hid hx
          have HK := Lib.hid (SameP.no hK hx)
          clear hK hx
          go_wp2
          go_still_tail 8, (by kernel_rfl)
          go_wp2_with fail
          refine (HK.out).mono ?_
          rintro e w1 ⟨rfl, r, rfl⟩
          go_wp2_with fail
          go_ret
          exact ⟨by rw [decide_eq_false (HP.out.2 HX.out)]; rfl, HW.out.more r⟩
      · have hkn : k = n := by omega
        subst hkn
        go_wp2
        go_ret
        exact same_yes2 HW.out HT.out HL.out HM.out
  · have hd : (n == n') = false := by simpa using hnn
    have hd' : ((n : Int) == (n' : Int)) = false := by simp; omega
    go_enter Try.func37, Try.ntmps37
    go_wp2
    go_ret
    exact same_no 0 (fun e => hnn (by rw [← HL.out, ← HM.out, e]))

set_option maxHeartbeats 2000000 in
theorem spec_sameMem (A B : Option Addr) (n n' c d lo lo' hi hi' : Nat) (M N : List (List Int)) (hs gs : List Hd) (w : World) (hc : capG M) (hc' : capG N) (hl : M.length = n) (hm : N.length = n')
    (h1 : RG w lo hi A M hs) (h2 : RG w lo' hi' B N gs) :
    Calls Try.prog 50 #[.slice A n c, .slice B n' d] w (SameP w M N) := by
  have hn : n ≤ 1048576 := hl ▸ hc.len
  have hn' : n' ≤ 1048576 := hm ▸ hc'.len
  have H1 := Lib.hid h1
  have H2 := Lib.hid h2
  have HL := Lib.hid hl
  have HM := Lib.hid hm
  have HC := Lib.hid hc
  have HC' := Lib.hid hc'
  clear h1 h2 hl hm hc hc'
  by_cases hnn : n = n'
  · subst hnn
    go_enter Try.func50, Try.ntmps50
    go_wp2
    go_loopw [5] (fun  i wr => ∃ (k : Nat), k ≤ n ∧ i = .int .i64 k ∧ M.take k = N.take k ∧ Drawn w wr) (fun  i _ => n - (intOf i).toNat)
    case atStart => exact ⟨0, Nat.zero_le _, rfl, rfl, 0, rfl⟩
    case round =>
      obtain ⟨k, hk, rfl, ht, hw⟩ := hrel
      have HT := Lib.hid ht
      have HW := Lib.hid hw
      clear ht hw
      by_cases hlt : k < n
      · have hkl : k < M.length := by have := HL.out; omega
        have hkm : k < N.length := by have := HM.out; omega
        obtain ⟨b, off, C, e1, rfl, _, hbw, c1, hC⟩ := H1.out.page k hkl
        obtain ⟨b', off', D, e2, rfl, _, hbw', c2, hD⟩ := H2.out.page k hkm
        have d1 := (HW.out.cell _).trans c1
        have d2 := (HW.out.cell _).trans c2
        have hi0 : (0 : Int) ≤ (k : Int) := Int.natCast_nonneg _
        have hi1 : (k : Int) < (n : Int) := by omega
        have HP := Lib.hid (same_step hkl hkm HT.out)
        have hK := spec_ints C D M[k].length N[k].length e1 e2 lo lo' hi hi' M[k] N[k] wr.drew (HC.out.at_ hkl) (HC'.out.at_ hkm) rfl rfl ((HW.out.lies hC).drewN 1) ((HW.out.lies hD).drewN 1)
        clear hC hD c1 c2
        generalize M[k] = x at d1 HP hK
        generalize N[k] = y at d2 HP hK
        by_cases hx : x = y
        · have HX := Lib.hid hx
          have HK := Lib.hid (SameP.yes hK hx)
          clear hK hx
          go_wp2
          go_still_tail 8, (by kernel_rfl)
          go_wp2_with fail
          refine (HK.out).mono ?_
          rintro e w1 ⟨rfl, r, rfl⟩
          go_wp2_with fail
          go_roundw
          case rel => exact ⟨k + 1, by omega, by go_num, HP.out.1 HX.out, HW.out.more r⟩
          case measure => simp [intOf]; omega
        · have HX := Lib.hid hx
          have HK := Lib.hid (SameP.no hK hx)
          clear hK hx
          go_wp2
          go_still_tail 8, (by kernel_rfl)
          go_wp2_with fail
          refine (HK.out).mono ?_
          rintro e w1 ⟨rfl, r, rfl⟩
          go_wp2_with fail
          go_ret
          exact ⟨by rw [decide_eq_false (HP.out.2 HX.out)]; rfl, HW.out.more r⟩
      · have hkn : k = n := by omega
        subst hkn
        go_wp2
        go_ret
        exact same_yes2 HW.out HT.out HL.out HM.out
  · have hd : (n == n') = false := by simpa using hnn
    have hd' : ((n : Int) == (n' : Int)) = false := by simp; omega
    go_enter Try.func50, Try.ntmps50
    go_wp2
    go_ret
    exact same_no 0 (fun e => hnn (by rw [← HL.out, ← HM.out, e]))

set_option maxHeartbeats 2000000 in
theorem law_sameLists (A B : Option Addr) (n n' c d lo lo' hi hi' : Nat) (M N : List (List Int)) (hs gs : List Hd) (w : World) (hc : capG M) (hc' : capG N) (hl : M.length = n) (hm : N.length = n')
    (h1 : RG w lo hi A M hs) (h2 : RG w lo' hi' B N gs) :
    Calls Try.prog 57 #[.slice A n c, .slice B n' d] w (SameP w M N) := by
  have hn : n ≤ 1048576 := hl ▸ hc.len
  have hn' : n' ≤ 1048576 := hm ▸ hc'.len
  have H1 := Lib.hid h1
  have H2 := Lib.hid h2
  have HL := Lib.hid hl
  have HM := Lib.hid hm
  have HC := Lib.hid hc
  have HC' := Lib.hid hc'
  clear h1 h2 hl hm hc hc'
  by_cases hnn : n = n'
  · subst hnn
    go_enter Try.func57, Try.ntmps57
    go_wp2
    go_loopw [5] (fun  i wr => ∃ (k : Nat), k ≤ n ∧ i = .int .i64 k ∧ M.take k = N.take k ∧ Drawn w wr) (fun  i _ => n - (intOf i).toNat)
    case atStart => exact ⟨0, Nat.zero_le _, rfl, rfl, 0, rfl⟩
    case round =>
      obtain ⟨k, hk, rfl, ht, hw⟩ := hrel
      have HT := Lib.hid ht
      have HW := Lib.hid hw
      clear ht hw
      by_cases hlt : k < n
      · have hkl : k < M.length := by have := HL.out; omega
        have hkm : k < N.length := by have := HM.out; omega
        obtain ⟨b, off, C, e1, rfl, _, hbw, c1, hC⟩ := H1.out.page k hkl
        obtain ⟨b', off', D, e2, rfl, _, hbw', c2, hD⟩ := H2.out.page k hkm
        have d1 := (HW.out.cell _).trans c1
        have d2 := (HW.out.cell _).trans c2
        have hi0 : (0 : Int) ≤ (k : Int) := Int.natCast_nonneg _
        have hi1 : (k : Int) < (n : Int) := by omega
        have HP := Lib.hid (same_step hkl hkm HT.out)
        have hK := law_ints C D M[k].length N[k].length e1 e2 lo lo' hi hi' M[k] N[k] wr.drew (HC.out.at_ hkl) (HC'.out.at_ hkm) rfl rfl ((HW.out.lies hC).drewN 1) ((HW.out.lies hD).drewN 1)
        clear hC hD c1 c2
        generalize M[k] = x at d1 HP hK
        generalize N[k] = y at d2 HP hK
        by_cases hx : x = y
        · have HX := Lib.hid hx
          have HK := Lib.hid (SameP.yes hK hx)
          clear hK hx
          go_wp2
          go_still_tail 8, (by kernel_rfl)
          go_wp2_with fail
          refine (HK.out).mono ?_
          rintro e w1 ⟨rfl, r, rfl⟩
          go_wp2_with fail
          go_roundw
          case rel => exact ⟨k + 1, by omega, by go_num, HP.out.1 HX.out, HW.out.more r⟩
          case measure => simp [intOf]; omega
        · have HX := Lib.hid hx
          have HK := Lib.hid (SameP.no hK hx)
          clear hK hx
          go_wp2
          go_still_tail 8, (by kernel_rfl)
          go_wp2_with fail
          refine (HK.out).mono ?_
          rintro e w1 ⟨rfl, r, rfl⟩
          go_wp2_with fail
          go_ret
          exact ⟨by rw [decide_eq_false (HP.out.2 HX.out)]; rfl, HW.out.more r⟩
      · have hkn : k = n := by omega
        subst hkn
        go_wp2
        go_ret
        exact same_yes2 HW.out HT.out HL.out HM.out
  · have hd : (n == n') = false := by simpa using hnn
    have hd' : ((n : Int) == (n' : Int)) = false := by simp; omega
    go_enter Try.func57, Try.ntmps57
    go_wp2
    go_ret
    exact same_no 0 (fun e => hnn (by rw [← HL.out, ← HM.out, e]))

theorem law_sameMem (A B : Option Addr) (n n' c d lo lo' hi hi' : Nat) (M N : List (List Int)) (hs gs : List Hd) (w : World) (hc : capG M) (hc' : capG N) (hl : M.length = n) (hm : N.length = n')
    (h1 : RG w lo hi A M hs) (h2 : RG w lo' hi' B N gs) :
    Calls Try.prog 18 #[.slice A n c, .slice B n' d] w (SameP w M N) := by
  have HK := Lib.hid (fun V (hV : V = w) => law_sameLists A B n n' c d lo lo' hi hi' M N hs gs V hc hc' hl hm (hV ▸ h1) (hV ▸ h2))
  clear h1 h2 hl hm hc hc'
  go_enter Try.func18, Try.ntmps18
  go_wp2_with fail
  refine (HK.out _ rfl).mono ?_
  rintro e w1 ⟨rfl, q, rfl⟩
  go_wp2_with fail
  go_ret
  exact ⟨rfl, q, rfl⟩
end Go.Proofs.Ytkbcmeachfplnaa.Grid
