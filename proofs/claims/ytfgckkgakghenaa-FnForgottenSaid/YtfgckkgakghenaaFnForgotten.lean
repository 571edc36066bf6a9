/-
  For every slice of bytes the law FnForgotten returns true: when the outer table changes at a page and all that leads there is forgotten, what is kept is right again. No condition.
-/
import Derived.Test.YtfgckkgakghenaaKeptImpl
import Derived.Test.YtfgckkgakghenaaKeptLaw
import Derived.Test.YtfgckkgakghenaaKeptDraw2
import Derived.Test.YtfgckkgakghenaaPlaces
import Derived.Test.YtfgckkgakghenaaWith
import Derived.Test.YtfgckkgakghenaaUses
import Derived.Test.YtfgckkgakghenaaSlotArgs
import Derived.Test.YtfgckkgakghenaaOrdT
import Derived.Test.YtfgckkgakghenaaBig
namespace Go.Proofs.Ytfgckkgakghenaa.fnForgotten
set_option maxRecDepth 100000
open Go.ChangeShapes Go.WideShapes Go.ChangeAt Go.RowKit
open Go.Proofs.Ytfgckkgakghenaa.Base Go.Proofs.Ytfgckkgakghenaa.Mem Go.Proofs.Ytfgckkgakghenaa.Slots Go.Proofs.Ytfgckkgakghenaa.Ints Go.Proofs.Ytfgckkgakghenaa.Bools Go.Proofs.Ytfgckkgakghenaa.Draw Go.Proofs.Ytfgckkgakghenaa.SDraw Go.Proofs.Ytfgckkgakghenaa.Kepts Go.Proofs.Ytfgckkgakghenaa.KDraw
set_option linter.unusedVariables false
set_option linter.unusedSimpArgs false

/-- The first three of the drawn numbers lie in memory. -/
def P3 (W : World) (g : Nat) (a b c : Int) : Prop :=
  W.cell? ⟨g, 0, none⟩ = some (.int .i64 a) ∧ W.cell? ⟨g, 1, none⟩ = some (.int .i64 b) ∧ W.cell? ⟨g, 2, none⟩ = some (.int .i64 c) ∧ g < W.heap.size
theorem P3.below {W W' : World} {g : Nat} {a b c : Int} (h : P3 W g a b c) (hb : Below W.heap.size W W') : P3 W' g a b c :=
  ⟨(hb.cell (p := ⟨g, 0, none⟩) h.2.2.2).trans h.1, (hb.cell (p := ⟨g, 1, none⟩) h.2.2.2).trans h.2.1, (hb.cell (p := ⟨g, 2, none⟩) h.2.2.2).trans h.2.2.1, Nat.lt_of_lt_of_le h.2.2.2 hb.size⟩
theorem pcell {w : World} {base g n c : Nat} {e : TypeId} {l : List Int} (h : w.ownsRow base e 1 (.slice (some ⟨g, 0, none⟩) n c) n (icells l)) (k : Nat) (hk : k < l.length) : w.cell? ⟨g, k, none⟩ = some (.int .i64 l[k]) := by
  have hl := h.1
  simp only [icells, List.length_map] at hl
  rw [h.cellAt k (by omega)]
  simp [icells, hk]
theorem wf_set {l : List Sl} {k : Int} {s : Sl} (h : wfL l) (hs : wfS s) : wfL (withS l k s) := fun t ht => by
  unfold withS at ht
  split at ht
  · rcases List.mem_or_eq_of_mem_set ht with h1 | h1
    · exact h t h1
    · exact h1 ▸ hs
  · exact h t ht
theorem new3 : newN 3 = 3 := by decide
theorem new3_any (V : World) : Calls Try.prog 36 #[.int .i64 3] V (KP V 3 3 (newK 3)) := by
  have h := impl_newK V 3 (by decide)
  rwa [new3] at h
theorem known_len (k : KD) : knownK k ≤ k.1.length := List.countP_le_length
theorem field1 (u v : Value) (W : World) : (Instr.field 27 (.agg #[u, v]) 1).run Try.prog W = .ok v W := by kernel_rfl

set_option maxRecDepth 100000 in
set_option maxHeartbeats 8000000 in
theorem walk (A : Option Addr) (n c : Nat) (hn : n ≤ maxLen) {w : World} (hcode : CodeAt w A n) :
    Calls Try.prog 4 #[.slice A n c] w fun e w' => e = .returned (.bool true) ∧ Below w.heap.size w w' := by
  have hn' : n ≤ 9223372036854775807 := hn
  have HC := Lib.hid (show ∀ W, Below w.heap.size w W → CodeAt W A n from fun W hb => hcode.below hb)
  clear hcode hn
  by_cases h1 : 1048576 < n
  · go_enter Try.func4, Try.ntmps4
    go_wp2_with (go_at_call 14; refine (big_yes A n c _ hn' h1).mono ?_; rintro e w' ⟨rfl, rfl⟩)
    go_ret
    exact ⟨rfl, Below.refl _ _⟩
  · have hn2 : n ≤ 1048576 := by omega
    clear h1 hn'
    go_enter Try.func4, Try.ntmps4
    go_wp2_with (go_at_call 14; refine (big_no A n c _ hn2).mono ?_; rintro e w' ⟨rfl, rfl⟩)
    go_wp2_with fail
    refine (drawKeptOk_any A n c _ hn2 (HC.out _ (Below.refl _ _))).mono ?_
    rintro e w1 ⟨A0, n0, e0, B0, m0, d0, k0, ad1, p1, r1, l1, ad2, p2, r2, l2, rfl, hk0, ht1, ht2, hb1⟩
    have hmn0 : n0 ≤ 1048576 := by have := hk0.hn; omega
    have hmm0 : m0 ≤ 1048576 := by have := hk0.hm; omega
    have HWk0 := Lib.hid hk0.wf
    have HLl1 := Lib.hid ht1.hl
    have HWl1 := Lib.hid ht1.wf
    have hml1 : p1 ≤ 1048576 := by have := ht1.hm; omega
    have HLl2 := Lib.hid ht2.hl
    have HWl2 := Lib.hid ht2.wf
    have hml2 : p2 ≤ 1048576 := by have := ht2.hm; omega
    have hB1 := btr (Below.refl _ _) hb1
    have hS1 := hb1.size
    have hOk_1 := Lib.hid (hk0.kr)
    have hOl1_1 := Lib.hid (ht1.li)
    have hOl2_1 := Lib.hid (ht2.li)
    clear hk0 ht1 ht2 hb1
    have hb2 : Below w1.heap.size w1 (w1.alloc (.cells #[.slice A0 n0 e0, .slice B0 m0 d0] 27)) := (Below.refl _ _).alloc (Nat.le_refl _) _
    have hB2 := btr hB1 hb2
    have hS2 : w1.heap.size < (w1.alloc (.cells #[.slice A0 n0 e0, .slice B0 m0 d0] 27)).heap.size := by simp
    have hOk_2 := Lib.hid (hOk_1.out.below hb2 (by omega))
    have hOl1_2 := Lib.hid (hOl1_1.out.below hb2 (by omega))
    have hOl2_2 := Lib.hid (hOl2_1.out.below hb2 (by omega))
    have hOvk_2 := Lib.hid (Two.new w1 (.slice A0 n0 e0) (.slice B0 m0 d0) 27)
    clear hOk_1 hOl1_1 hOl2_1 hb2
    go_wp2_with fail
    refine (places_any A n c _ hn2 (HC.out _ hB2)).mono ?_
    rintro e w3 ⟨gp, capp, l, rfl, hl, hall, hown, hb3⟩
    obtain ⟨q0, q1, q2, q3, q4, q5, q6, q7, q8, q9, q10, q11, rfl⟩ := list12 hl
    have HR := Lib.hid (And.intro (hall q0 (by simp)) (And.intro (hall q1 (by simp)) (hall q2 (by simp))))
    have hp3 : P3 w3 gp q0 q1 q2 := ⟨pcell hown 0 (by simp), pcell hown 1 (by simp), pcell hown 2 (by simp), (hown.lt gp rfl).2⟩
    have hB3 := btr hB2 hb3
    have hS3 := hb3.size
    have hOk_3 := Lib.hid (hOk_2.out.below hb3 (by omega))
    have hOl1_3 := Lib.hid (hOl1_2.out.below hb3 (by omega))
    have hOl2_3 := Lib.hid (hOl2_2.out.below hb3 (by omega))
    have hOvk_3 := Lib.hid (hOvk_2.out.below hb3 )
    clear hOk_2 hOl1_2 hOl2_2 hOvk_2 hall hown hl hb3
    have hOp_3 := Lib.hid hp3
    clear hp3 HC
    have hok := fun (V : World) (h : KR V 0 V.heap.size k0 A0 B0 n0 m0) (h1 : Lies V 0 V.heap.size (some ad1) (scells l1)) (h2 : Lies V 0 V.heap.size (some ad2) (scells l2)) => spec_okK A0 B0 n0 m0 e0 d0 k0 V (some ad1) (some ad2) p1 p2 r1 r2 l1 l2 hmn0 hmm0 hml1 hml2 HLl1.out HLl2.out h h1 h2
    obtain ⟨x0, x1, x2, _⟩ := hOp_3.out
    obtain ⟨zvk0, zvk1, _, _, _⟩ := hOvk_3.out
    have N3 := fun V : World => new3_any V
    cases hb0 : okK k0 l1 l2
    · rw [hb0] at hok
      have HK := Lib.hid hok
      clear hok
      go_wp2_with fail
      refine (HK.out _ (hOk_3.out.wide (Nat.zero_le _) (by omega)) (hOl1_3.out.wide (Nat.zero_le _) (by omega)) (hOl2_3.out.wide (Nat.zero_le _) (by omega))).mono ?_
      rintro e w4 ⟨rfl, hb4⟩
      have hB4 := btr hB3 hb4
      have hS4 := hb4.size
      have hOk_4 := Lib.hid (hOk_3.out.below hb4 (by omega))
      have hOl1_4 := Lib.hid (hOl1_3.out.below hb4 (by omega))
      have hOl2_4 := Lib.hid (hOl2_3.out.below hb4 (by omega))
      have hOvk_4 := Lib.hid (hOvk_3.out.below hb4 )
      have hOp_4 := Lib.hid (hOp_3.out.below hb4 )
      clear hOk_3 hOl1_3 hOl2_3 hOvk_3 hOp_3 hb4
      go_wp2_with fail
      refine (N3 _).mono ?_
      rintro e w5 ⟨A5', c5', B5', d5', rfl, ho5, hb5⟩
      have hB5 := btr hB4 hb5
      have hS5 := hb5.size
      have hOk_5 := Lib.hid (hOk_4.out.below hb5 (by omega))
      have hOl1_5 := Lib.hid (hOl1_4.out.below hb5 (by omega))
      have hOl2_5 := Lib.hid (hOl2_4.out.below hb5 (by omega))
      have hOvk_5 := Lib.hid (hOvk_4.out.below hb5 )
      have hOp_5 := Lib.hid (hOp_4.out.below hb5 )
      have hOn3_5 := Lib.hid ho5
      clear hOk_4 hOl1_4 hOl2_4 hOvk_4 hOp_4 ho5 hb5
      have hfl := field1
      go_wp2_with fail
      go_ret
      exact ⟨rfl, hB5⟩
    · by_cases h8 : p2 = 8
      · subst h8
        rw [hb0] at hok
        have HK := Lib.hid hok
        clear hok
        go_wp2_with fail
        refine (HK.out _ (hOk_3.out.wide (Nat.zero_le _) (by omega)) (hOl1_3.out.wide (Nat.zero_le _) (by omega)) (hOl2_3.out.wide (Nat.zero_le _) (by omega))).mono ?_
        rintro e w4 ⟨rfl, hb4⟩
        have hB4 := btr hB3 hb4
        have hS4 := hb4.size
        have hOk_4 := Lib.hid (hOk_3.out.below hb4 (by omega))
        have hOl1_4 := Lib.hid (hOl1_3.out.below hb4 (by omega))
        have hOl2_4 := Lib.hid (hOl2_3.out.below hb4 (by omega))
        have hOvk_4 := Lib.hid (hOvk_3.out.below hb4 )
        have hOp_4 := Lib.hid (hOp_3.out.below hb4 )
        clear hOk_3 hOl1_3 hOl2_3 hOvk_3 hOp_3 hb4
        clear N3
        go_wp2_with fail
        refine Ord.wp_region_ord (fun w' => w'.cell? ⟨gp, 1, none⟩ = some (.int .i64 q1) ∧ w'.cell? ⟨gp, 2, none⟩ = some (.int .i64 q2)) [(0, true), (1, true), (2, true), (3, true), (4, true), (5, true), (6, true), (7, true), (8, true), (9, true), (10, true), (11, true), (12, false), (13, true)] (by kernel_rfl) (by kernel_rfl) rfl (by kernel_rfl) (⟨hOp_4.out.2.1, hOp_4.out.2.2.1⟩) ?_
        simp only [Ord.ordOps, List.getElem?_toArray, List.getElem?_cons_zero, List.getElem?_cons_succ]
        repeat (first
          | (refine Ord.ord_plain (v := ?_) rfl (fun w' hS => ?_) ?_; rotate_left; (focus ((try dsimp only at hS); go_simp; first | done | with_reducible rfl)); simp only [Act.put, List.setIfInBounds_toArray, List.set_cons_zero, List.set_cons_succ])
          | (refine Ord.ord_skip (by rfl) ?_; simp only [Act.put, List.setIfInBounds_toArray, List.set_cons_zero, List.set_cons_succ])
          | (refine Ord.ord_take (v := ?_) (by rfl) (fun w' hS => ?_) ?_; rotate_left; (focus ((try dsimp only at hS); go_simp; first | done | with_reducible rfl)); simp only [Act.put, List.setIfInBounds_toArray, List.set_cons_zero, List.set_cons_succ]))
        have hb5 : Below w4.heap.size w4 w4.drew := (Below.refl _ _).drew
        have hB5 := btr hB4 hb5
        have hS5 : w4.heap.size ≤ w4.drew.heap.size := hb5.size
        have hOk_5 := Lib.hid (hOk_4.out.below hb5 (by omega))
        have hOl1_5 := Lib.hid (hOl1_4.out.below hb5 (by omega))
        have hOl2_5 := Lib.hid (hOl2_4.out.below hb5 (by omega))
        have hOvk_5 := Lib.hid (hOvk_4.out.below hb5 )
        have hOp_5 := Lib.hid (hOp_4.out.below hb5 )
        clear hOk_4 hOl1_4 hOl2_4 hOvk_4 hOp_4 hb5
        refine Ord.ord_call (fun K hK => ?_)
        go_simp
        refine (spec_with ad2 8 r2 _ (q0.tmod 8) (q1.tmod 24) _ l2 _ (by omega) HLl2.out (hOl2_5.out.wide (Nat.zero_le _) (by omega))).mono ?_
        rintro e w6 ⟨ad6, d6, rfl, hc6, ho6, hb6⟩
        have hB6 := btr hB5 hb6
        have hS6 := hb6.size
        have hOk_6 := Lib.hid (hOk_5.out.below hb6 (by omega))
        have hOl1_6 := Lib.hid (hOl1_5.out.below hb6 (by omega))
        have hOl2_6 := Lib.hid (hOl2_5.out.below hb6 (by omega))
        have hOvk_6 := Lib.hid (hOvk_5.out.below hb6 )
        have hOp_6 := Lib.hid (hOp_5.out.below hb6 )
        have hOo_6 := Lib.hid ho6
        clear hOk_5 hOl1_5 hOl2_5 hOvk_5 hOp_5 hc6 ho6 hb6
        refine hK.out _ _ (⟨hOp_6.out.2.1, hOp_6.out.2.2.1⟩) ?_
        clear hK K
        repeat (first
          | (refine Ord.ord_plain (v := ?_) rfl (fun w' hS => ?_) ?_; rotate_left; (focus ((try dsimp only at hS); go_simp; first | done | with_reducible rfl)); simp only [Act.put, List.setIfInBounds_toArray, List.set_cons_zero, List.set_cons_succ])
          | (refine Ord.ord_skip (by rfl) ?_; simp only [Act.put, List.setIfInBounds_toArray, List.set_cons_zero, List.set_cons_succ])
          | (refine Ord.ord_take (v := ?_) (by rfl) (fun w' hS => ?_) ?_; rotate_left; (focus ((try dsimp only at hS); go_simp; first | done | with_reducible rfl)); simp only [Act.put, List.setIfInBounds_toArray, List.set_cons_zero, List.set_cons_succ]))
        refine Ord.ord_nil ?_
        have hLo : (withS l2 (q0.tmod 8) (q1.tmod 24, IntKind.i64.wrap (1 + q2.tmod 3))).length = 8 := (withS_len _ _ _).trans HLl2.out
        have hmo : (8 : Nat) ≤ 1048576 := by omega
        obtain ⟨⟨ra0, ra1⟩, ⟨rb0, rb1⟩, rc0, rc1⟩ := HR.out
        have re0 : q0.tmod 8 = q0 % 8 := Int.tmod_eq_emod_of_nonneg ra0
        have re1 : q1.tmod 24 = q1 % 24 := Int.tmod_eq_emod_of_nonneg rb0
        have re2 : q2.tmod 3 = q2 % 3 := Int.tmod_eq_emod_of_nonneg rc0
        have wp : (Lit.int .i64 (q0.tmod 8)).wf = true := wf_small (m := 8) (by omega) (by omega) (by omega)
        have ez : IntKind.i64.wrap (1 + q2.tmod 3) = 1 + q2.tmod 3 := IntWalk.i64_in _ (by omega)
        have ws : wfS (q1.tmod 24, IntKind.i64.wrap (1 + q2.tmod 3)) := ⟨wf_small (m := 24) (by simp only; omega) (by simp only; omega) (by omega), wf_small (m := 4) (by simp only; omega) (by simp only; omega) (by omega)⟩
        have hwo : wfL (withS l2 (q0.tmod 8) (q1.tmod 24, IntKind.i64.wrap (1 + q2.tmod 3))) := wf_set HWl2.out ws
        have hOK : okK (usesK k0 l1 (q0.tmod 8)) l1 (withS l2 (q0.tmod 8) (q1.tmod 24, IntKind.i64.wrap (1 + q2.tmod 3))) = true := ok_uses hb0
        have hU := fun (V : World) (h : KR V 0 V.heap.size k0 A0 B0 n0 m0) (h1 : Lies V 0 V.heap.size (some ad1) (scells l1)) => impl_usesK A0 B0 n0 m0 e0 d0 k0 V (some ad1) p1 r1 (q0.tmod 8) l1 hmn0 hmm0 hml1 HLl1.out h h1 HWk0.out HWl1.out
        have wU : wfL (usesK k0 l1 (q0.tmod 8)).2 := wf_forgetsK _ HWk0.out
        obtain ⟨hk1, hk2⟩ := known_forgets (useS l1 (q0.tmod 8)) k0
        rw [show forgetsK k0 (useS l1 (q0.tmod 8)) = (usesK k0 l1 (q0.tmod 8)) from rfl] at hk1 hk2
        have hOk' := fun (A B D : Option Addr) (c d dd : Nat) (V : World) (h : KR V 0 V.heap.size (usesK k0 l1 (q0.tmod 8)) A B n0 m0) (h1 : Lies V 0 V.heap.size (some ad1) (scells l1)) (h2 : Lies V 0 V.heap.size D (scells (withS l2 (q0.tmod 8) (q1.tmod 24, IntKind.i64.wrap (1 + q2.tmod 3))))) => impl_okK A B n0 m0 c d (usesK k0 l1 (q0.tmod 8)) V (some ad1) D p1 8 r1 dd l1 (withS l2 (q0.tmod 8) (q1.tmod 24, IntKind.i64.wrap (1 + q2.tmod 3))) hmn0 hmm0 hml1 hmo HLl1.out hLo h h1 h2 wU HWl1.out hwo
        rw [hOK] at hOk'
        have hN := fun (A B : Option Addr) (c d lo : Nat) (V : World) (h : KR V lo V.heap.size (usesK k0 l1 (q0.tmod 8)) A B n0 m0) => impl_known A B n0 m0 c d lo (usesK k0 l1 (q0.tmod 8)) V hmn0 h
        have hN0 := fun (V : World) (lo : Nat) (h : KR V lo V.heap.size k0 A0 B0 n0 m0) => impl_known A0 B0 n0 m0 e0 d0 lo k0 V hmn0 h
        have hS := fun (V : World) (lo : Nat) (h : Lies V lo V.heap.size (some ad1) (scells l1)) => spec_uses (some ad1) p1 r1 lo (q0.tmod 8) l1 V hml1 HLl1.out h
        have hb4 : knownK k0 ≤ 1048576 := by have := known_len k0; have := hOk_6.out.l1; omega
        have hr4 := useS_le l1 (q0.tmod 8)
        have hl4 := HLl1.out
        rw [hl4] at hr4
        generalize (usesK k0 l1 (q0.tmod 8)) = ku at hU wU hk1 hk2 hOk' hN
        generalize useS l1 (q0.tmod 8) = us at hk2 hS hr4
        have HX := Lib.hid hOo_6.out.1
        generalize (withS l2 (q0.tmod 8) (q1.tmod 24, IntKind.i64.wrap (1 + q2.tmod 3))) = ol at hLo hwo hOk' HX
        have hle : decide ((knownK ku : Int) ≤ (knownK k0 : Int)) = true := by simp; omega
        have hwr : IntKind.i64.wrap ((knownK k0 : Int) - (us.length : Int)) = (knownK k0 : Int) - (us.length : Int) := IntWalk.i64_in _ (by omega)
        have hge : decide ((knownK k0 : Int) - (us.length : Int) ≤ (knownK ku : Int)) = true := by simp; omega
        generalize (knownK ku : Int) = ka at hN hle hge
        generalize (knownK k0 : Int) = kb at hN0 hle hge hwr
        have HU := Lib.hid hU
        have HOK := Lib.hid hOk'
        have HN := Lib.hid hN
        have HN0 := Lib.hid hN0
        have HS := Lib.hid hS
        clear hU hOk' hN hN0 hS hk1 hk2 hb4 hr4 hl4 hwo hLo wU ws wp hOK ra0 ra1 rb0 rb1 rc0 rc1 re0 re1 re2 ez
        clear hOp_6
        obtain ⟨zvk0, zvk1, _, _, _⟩ := hOvk_6.out
        go_wp2_with fail
        refine (HU.out _ (hOk_6.out.wide (Nat.zero_le _) (by omega)) (hOl1_6.out.wide (Nat.zero_le _) (by omega))).mono ?_
        rintro e w7 ⟨A7', c7', B7', d7', rfl, ho7, hb7⟩
        have hB7 := btr hB6 hb7
        have hS7 := hb7.size
        have hOk_7 := Lib.hid (hOk_6.out.below hb7 (by omega))
        have hOl1_7 := Lib.hid (hOl1_6.out.below hb7 (by omega))
        have hOl2_7 := Lib.hid (hOl2_6.out.below hb7 (by omega))
        have hOvk_7 := Lib.hid (hOvk_6.out.below hb7 )
        have hOo_7 := Lib.hid (HX.out.below hb7 (by omega))
        have hOx_7 := Lib.hid ho7
        clear hOk_6 hOl1_6 hOl2_6 hOvk_6 HX ho7 hb7
        clear zvk0 zvk1
        have hb8 : Below w7.heap.size w7 (w7.alloc (.cells #[.slice A7' n0 c7', .slice B7' m0 d7'] 27)) := (Below.refl _ _).alloc (Nat.le_refl _) _
        have hB8 := btr hB7 hb8
        have hS8 : w7.heap.size < (w7.alloc (.cells #[.slice A7' n0 c7', .slice B7' m0 d7'] 27)).heap.size := by simp
        have hOk_8 := Lib.hid (hOk_7.out.below hb8 (by omega))
        have hOl1_8 := Lib.hid (hOl1_7.out.below hb8 (by omega))
        have hOl2_8 := Lib.hid (hOl2_7.out.below hb8 (by omega))
        have hOvk_8 := Lib.hid (hOvk_7.out.below hb8 )
        have hOo_8 := Lib.hid (hOo_7.out.below hb8 (by omega))
        have hOx_8 := Lib.hid (hOx_7.out.below hb8 (by omega))
        have hOvx_8 := Lib.hid (Two.new w7 (.slice A7' n0 c7') (.slice B7' m0 d7') 27)
        clear hOk_7 hOl1_7 hOl2_7 hOvk_7 hOo_7 hOx_7 hb8
        go_wp2_with fail
        refine Ord.wp_region_ord (fun w' => (w'.cell? ⟨w1.heap.size, 0, none⟩ = some (.slice A0 n0 e0) ∧ w'.cell? ⟨w1.heap.size, 1, none⟩ = some (.slice B0 m0 d0)) ∧ w'.cell? ⟨w7.heap.size, 0, none⟩ = some (.slice A7' n0 c7') ∧ w'.cell? ⟨w7.heap.size, 1, none⟩ = some (.slice B7' m0 d7')) [(0, true), (1, true), (2, true), (3, false), (4, true), (5, true), (7, true), (6, false), (8, false), (9, true), (10, true), (11, true), (12, true), (14, true), (16, true), (17, true), (13, false), (15, false), (18, false), (19, true), (20, true), (21, true), (22, true), (23, true)] (by kernel_rfl) (by kernel_rfl) rfl (by kernel_rfl) (⟨⟨hOvk_8.out.1, hOvk_8.out.2.1⟩, hOvx_8.out.1, hOvx_8.out.2.1⟩) ?_
        simp only [Ord.ordOps, List.getElem?_toArray, List.getElem?_cons_zero, List.getElem?_cons_succ]
        repeat (first
          | (refine Ord.ord_plain (v := ?_) rfl (fun w' hS => ?_) ?_; rotate_left; (focus ((try dsimp only at hS); go_simp; first | done | with_reducible rfl)); simp only [Act.put, List.setIfInBounds_toArray, List.set_cons_zero, List.set_cons_succ])
          | (refine Ord.ord_skip (by rfl) ?_; simp only [Act.put, List.setIfInBounds_toArray, List.set_cons_zero, List.set_cons_succ])
          | (refine Ord.ord_take (v := ?_) (by rfl) (fun w' hS => ?_) ?_; rotate_left; (focus ((try dsimp only at hS); go_simp; first | done | with_reducible rfl)); simp only [Act.put, List.setIfInBounds_toArray, List.set_cons_zero, List.set_cons_succ]))
        have hb9 : Below (w7.alloc (.cells #[.slice A7' n0 c7', .slice B7' m0 d7'] 27)).heap.size (w7.alloc (.cells #[.slice A7' n0 c7', .slice B7' m0 d7'] 27)) (w7.alloc (.cells #[.slice A7' n0 c7', .slice B7' m0 d7'] 27)).drew := (Below.refl _ _).drew
        have hB9 := btr hB8 hb9
        have hS9 : (w7.alloc (.cells #[.slice A7' n0 c7', .slice B7' m0 d7'] 27)).heap.size ≤ (w7.alloc (.cells #[.slice A7' n0 c7', .slice B7' m0 d7'] 27)).drew.heap.size := hb9.size
        have hOk_9 := Lib.hid (hOk_8.out.below hb9 (by omega))
        have hOl1_9 := Lib.hid (hOl1_8.out.below hb9 (by omega))
        have hOl2_9 := Lib.hid (hOl2_8.out.below hb9 (by omega))
        have hOvk_9 := Lib.hid (hOvk_8.out.below hb9 )
        have hOo_9 := Lib.hid (hOo_8.out.below hb9 (by omega))
        have hOx_9 := Lib.hid (hOx_8.out.below hb9 (by omega))
        have hOvx_9 := Lib.hid (hOvx_8.out.below hb9 )
        clear hOk_8 hOl1_8 hOl2_8 hOvk_8 hOo_8 hOx_8 hOvx_8 hb9
        refine Ord.ord_call (fun K hK => ?_)
        go_simp
        refine (HOK.out _ _ _ _ _ _ _ (hOx_9.out.reads.wide (Nat.zero_le _) (by omega)) (hOl1_9.out.wide (Nat.zero_le _) (by omega)) (hOo_9.out.wide (Nat.zero_le _) (by omega))).mono ?_
        rintro e w10 ⟨rfl, hb10⟩
        have hB10 := btr hB9 hb10
        have hS10 := hb10.size
        have hOk_10 := Lib.hid (hOk_9.out.below hb10 (by omega))
        have hOl1_10 := Lib.hid (hOl1_9.out.below hb10 (by omega))
        have hOl2_10 := Lib.hid (hOl2_9.out.below hb10 (by omega))
        have hOvk_10 := Lib.hid (hOvk_9.out.below hb10 )
        have hOo_10 := Lib.hid (hOo_9.out.below hb10 (by omega))
        have hOx_10 := Lib.hid (hOx_9.out.below hb10 (by omega))
        have hOvx_10 := Lib.hid (hOvx_9.out.below hb10 )
        clear hOk_9 hOl1_9 hOl2_9 hOvk_9 hOo_9 hOx_9 hOvx_9 hb10
        refine hK.out _ _ (⟨⟨hOvk_10.out.1, hOvk_10.out.2.1⟩, hOvx_10.out.1, hOvx_10.out.2.1⟩) ?_
        clear hK K
        repeat (first
          | (refine Ord.ord_plain (v := ?_) rfl (fun w' hS => ?_) ?_; rotate_left; (focus ((try dsimp only at hS); go_simp; first | done | with_reducible rfl)); simp only [Act.put, List.setIfInBounds_toArray, List.set_cons_zero, List.set_cons_succ])
          | (refine Ord.ord_skip (by rfl) ?_; simp only [Act.put, List.setIfInBounds_toArray, List.set_cons_zero, List.set_cons_succ])
          | (refine Ord.ord_take (v := ?_) (by rfl) (fun w' hS => ?_) ?_; rotate_left; (focus ((try dsimp only at hS); go_simp; first | done | with_reducible rfl)); simp only [Act.put, List.setIfInBounds_toArray, List.set_cons_zero, List.set_cons_succ]))
        refine Ord.ord_call (fun K hK => ?_)
        go_simp
        refine (HN.out _ _ _ _ 0 _ (hOx_10.out.reads.wide (Nat.zero_le _) (by omega))).mono ?_
        rintro e w11 ⟨rfl, hb11⟩
        have hB11 := btr hB10 hb11
        have hS11 := hb11.size
        have hOk_11 := Lib.hid (hOk_10.out.below hb11 (by omega))
        have hOl1_11 := Lib.hid (hOl1_10.out.below hb11 (by omega))
        have hOl2_11 := Lib.hid (hOl2_10.out.below hb11 (by omega))
        have hOvk_11 := Lib.hid (hOvk_10.out.below hb11 )
        have hOo_11 := Lib.hid (hOo_10.out.below hb11 (by omega))
        have hOx_11 := Lib.hid (hOx_10.out.below hb11 (by omega))
        have hOvx_11 := Lib.hid (hOvx_10.out.below hb11 )
        clear hOk_10 hOl1_10 hOl2_10 hOvk_10 hOo_10 hOx_10 hOvx_10 hb11
        refine hK.out _ _ (⟨⟨hOvk_11.out.1, hOvk_11.out.2.1⟩, hOvx_11.out.1, hOvx_11.out.2.1⟩) ?_
        clear hK K
        repeat (first
          | (refine Ord.ord_plain (v := ?_) rfl (fun w' hS => ?_) ?_; rotate_left; (focus ((try dsimp only at hS); go_simp; first | done | with_reducible rfl)); simp only [Act.put, List.setIfInBounds_toArray, List.set_cons_zero, List.set_cons_succ])
          | (refine Ord.ord_skip (by rfl) ?_; simp only [Act.put, List.setIfInBounds_toArray, List.set_cons_zero, List.set_cons_succ])
          | (refine Ord.ord_take (v := ?_) (by rfl) (fun w' hS => ?_) ?_; rotate_left; (focus ((try dsimp only at hS); go_simp; first | done | with_reducible rfl)); simp only [Act.put, List.setIfInBounds_toArray, List.set_cons_zero, List.set_cons_succ]))
        refine Ord.ord_call (fun K hK => ?_)
        go_simp
        refine (HN0.out _ 0 (hOk_11.out.wide (Nat.zero_le _) (by omega))).mono ?_
        rintro e w12 ⟨rfl, hb12⟩
        have hB12 := btr hB11 hb12
        have hS12 := hb12.size
        have hOk_12 := Lib.hid (hOk_11.out.below hb12 (by omega))
        have hOl1_12 := Lib.hid (hOl1_11.out.below hb12 (by omega))
        have hOl2_12 := Lib.hid (hOl2_11.out.below hb12 (by omega))
        have hOvk_12 := Lib.hid (hOvk_11.out.below hb12 )
        have hOo_12 := Lib.hid (hOo_11.out.below hb12 (by omega))
        have hOx_12 := Lib.hid (hOx_11.out.below hb12 (by omega))
        have hOvx_12 := Lib.hid (hOvx_11.out.below hb12 )
        clear hOk_11 hOl1_11 hOl2_11 hOvk_11 hOo_11 hOx_11 hOvx_11 hb12
        refine hK.out _ _ (⟨⟨hOvk_12.out.1, hOvk_12.out.2.1⟩, hOvx_12.out.1, hOvx_12.out.2.1⟩) ?_
        clear hK K
        repeat (first
          | (refine Ord.ord_plain (v := ?_) rfl (fun w' hS => ?_) ?_; rotate_left; (focus ((try dsimp only at hS); go_simp; first | done | with_reducible rfl)); simp only [Act.put, List.setIfInBounds_toArray, List.set_cons_zero, List.set_cons_succ])
          | (refine Ord.ord_skip (by rfl) ?_; simp only [Act.put, List.setIfInBounds_toArray, List.set_cons_zero, List.set_cons_succ])
          | (refine Ord.ord_take (v := ?_) (by rfl) (fun w' hS => ?_) ?_; rotate_left; (focus ((try dsimp only at hS); go_simp; first | done | with_reducible rfl)); simp only [Act.put, List.setIfInBounds_toArray, List.set_cons_zero, List.set_cons_succ]))
        refine Ord.ord_call (fun K hK => ?_)
        go_simp
        refine (HN.out _ _ _ _ 0 _ (hOx_12.out.reads.wide (Nat.zero_le _) (by omega))).mono ?_
        rintro e w13 ⟨rfl, hb13⟩
        have hB13 := btr hB12 hb13
        have hS13 := hb13.size
        have hOk_13 := Lib.hid (hOk_12.out.below hb13 (by omega))
        have hOl1_13 := Lib.hid (hOl1_12.out.below hb13 (by omega))
        have hOl2_13 := Lib.hid (hOl2_12.out.below hb13 (by omega))
        have hOvk_13 := Lib.hid (hOvk_12.out.below hb13 )
        have hOo_13 := Lib.hid (hOo_12.out.below hb13 (by omega))
        have hOx_13 := Lib.hid (hOx_12.out.below hb13 (by omega))
        have hOvx_13 := Lib.hid (hOvx_12.out.below hb13 )
        clear hOk_12 hOl1_12 hOl2_12 hOvk_12 hOo_12 hOx_12 hOvx_12 hb13
        refine hK.out _ _ (⟨⟨hOvk_13.out.1, hOvk_13.out.2.1⟩, hOvx_13.out.1, hOvx_13.out.2.1⟩) ?_
        clear hK K
        repeat (first
          | (refine Ord.ord_plain (v := ?_) rfl (fun w' hS => ?_) ?_; rotate_left; (focus ((try dsimp only at hS); go_simp; first | done | with_reducible rfl)); simp only [Act.put, List.setIfInBounds_toArray, List.set_cons_zero, List.set_cons_succ])
          | (refine Ord.ord_skip (by rfl) ?_; simp only [Act.put, List.setIfInBounds_toArray, List.set_cons_zero, List.set_cons_succ])
          | (refine Ord.ord_take (v := ?_) (by rfl) (fun w' hS => ?_) ?_; rotate_left; (focus ((try dsimp only at hS); go_simp; first | done | with_reducible rfl)); simp only [Act.put, List.setIfInBounds_toArray, List.set_cons_zero, List.set_cons_succ]))
        refine Ord.ord_call (fun K hK => ?_)
        go_simp
        refine (HN0.out _ 0 (hOk_13.out.wide (Nat.zero_le _) (by omega))).mono ?_
        rintro e w14 ⟨rfl, hb14⟩
        have hB14 := btr hB13 hb14
        have hS14 := hb14.size
        have hOk_14 := Lib.hid (hOk_13.out.below hb14 (by omega))
        have hOl1_14 := Lib.hid (hOl1_13.out.below hb14 (by omega))
        have hOl2_14 := Lib.hid (hOl2_13.out.below hb14 (by omega))
        have hOvk_14 := Lib.hid (hOvk_13.out.below hb14 )
        have hOo_14 := Lib.hid (hOo_13.out.below hb14 (by omega))
        have hOx_14 := Lib.hid (hOx_13.out.below hb14 (by omega))
        have hOvx_14 := Lib.hid (hOvx_13.out.below hb14 )
        clear hOk_13 hOl1_13 hOl2_13 hOvk_13 hOo_13 hOx_13 hOvx_13 hb14
        refine hK.out _ _ (⟨⟨hOvk_14.out.1, hOvk_14.out.2.1⟩, hOvx_14.out.1, hOvx_14.out.2.1⟩) ?_
        clear hK K
        repeat (first
          | (refine Ord.ord_plain (v := ?_) rfl (fun w' hS => ?_) ?_; rotate_left; (focus ((try dsimp only at hS); go_simp; first | done | with_reducible rfl)); simp only [Act.put, List.setIfInBounds_toArray, List.set_cons_zero, List.set_cons_succ])
          | (refine Ord.ord_skip (by rfl) ?_; simp only [Act.put, List.setIfInBounds_toArray, List.set_cons_zero, List.set_cons_succ])
          | (refine Ord.ord_take (v := ?_) (by rfl) (fun w' hS => ?_) ?_; rotate_left; (focus ((try dsimp only at hS); go_simp; first | done | with_reducible rfl)); simp only [Act.put, List.setIfInBounds_toArray, List.set_cons_zero, List.set_cons_succ]))
        refine Ord.ord_call (fun K hK => ?_)
        go_simp
        refine (HS.out _ 0 (hOl1_14.out.wide (Nat.zero_le _) (by omega))).mono ?_
        rintro e w15 ⟨Au15, nu15, cu15, rfl, hlu, ho15, hb15⟩
        subst hlu
        have hB15 := btr hB14 hb15
        have hS15 := hb15.size
        have hOk_15 := Lib.hid (hOk_14.out.below hb15 (by omega))
        have hOl1_15 := Lib.hid (hOl1_14.out.below hb15 (by omega))
        have hOl2_15 := Lib.hid (hOl2_14.out.below hb15 (by omega))
        have hOvk_15 := Lib.hid (hOvk_14.out.below hb15 )
        have hOo_15 := Lib.hid (hOo_14.out.below hb15 (by omega))
        have hOx_15 := Lib.hid (hOx_14.out.below hb15 (by omega))
        have hOvx_15 := Lib.hid (hOvx_14.out.below hb15 )
        have hOus_15 := Lib.hid ho15
        clear hOk_14 hOl1_14 hOl2_14 hOvk_14 hOo_14 hOx_14 hOvx_14 ho15 hb15
        refine hK.out _ _ (⟨⟨hOvk_15.out.1, hOvk_15.out.2.1⟩, hOvx_15.out.1, hOvx_15.out.2.1⟩) ?_
        clear hK K
        repeat (first
          | (refine Ord.ord_plain (v := ?_) rfl (fun w' hS => ?_) ?_; rotate_left; (focus ((try dsimp only at hS); go_simp; first | done | with_reducible rfl)); simp only [Act.put, List.setIfInBounds_toArray, List.set_cons_zero, List.set_cons_succ])
          | (refine Ord.ord_skip (by rfl) ?_; simp only [Act.put, List.setIfInBounds_toArray, List.set_cons_zero, List.set_cons_succ])
          | (refine Ord.ord_take (v := ?_) (by rfl) (fun w' hS => ?_) ?_; rotate_left; (focus ((try dsimp only at hS); go_simp; first | done | with_reducible rfl)); simp only [Act.put, List.setIfInBounds_toArray, List.set_cons_zero, List.set_cons_succ]))
        refine Ord.ord_nil ?_
        go_wp2_with fail
        go_ret
        exact ⟨rfl, hB15⟩
      · have hne : ((p2 : Int) != 8) = true := by simp; omega
        rw [hb0] at hok
        have HK := Lib.hid hok
        clear hok
        go_wp2_with fail
        refine (HK.out _ (hOk_3.out.wide (Nat.zero_le _) (by omega)) (hOl1_3.out.wide (Nat.zero_le _) (by omega)) (hOl2_3.out.wide (Nat.zero_le _) (by omega))).mono ?_
        rintro e w4 ⟨rfl, hb4⟩
        have hB4 := btr hB3 hb4
        have hS4 := hb4.size
        have hOk_4 := Lib.hid (hOk_3.out.below hb4 (by omega))
        have hOl1_4 := Lib.hid (hOl1_3.out.below hb4 (by omega))
        have hOl2_4 := Lib.hid (hOl2_3.out.below hb4 (by omega))
        have hOvk_4 := Lib.hid (hOvk_3.out.below hb4 )
        have hOp_4 := Lib.hid (hOp_3.out.below hb4 )
        clear hOk_3 hOl1_3 hOl2_3 hOvk_3 hOp_3 hb4
        go_wp2_with fail
        refine (N3 _).mono ?_
        rintro e w5 ⟨A5', c5', B5', d5', rfl, ho5, hb5⟩
        have hB5 := btr hB4 hb5
        have hS5 := hb5.size
        have hOk_5 := Lib.hid (hOk_4.out.below hb5 (by omega))
        have hOl1_5 := Lib.hid (hOl1_4.out.below hb5 (by omega))
        have hOl2_5 := Lib.hid (hOl2_4.out.below hb5 (by omega))
        have hOvk_5 := Lib.hid (hOvk_4.out.below hb5 )
        have hOp_5 := Lib.hid (hOp_4.out.below hb5 )
        have hOn3_5 := Lib.hid ho5
        clear hOk_4 hOl1_4 hOl2_4 hOvk_4 hOp_4 ho5 hb5
        have hfl := field1
        go_wp2_with fail
        go_ret
        exact ⟨rfl, hB5⟩

/-! ### The row's step -/
set_option maxRecDepth 100000 in
theorem lifted (os : Os) (started : os.Started) (H : Type) (enc : TypeId × Value → H) :
    ReturnsInHanded {} Try.checked os 4 .any (Rows.fnForgottenSpec.pre6 enc Try.prog Try.f4 Rows.fnForgottenRow.domain false) (Rows.fnForgottenSpec.post enc Try.prog Try.f4 false true false false) := by
  refine returnsInHanded_of_change (C := Try.checked) Base.own started (by kernel_rfl) Try.func4
    (ChangeSpec.witness6 (enc := enc) (C := Try.checked) false ⟨#[], #[.slice none 0 0], []⟩ 8 (by kernel_rfl) (by kernel_rfl) (by kernel_rfl) (by kernel_rfl)) ?_
  intro W base args ds gs before hval0 hW hcnd _
  have hval : ∀ (j : Nat) t v, Try.f4.params[j]? = some t → args[j]? = some v → Value.okWide Try.prog W .any base t v := hval0
  have hW' := hW
  obtain ⟨p, q, hA0, hV, rfl, hfz, hnd⟩ := hW
  have hA : DataW.TrodAll enc Try.prog W 0 (fun _ => true) true Try.f4.params.toList args.toList ds p := hA0
  have hA1 := hA
  rw [Try.params4] at hA hval
  obtain ⟨v0, vs0, d0, ds0, p0, q0, hargs, rfl, rfl, h0, r0⟩ := trodAll_cons hA
  obtain ⟨rfl, rfl, rfl⟩ := trodAll_nil r0
  obtain rfl : args = #[v0] := by cases args; simp_all
  obtain ⟨rfl, rfl⟩ := trodVars_none hV
  obtain ⟨A0, n0, c0, rfl, hn0, hcode0, _⟩ := Draw.open_code (hval 0 22 v0 rfl rfl) h0
  clear hA0 hval0
  rw [List.append_nil] at hW'
  refine (walk A0 n0 c0 hn0 hcode0).mono fun e W' ⟨he, hg⟩ => ?_
  subst he
  exact ⟨_, rfl, Mem.post_args Slots.laid (by kernel_rfl) rfl rfl rfl hW' hA1 hg (fun _ _ _ => (trodAll_cons_mk (shut_bool Try.underlying4 _) trodAll_mk0)) (ok_one (by kernel_rfl) rfl (okWide_bool_mk Try.underlying4 _))⟩

theorem over : Rows.fnForgottenRow.holds Try.pinned (OpenSpec.ofChange Rows.fnForgottenSpec) :=
  OpenClaim.holds_of_wide 4 Try.f4 rfl rfl rfl rfl rfl rfl rfl ⟨rfl, rfl, rfl, rfl, rfl⟩ rfl rfl rfl rfl rfl (by kernel_rfl) Try.func4 (by kernel_rfl)
    (of_decide_eq_true (by kernel_rfl)) (by unfold Func.isWrapper; first | (rw [if_pos (by decide +kernel)]; kernel_rfl) | (rw [if_neg (by decide +kernel)]; exact ⟨rfl, rfl⟩))
    (fun os started H enc _ => lifted os started H enc)

/-- The given statement. -/
theorem proved : Rows.FnForgottenSaid :=
  over
#print axioms proved
end Go.Proofs.Ytfgckkgakghenaa.fnForgotten
