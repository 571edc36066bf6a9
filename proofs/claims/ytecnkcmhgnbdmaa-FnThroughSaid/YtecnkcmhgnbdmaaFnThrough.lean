/-
  For every slice of bytes the law FnThrough returns true: composition with the identity table is the identity, composition with an empty table maps nothing, and a table restricted to no rights maps nothing. No condition.
-/
import Derived.Test.YtecnkcmhgnbdmaaTwoLaws
import Derived.Test.YtecnkcmhgnbdmaaTwoDraws
import Derived.Test.YtecnkcmhgnbdmaaTabN
import Derived.Test.YtecnkcmhgnbdmaaSlotArgs
import Derived.Test.YtecnkcmhgnbdmaaPlaces
import Derived.Test.YtecnkcmhgnbdmaaBig
namespace Go.Proofs.Ytecnkcmhgnbdmaa.fnThrough
open Go.ChangeShapes Go.WideShapes Go.ChangeAt Go.RowKit
open Go.Proofs.Ytecnkcmhgnbdmaa.Base Go.Proofs.Ytecnkcmhgnbdmaa.Mem Go.Proofs.Ytecnkcmhgnbdmaa.Slots Go.Proofs.Ytecnkcmhgnbdmaa.Ints Go.Proofs.Ytecnkcmhgnbdmaa.Draw Go.Proofs.Ytecnkcmhgnbdmaa.SDraw
set_option linter.unusedVariables false

def idL (k : Nat) : List Sl := (List.range k).map fun (i : Nat) => ((i : Int), (3 : Int))
theorem idL_len (k : Nat) : (idL k).length = k := by simp [idL]
theorem idL_snoc (k : Nat) : idL (k + 1) = idL k ++ [((k : Int), 3)] := by simp [idL, List.range_succ]
def inn (p0 p1 p2 p3 p4 p5 p6 p7 : Int) : List Sl := [(p0 % 8, 1 + p4 % 3), (p1 % 8, 1 + p5 % 3), (p2 % 8, 1 + p6 % 3), (p3 % 8, 1 + p7 % 3)]
theorem wf_id : wfL (idL 8) := fun s hs => by
  have h : s ∈ [((0 : Int), (3 : Int)), (1, 3), (2, 3), (3, 3), (4, 3), (5, 3), (6, 3), (7, 3)] := hs
  simp only [List.mem_cons, List.not_mem_nil, or_false] at h
  rcases h with rfl | rfl | rfl | rfl | rfl | rfl | rfl | rfl <;> exact ⟨by decide, by decide⟩
theorem id_at {x : Int} (h0 : 0 ≤ x) (h1 : x < 8) : atS (idL 8) x = (x, 3) := by
  have : x = 0 ∨ x = 1 ∨ x = 2 ∨ x = 3 ∨ x = 4 ∨ x = 5 ∨ x = 6 ∨ x = 7 := by omega
  rcases this with rfl | rfl | rfl | rfl | rfl | rfl | rfl | rfl <;> rfl
def inS (s : Sl) : Prop := 0 ≤ s.1 ∧ s.1 < 8 ∧ 1 ≤ s.2 ∧ s.2 ≤ 3
theorem comp_id {s : Sl} (h : inS s) : compS s (idL 8) = s := by
  obtain ⟨x, y⟩ := s
  obtain ⟨h0, h1, h2, h3⟩ := h
  simp only at h0 h1 h2 h3
  unfold compS
  simp only [id_at h0 h1]
  rw [if_neg (by omega)]
  have hy : y = 1 ∨ y = 2 ∨ y = 3 := by omega
  have e : Rights.both y 3 = y := by rcases hy with rfl | rfl | rfl <;> decide +kernel
  rw [e, grantS_no (by omega)]
theorem nos_at (n : Nat) (x : Int) : atS (nosL n) x = (-1, 0) := by
  unfold atS
  split
  · rw [List.getD_eq_getElem?_getD]
    cases e : (nosL n)[x.toNat]? with
    | none => rfl
    | some v => exact List.eq_of_mem_replicate (List.mem_of_getElem? e)
  · rfl
theorem inn_in {p0 p1 p2 p3 p4 p5 p6 p7 : Int} : ∀ s ∈ inn p0 p1 p2 p3 p4 p5 p6 p7, inS s := fun s hs => by
  simp only [inn, List.mem_cons, List.not_mem_nil, or_false] at hs
  rcases hs with rfl | rfl | rfl | rfl <;> exact ⟨by simp only; omega, by simp only; omega, by simp only; omega, by simp only; omega⟩
theorem wf_in {s : Sl} (h : inS s) : wfS s := by
  obtain ⟨x, y⟩ := s
  obtain ⟨h0, h1, h2, h3⟩ := h
  simp only at h0 h1 h2 h3
  have hy : y = 1 ∨ y = 2 ∨ y = 3 := by omega
  have hx : x = 0 ∨ x = 1 ∨ x = 2 ∨ x = 3 ∨ x = 4 ∨ x = 5 ∨ x = 6 ∨ x = 7 := by omega
  constructor
  · show (Lit.int .i64 x).wf = true
    rcases hx with rfl | rfl | rfl | rfl | rfl | rfl | rfl | rfl <;> decide
  · show (Lit.int .i64 y).wf = true
    rcases hy with rfl | rfl | rfl <;> decide
theorem through {I : List Sl} (h : ∀ s ∈ I, inS s) (hl : I.length = 4) : wfL I ∧ compL I (idL 8) = I ∧ compL I (nosL 8) = nosL 4 ∧ restL I 0 = nosL 4 := by
  refine ⟨fun s hs => wf_in (h s hs), ?_, ?_, ?_⟩
  · unfold compL
    conv => rhs; rw [← List.map_id I]
    exact List.map_congr_left fun s hs => comp_id (h s hs)
  · unfold compL
    rw [show nosL 4 = List.replicate I.length (-1, 0) by rw [hl]; rfl]
    exact List.eq_replicate_iff.2 ⟨by simp, fun b hb => by
      obtain ⟨s, _, rfl⟩ := List.mem_map.1 hb
      unfold compS
      rw [nos_at]; rfl⟩
  · unfold restL
    rw [show nosL 4 = List.replicate I.length (-1, 0) by rw [hl]; rfl]
    exact List.eq_replicate_iff.2 ⟨by simp, fun b hb => by
      obtain ⟨s, _, rfl⟩ := List.mem_map.1 hb
      unfold restS
      rw [Rights.both_comm, both_0]; rfl⟩
theorem new8 : newN 8 = 8 := by decide
theorem wf_nos (n : Nat) : wfL (nosL n) := fun s hs => by
  rw [List.eq_of_mem_replicate hs]; exact wfS_no
theorem pcell {w : World} {base g n c : Nat} {e : TypeId} {l : List Int} (h : w.ownsRow base e 1 (.slice (some ⟨g, 0, none⟩) n c) n (icells l)) (k : Nat) (hk : k < l.length) : w.cell? ⟨g, k, none⟩ = some (.int .i64 l[k]) := by
  have hl := h.1
  simp only [icells, List.length_map] at hl
  rw [h.cellAt k (by omega)]
  simp [icells, hk]

set_option maxRecDepth 100000 in
set_option maxHeartbeats 8000000 in
theorem walk (A : Option Addr) (n c : Nat) (hn : n ≤ maxLen) {w : World} (hcode : CodeAt w A n) :
    Calls Try.prog 5 #[.slice A n c] w fun e w' => e = .returned (.bool true) ∧ Below w.heap.size w w' := by
  obtain ⟨i0, hi0, hz0, hz1, hz2⟩ := info_parts Try.infoSlotT
  have hn' : n ≤ 9223372036854775807 := hn
  have HC := Lib.hid (show ∀ W, Below w.heap.size w W → CodeAt W A n from fun W hb => hcode.below hb)
  clear hcode hn
  by_cases h1 : 1048576 < n
  · go_enter Try.func5, Try.ntmps5
    go_wp2_with (go_at_call 11; refine (big_yes A n c _ hn' h1).mono ?_; rintro e w' ⟨rfl, rfl⟩)
    go_ret
    exact ⟨rfl, Below.refl _ _⟩
  · have hn2 : n ≤ 1048576 := by omega
    clear h1 hn'
    go_enter Try.func5, Try.ntmps5
    go_wp2_with (go_at_call 11; refine (big_no A n c _ hn2).mono ?_; rintro e w' ⟨rfl, rfl⟩)
    refine (places_any A n c _ hn2 (HC.out _ (Below.refl _ _))).mono ?_
    rintro e w1 ⟨gp, capp, l, rfl, hl, hall, hown, hb1⟩
    obtain ⟨p0, p1, p2, p3, p4, p5, p6, p7, p8, p9, p10, p11, rfl⟩ := list12 hl
    have HR := Lib.hid (And.intro (And.intro (hall p0 (by simp)) (And.intro (hall p1 (by simp)) (And.intro (hall p2 (by simp)) (hall p3 (by simp))))) (And.intro (hall p4 (by simp)) (And.intro (hall p5 (by simp)) (And.intro (hall p6 (by simp)) (hall p7 (by simp))))))
    have hgl := (hown.lt gp rfl).2
    have HP := Lib.hid (show ∀ W, Below w1.heap.size w1 W → W.cell? ⟨gp, 0, none⟩ = some (.int .i64 p0) ∧ W.cell? ⟨gp, 1, none⟩ = some (.int .i64 p1) ∧ W.cell? ⟨gp, 2, none⟩ = some (.int .i64 p2) ∧ W.cell? ⟨gp, 3, none⟩ = some (.int .i64 p3) ∧ W.cell? ⟨gp, 4, none⟩ = some (.int .i64 p4) ∧ W.cell? ⟨gp, 5, none⟩ = some (.int .i64 p5) ∧ W.cell? ⟨gp, 6, none⟩ = some (.int .i64 p6) ∧ W.cell? ⟨gp, 7, none⟩ = some (.int .i64 p7) from fun W hb =>
      ⟨(hb.cell (p := ⟨gp, 0, none⟩) hgl).trans (pcell hown 0 (by simp)), (hb.cell (p := ⟨gp, 1, none⟩) hgl).trans (pcell hown 1 (by simp)), (hb.cell (p := ⟨gp, 2, none⟩) hgl).trans (pcell hown 2 (by simp)), (hb.cell (p := ⟨gp, 3, none⟩) hgl).trans (pcell hown 3 (by simp)), (hb.cell (p := ⟨gp, 4, none⟩) hgl).trans (pcell hown 4 (by simp)), (hb.cell (p := ⟨gp, 5, none⟩) hgl).trans (pcell hown 5 (by simp)), (hb.cell (p := ⟨gp, 6, none⟩) hgl).trans (pcell hown 6 (by simp)), (hb.cell (p := ⟨gp, 7, none⟩) hgl).trans (pcell hown 7 (by simp))⟩)
    have HB1 := Lib.hid hb1
    have hmade := Lib.hid (And.intro ((World.ownsRow_made (base := w1.heap.size) (e := 30) (size := 2) w1 #[] 0 (Nat.le_refl _) (Nat.zero_le _) rfl).alloc (.cells #[] 30)) (And.intro (made2 w1 (.cells #[] 30) 30) (((Below.refl w1.heap.size w1).alloc (Nat.le_refl _) (.cells #[] 30)).alloc (by simp) (.cells #[] 30))))
    clear hall hown hl HC hb1
    go_wp2_with fail
    go_loopw [4, 6] (fun v i wr => ∃ (k g cap : Nat), k ≤ 8 ∧ i = .int .i64 k ∧ v = .slice (some ⟨g, 0, none⟩) k cap ∧ wr.ownsRow w1.heap.size 30 2 (.slice (some ⟨g, 0, none⟩) k cap) k (scells (idL k)) ∧ wr.ownsRow w1.heap.size 30 2 (.slice (some ⟨w1.heap.size + 1, 0, none⟩) 0 0) 0 (scells []) ∧ g ≠ w1.heap.size + 1 ∧ Below w1.heap.size w1 wr) (fun _ i _ => 8 - (intOf i).toNat)
    case atStart => exact ⟨0, w1.heap.size, 0, Nat.zero_le _, rfl, rfl, hmade.out.1, hmade.out.2.1, by omega, hmade.out.2.2⟩
    case round =>
      obtain ⟨k, g, cap, hk, rfl, rfl, hown, hin, hgn, hb⟩ := hrel
      have hbs := hb.size
      have hgi : w1.heap.size + 1 < wr.heap.size := (hin.lt _ rfl).2
      by_cases hlt : k < 8
      · have hk3 : (k : Int) < 8 := by omega
        have HI := Lib.hid hin
        clear hin
        go_wp2_with (at_builtin; refine wpList_append_lies _ rfl _ _ 24 rfl w1.heap.size 30 i0 _ 2 16 Try.underlying24 hi0 hz0 hz1 hz2 rfl (by omega) (.slice (some ⟨g, 0, none⟩) k cap) k _ rfl (hown.alloc _) ⟨wr.heap.size, 0, none⟩ 1 1 [.int .i64 (k : Int), .int .i64 3] rfl rfl (World.news_of_block (heap_alloc_new wr _)) (by simp [Value.oneCell']) (by omega) (by simp only [maxLen]; omega) (by omega) (by simp; omega) (wr.heap.size + 1) (by simp) ?_; intro g' cap' w2 hown2 hgrow hat hg2)
        have hown3 : w2.ownsRow w1.heap.size 30 2 (.slice (some ⟨g', 0, none⟩) (k + 1) cap') (k + 1) (scells (idL (k + 1))) := by rw [idL_snoc, scells_append]; exact hown2
        have hbw2 : Below w1.heap.size w1 w2 := (hb.alloc (by first | omega | (simp; omega)) _).grown hgrow (by first | omega | (simp; omega)) (fun j hj => (hown.lt j hj).1)
        have hin2 := (HI.out.alloc (.cells #[.int .i64 (k : Int), .int .i64 3] 30)).kept hgrow (.inr (by simp [Value.ownBlock]; omega))
        have hgn2 : g' ≠ w1.heap.size + 1 := by
          rcases hat with h | h
          · simp [Value.ownBlock] at h; omega
          · omega
        have HF := Lib.hid (And.intro hown3 (And.intro hin2 (And.intro hgn2 hbw2)))
        clear hown2 hgrow hat hg2 hown3 hbw2 hin2 hgn2 HI
        go_roundw
        case rel => exact ⟨k + 1, g', cap', by omega, by go_num, rfl, HF.out.1, HF.out.2.1, HF.out.2.2.1, HF.out.2.2.2⟩
        case measure => simp [intOf]; omega
      · obtain rfl : k = 8 := by omega
        have HO := Lib.hid hown
        have HI := Lib.hid hin
        have HB := Lib.hid hb
        have hgo := (hown.lt g rfl).2
        clear hown hin hb hmade hk
        rw [show ((8 : Nat) : Int) = 8 from rfl]
        go_wp2_with fail
        go_loopw [5, 7] (fun v i wr => ∃ (z : Int) (k g2 cap2 : Nat), z = (k : Int) ∧ k ≤ 4 ∧ i = .int .i64 z ∧ v = .slice (some ⟨g2, 0, none⟩) k cap2 ∧ wr.ownsRow w1.heap.size 30 2 (.slice (some ⟨g2, 0, none⟩) k cap2) k (scells ((inn p0 p1 p2 p3 p4 p5 p6 p7).take k)) ∧ wr.ownsRow w1.heap.size 30 2 (.slice (some ⟨g, 0, none⟩) 8 cap) 8 (scells (idL 8)) ∧ g2 ≠ g ∧ Below w1.heap.size w1 wr) (fun _ i _ => 4 - (intOf i).toNat)
        case atStart => exact ⟨0, 0, w1.heap.size + 1, 0, rfl, Nat.zero_le _, rfl, rfl, HI.out, HO.out, by omega, HB.out⟩
        case round =>
          obtain ⟨z, k, g2, cap2, hzk, hk, rfl, rfl, hown, hout, hne, hb⟩ := hrel
          have hbs := hb.size
          have hgo2 : g < wr.heap.size := (hout.lt _ rfl).2
          have HO2 := Lib.hid hout
          have HB2 := Lib.hid hb
          clear hout hb HO HI HB
          by_cases hlt : k < 4
          · have hp := HP.out _ HB2.out.drew
            rcases (by omega : k = 0 ∨ k = 1 ∨ k = 2 ∨ k = 3) with rfl | rfl | rfl | rfl
            · obtain rfl : z = 0 := by omega
              clear hzk
              obtain ⟨h0, h1, h2, h3, h4, h5, h6, h7⟩ := hp
              have t0 : p0.tmod 8 = p0 % 8 := Int.tmod_eq_emod_of_nonneg HR.out.1.1.1
              have t1 : p4.tmod 3 = p4 % 3 := Int.tmod_eq_emod_of_nonneg HR.out.2.1.1
              have z1 : IntKind.i64.wrap (1 + p4 % 3) = 1 + p4 % 3 := IntWalk.i64_in _ (by omega)
              have zw : IntKind.i64.wrap 4 = 4 := IntWalk.i64_in _ (by omega)
              have hown := hown.drew
              go_wp2_with fail
              refine Ord.wp_region_ord (fun w' => w'.cell? ⟨gp, 0, none⟩ = some (.int .i64 p0) ∧ w'.cell? ⟨gp, 4, none⟩ = some (.int .i64 p4)) [(0, true), (1, true), (2, true), (3, true), (4, true), (5, true), (6, true), (7, true), (8, true), (9, true), (10, true), (11, true), (12, true), (13, true), (14, false), (15, false), (16, true)] (by kernel_rfl) (by kernel_rfl) rfl (by kernel_rfl) (⟨h0, h4⟩) ?_
              simp only [Ord.ordOps, List.getElem?_toArray, List.getElem?_cons_zero, List.getElem?_cons_succ]
              repeat (first
                | (refine Ord.ord_plain (v := ?_) rfl (fun w' hS => ?_) ?_; rotate_left; (focus ((try dsimp only at hS); go_simp; first | done | with_reducible rfl)); simp only [Act.put, List.setIfInBounds_toArray, List.set_cons_zero, List.set_cons_succ])
                | (refine Ord.ord_skip (by rfl) ?_; simp only [Act.put, List.setIfInBounds_toArray, List.set_cons_zero, List.set_cons_succ])
                | (refine Ord.ord_take (v := ?_) (by rfl) (fun w' hS => ?_) ?_; rotate_left; (focus ((try dsimp only at hS); go_simp; first | done | with_reducible rfl)); simp only [Act.put, List.setIfInBounds_toArray, List.set_cons_zero, List.set_cons_succ]))
              have HB3 := Lib.hid HB2.out.drew
              have HO3 := Lib.hid HO2.out.drew
              have hgW : g < wr.drew.heap.size := hgo2
              have hbW : w1.heap.size ≤ wr.drew.heap.size := hbs
              clear HO2 HB2
              generalize wr.drew = W at hown HO3 HB3 h0 h4 hgW hbW ⊢
              refine Ord.ord_call (fun K hK => ?_)
              go_simp
              refine hK.out _ _ (⟨(World.cell?_alloc_lt _ _ _ (World.block_lt_of_cell? _ _ h0)).trans h0, (World.cell?_alloc_lt _ _ _ (World.block_lt_of_cell? _ _ h4)).trans h4⟩) ?_
              clear hK K
              repeat (first
                | (refine Ord.ord_plain (v := ?_) rfl (fun w' hS => ?_) ?_; rotate_left; (focus ((try dsimp only at hS); go_simp; first | done | with_reducible rfl)); simp only [Act.put, List.setIfInBounds_toArray, List.set_cons_zero, List.set_cons_succ])
                | (refine Ord.ord_skip (by rfl) ?_; simp only [Act.put, List.setIfInBounds_toArray, List.set_cons_zero, List.set_cons_succ])
                | (refine Ord.ord_take (v := ?_) (by rfl) (fun w' hS => ?_) ?_; rotate_left; (focus ((try dsimp only at hS); go_simp; first | done | with_reducible rfl)); simp only [Act.put, List.setIfInBounds_toArray, List.set_cons_zero, List.set_cons_succ]))
              refine Ord.ord_call (fun K hK => ?_)
              refine step_append_lies _ rfl _ _ 24 rfl w1.heap.size 30 i0 _ 2 16 Try.underlying24 hi0 hz0 hz1 hz2 rfl (by omega) (.slice (some ⟨g2, 0, none⟩) 0 cap2) 0 _ rfl (hown.alloc _) ⟨W.heap.size, 0, none⟩ 1 1 [.int .i64 (p0 % 8), .int .i64 (1 + p4 % 3)] rfl rfl (World.news_of_block (heap_alloc_new W _)) (by simp [Value.oneCell']) (by omega) (by simp only [maxLen]; omega) (by omega) (by simp; omega) (W.heap.size + 1) (by simp) ?_
              intro g' cap' w2 hown2 hgrow hat hg2
              have hbw2 : Below w1.heap.size w1 w2 := (HB3.out.alloc (by first | omega | (simp; omega)) _).grown hgrow (by first | omega | (simp; omega)) (fun j hj => (hown.lt j hj).1)
              have hp2 := HP.out _ hbw2
              have hout2 := (HO3.out.alloc (.cells #[.int .i64 (p0 % 8), .int .i64 (1 + p4 % 3)] 30)).kept hgrow (.inr (by simp [Value.ownBlock]; omega))
              have hne2 : g' ≠ g := by
                rcases hat with h | h
                · simp [Value.ownBlock] at h; omega
                · omega
              have HF := Lib.hid (And.intro (show w2.ownsRow w1.heap.size 30 2 (.slice (some ⟨g', 0, none⟩) 1 cap') 1 (scells ((inn p0 p1 p2 p3 p4 p5 p6 p7).take 1)) from hown2) (And.intro hout2 (And.intro hne2 hbw2)))
              refine hK.out _ _ ⟨hp2.1, hp2.2.2.2.2.1⟩ ?_
              clear hK K hown2 hgrow hat hg2 hbw2 hp2 hout2 hne2
              repeat (first
                | (refine Ord.ord_plain (v := ?_) rfl (fun w' hS => ?_) ?_; rotate_left; (focus ((try dsimp only at hS); go_simp; first | done | with_reducible rfl)); simp only [Act.put, List.setIfInBounds_toArray, List.set_cons_zero, List.set_cons_succ])
                | (refine Ord.ord_skip (by rfl) ?_; simp only [Act.put, List.setIfInBounds_toArray, List.set_cons_zero, List.set_cons_succ])
                | (refine Ord.ord_take (v := ?_) (by rfl) (fun w' hS => ?_) ?_; rotate_left; (focus ((try dsimp only at hS); go_simp; first | done | with_reducible rfl)); simp only [Act.put, List.setIfInBounds_toArray, List.set_cons_zero, List.set_cons_succ]))
              refine Ord.ord_nil ?_
              go_wp2_with fail
              go_roundw
              case rel => exact ⟨1, 1, g', cap', rfl, by omega, by go_num, rfl, HF.out.1, HF.out.2.1, HF.out.2.2.1, HF.out.2.2.2⟩
              case measure => simp [intOf]
            · obtain rfl : z = 1 := by omega
              clear hzk
              obtain ⟨h0, h1, h2, h3, h4, h5, h6, h7⟩ := hp
              have t0 : p1.tmod 8 = p1 % 8 := Int.tmod_eq_emod_of_nonneg HR.out.1.2.1.1
              have t1 : p5.tmod 3 = p5 % 3 := Int.tmod_eq_emod_of_nonneg HR.out.2.2.1.1
              have z1 : IntKind.i64.wrap (1 + p5 % 3) = 1 + p5 % 3 := IntWalk.i64_in _ (by omega)
              have zw : IntKind.i64.wrap 5 = 5 := IntWalk.i64_in _ (by omega)
              have hown := hown.drew
              go_wp2_with fail
              refine Ord.wp_region_ord (fun w' => w'.cell? ⟨gp, 1, none⟩ = some (.int .i64 p1) ∧ w'.cell? ⟨gp, 5, none⟩ = some (.int .i64 p5)) [(0, true), (1, true), (2, true), (3, true), (4, true), (5, true), (6, true), (7, true), (8, true), (9, true), (10, true), (11, true), (12, true), (13, true), (14, false), (15, false), (16, true)] (by kernel_rfl) (by kernel_rfl) rfl (by kernel_rfl) (⟨h1, h5⟩) ?_
              simp only [Ord.ordOps, List.getElem?_toArray, List.getElem?_cons_zero, List.getElem?_cons_succ]
              repeat (first
                | (refine Ord.ord_plain (v := ?_) rfl (fun w' hS => ?_) ?_; rotate_left; (focus ((try dsimp only at hS); go_simp; first | done | with_reducible rfl)); simp only [Act.put, List.setIfInBounds_toArray, List.set_cons_zero, List.set_cons_succ])
                | (refine Ord.ord_skip (by rfl) ?_; simp only [Act.put, List.setIfInBounds_toArray, List.set_cons_zero, List.set_cons_succ])
                | (refine Ord.ord_take (v := ?_) (by rfl) (fun w' hS => ?_) ?_; rotate_left; (focus ((try dsimp only at hS); go_simp; first | done | with_reducible rfl)); simp only [Act.put, List.setIfInBounds_toArray, List.set_cons_zero, List.set_cons_succ]))
              have HB3 := Lib.hid HB2.out.drew
              have HO3 := Lib.hid HO2.out.drew
              have hgW : g < wr.drew.heap.size := hgo2
              have hbW : w1.heap.size ≤ wr.drew.heap.size := hbs
              clear HO2 HB2
              generalize wr.drew = W at hown HO3 HB3 h1 h5 hgW hbW ⊢
              refine Ord.ord_call (fun K hK => ?_)
              go_simp
              refine hK.out _ _ (⟨(World.cell?_alloc_lt _ _ _ (World.block_lt_of_cell? _ _ h1)).trans h1, (World.cell?_alloc_lt _ _ _ (World.block_lt_of_cell? _ _ h5)).trans h5⟩) ?_
              clear hK K
              repeat (first
                | (refine Ord.ord_plain (v := ?_) rfl (fun w' hS => ?_) ?_; rotate_left; (focus ((try dsimp only at hS); go_simp; first | done | with_reducible rfl)); simp only [Act.put, List.setIfInBounds_toArray, List.set_cons_zero, List.set_cons_succ])
                | (refine Ord.ord_skip (by rfl) ?_; simp only [Act.put, List.setIfInBounds_toArray, List.set_cons_zero, List.set_cons_succ])
                | (refine Ord.ord_take (v := ?_) (by rfl) (fun w' hS => ?_) ?_; rotate_left; (focus ((try dsimp only at hS); go_simp; first | done | with_reducible rfl)); simp only [Act.put, List.setIfInBounds_toArray, List.set_cons_zero, List.set_cons_succ]))
              refine Ord.ord_call (fun K hK => ?_)
              refine step_append_lies _ rfl _ _ 24 rfl w1.heap.size 30 i0 _ 2 16 Try.underlying24 hi0 hz0 hz1 hz2 rfl (by omega) (.slice (some ⟨g2, 0, none⟩) 1 cap2) 1 _ rfl (hown.alloc _) ⟨W.heap.size, 0, none⟩ 1 1 [.int .i64 (p1 % 8), .int .i64 (1 + p5 % 3)] rfl rfl (World.news_of_block (heap_alloc_new W _)) (by simp [Value.oneCell']) (by omega) (by simp only [maxLen]; omega) (by omega) (by simp; omega) (W.heap.size + 1) (by simp) ?_
              intro g' cap' w2 hown2 hgrow hat hg2
              have hbw2 : Below w1.heap.size w1 w2 := (HB3.out.alloc (by first | omega | (simp; omega)) _).grown hgrow (by first | omega | (simp; omega)) (fun j hj => (hown.lt j hj).1)
              have hp2 := HP.out _ hbw2
              have hout2 := (HO3.out.alloc (.cells #[.int .i64 (p1 % 8), .int .i64 (1 + p5 % 3)] 30)).kept hgrow (.inr (by simp [Value.ownBlock]; omega))
              have hne2 : g' ≠ g := by
                rcases hat with h | h
                · simp [Value.ownBlock] at h; omega
                · omega
              have HF := Lib.hid (And.intro (show w2.ownsRow w1.heap.size 30 2 (.slice (some ⟨g', 0, none⟩) 2 cap') 2 (scells ((inn p0 p1 p2 p3 p4 p5 p6 p7).take 2)) from hown2) (And.intro hout2 (And.intro hne2 hbw2)))
              refine hK.out _ _ ⟨hp2.2.1, hp2.2.2.2.2.2.1⟩ ?_
              clear hK K hown2 hgrow hat hg2 hbw2 hp2 hout2 hne2
              repeat (first
                | (refine Ord.ord_plain (v := ?_) rfl (fun w' hS => ?_) ?_; rotate_left; (focus ((try dsimp only at hS); go_simp; first | done | with_reducible rfl)); simp only [Act.put, List.setIfInBounds_toArray, List.set_cons_zero, List.set_cons_succ])
                | (refine Ord.ord_skip (by rfl) ?_; simp only [Act.put, List.setIfInBounds_toArray, List.set_cons_zero, List.set_cons_succ])
                | (refine Ord.ord_take (v := ?_) (by rfl) (fun w' hS => ?_) ?_; rotate_left; (focus ((try dsimp only at hS); go_simp; first | done | with_reducible rfl)); simp only [Act.put, List.setIfInBounds_toArray, List.set_cons_zero, List.set_cons_succ]))
              refine Ord.ord_nil ?_
              go_wp2_with fail
              go_roundw
              case rel => exact ⟨2, 2, g', cap', rfl, by omega, by go_num, rfl, HF.out.1, HF.out.2.1, HF.out.2.2.1, HF.out.2.2.2⟩
              case measure => simp [intOf]
            · obtain rfl : z = 2 := by omega
              clear hzk
              obtain ⟨h0, h1, h2, h3, h4, h5, h6, h7⟩ := hp
              have t0 : p2.tmod 8 = p2 % 8 := Int.tmod_eq_emod_of_nonneg HR.out.1.2.2.1.1
              have t1 : p6.tmod 3 = p6 % 3 := Int.tmod_eq_emod_of_nonneg HR.out.2.2.2.1.1
              have z1 : IntKind.i64.wrap (1 + p6 % 3) = 1 + p6 % 3 := IntWalk.i64_in _ (by omega)
              have zw : IntKind.i64.wrap 6 = 6 := IntWalk.i64_in _ (by omega)
              have hown := hown.drew
              go_wp2_with fail
              refine Ord.wp_region_ord (fun w' => w'.cell? ⟨gp, 2, none⟩ = some (.int .i64 p2) ∧ w'.cell? ⟨gp, 6, none⟩ = some (.int .i64 p6)) [(0, true), (1, true), (2, true), (3, true), (4, true), (5, true), (6, true), (7, true), (8, true), (9, true), (10, true), (11, true), (12, true), (13, true), (14, false), (15, false), (16, true)] (by kernel_rfl) (by kernel_rfl) rfl (by kernel_rfl) (⟨h2, h6⟩) ?_
              simp only [Ord.ordOps, List.getElem?_toArray, List.getElem?_cons_zero, List.getElem?_cons_succ]
              repeat (first
                | (refine Ord.ord_plain (v := ?_) rfl (fun w' hS => ?_) ?_; rotate_left; (focus ((try dsimp only at hS); go_simp; first | done | with_reducible rfl)); simp only [Act.put, List.setIfInBounds_toArray, List.set_cons_zero, List.set_cons_succ])
                | (refine Ord.ord_skip (by rfl) ?_; simp only [Act.put, List.setIfInBounds_toArray, List.set_cons_zero, List.set_cons_succ])
                | (refine Ord.ord_take (v := ?_) (by rfl) (fun w' hS => ?_) ?_; rotate_left; (focus ((try dsimp only at hS); go_simp; first | done | with_reducible rfl)); simp only [Act.put, List.setIfInBounds_toArray, List.set_cons_zero, List.set_cons_succ]))
              have HB3 := Lib.hid HB2.out.drew
              have HO3 := Lib.hid HO2.out.drew
              have hgW : g < wr.drew.heap.size := hgo2
              have hbW : w1.heap.size ≤ wr.drew.heap.size := hbs
              clear HO2 HB2
              generalize wr.drew = W at hown HO3 HB3 h2 h6 hgW hbW ⊢
              refine Ord.ord_call (fun K hK => ?_)
              go_simp
              refine hK.out _ _ (⟨(World.cell?_alloc_lt _ _ _ (World.block_lt_of_cell? _ _ h2)).trans h2, (World.cell?_alloc_lt _ _ _ (World.block_lt_of_cell? _ _ h6)).trans h6⟩) ?_
              clear hK K
              repeat (first
                | (refine Ord.ord_plain (v := ?_) rfl (fun w' hS => ?_) ?_; rotate_left; (focus ((try dsimp only at hS); go_simp; first | done | with_reducible rfl)); simp only [Act.put, List.setIfInBounds_toArray, List.set_cons_zero, List.set_cons_succ])
                | (refine Ord.ord_skip (by rfl) ?_; simp only [Act.put, List.setIfInBounds_toArray, List.set_cons_zero, List.set_cons_succ])
                | (refine Ord.ord_take (v := ?_) (by rfl) (fun w' hS => ?_) ?_; rotate_left; (focus ((try dsimp only at hS); go_simp; first | done | with_reducible rfl)); simp only [Act.put, List.setIfInBounds_toArray, List.set_cons_zero, List.set_cons_succ]))
              refine Ord.ord_call (fun K hK => ?_)
              refine step_append_lies _ rfl _ _ 24 rfl w1.heap.size 30 i0 _ 2 16 Try.underlying24 hi0 hz0 hz1 hz2 rfl (by omega) (.slice (some ⟨g2, 0, none⟩) 2 cap2) 2 _ rfl (hown.alloc _) ⟨W.heap.size, 0, none⟩ 1 1 [.int .i64 (p2 % 8), .int .i64 (1 + p6 % 3)] rfl rfl (World.news_of_block (heap_alloc_new W _)) (by simp [Value.oneCell']) (by omega) (by simp only [maxLen]; omega) (by omega) (by simp; omega) (W.heap.size + 1) (by simp) ?_
              intro g' cap' w2 hown2 hgrow hat hg2
              have hbw2 : Below w1.heap.size w1 w2 := (HB3.out.alloc (by first | omega | (simp; omega)) _).grown hgrow (by first | omega | (simp; omega)) (fun j hj => (hown.lt j hj).1)
              have hp2 := HP.out _ hbw2
              have hout2 := (HO3.out.alloc (.cells #[.int .i64 (p2 % 8), .int .i64 (1 + p6 % 3)] 30)).kept hgrow (.inr (by simp [Value.ownBlock]; omega))
              have hne2 : g' ≠ g := by
                rcases hat with h | h
                · simp [Value.ownBlock] at h; omega
                · omega
              have HF := Lib.hid (And.intro (show w2.ownsRow w1.heap.size 30 2 (.slice (some ⟨g', 0, none⟩) 3 cap') 3 (scells ((inn p0 p1 p2 p3 p4 p5 p6 p7).take 3)) from hown2) (And.intro hout2 (And.intro hne2 hbw2)))
              refine hK.out _ _ ⟨hp2.2.2.1, hp2.2.2.2.2.2.2.1⟩ ?_
              clear hK K hown2 hgrow hat hg2 hbw2 hp2 hout2 hne2
              repeat (first
                | (refine Ord.ord_plain (v := ?_) rfl (fun w' hS => ?_) ?_; rotate_left; (focus ((try dsimp only at hS); go_simp; first | done | with_reducible rfl)); simp only [Act.put, List.setIfInBounds_toArray, List.set_cons_zero, List.set_cons_succ])
                | (refine Ord.ord_skip (by rfl) ?_; simp only [Act.put, List.setIfInBounds_toArray, List.set_cons_zero, List.set_cons_succ])
                | (refine Ord.ord_take (v := ?_) (by rfl) (fun w' hS => ?_) ?_; rotate_left; (focus ((try dsimp only at hS); go_simp; first | done | with_reducible rfl)); simp only [Act.put, List.setIfInBounds_toArray, List.set_cons_zero, List.set_cons_succ]))
              refine Ord.ord_nil ?_
              go_wp2_with fail
              go_roundw
              case rel => exact ⟨3, 3, g', cap', rfl, by omega, by go_num, rfl, HF.out.1, HF.out.2.1, HF.out.2.2.1, HF.out.2.2.2⟩
              case measure => simp [intOf]
            · obtain rfl : z = 3 := by omega
              clear hzk
              obtain ⟨h0, h1, h2, h3, h4, h5, h6, h7⟩ := hp
              have t0 : p3.tmod 8 = p3 % 8 := Int.tmod_eq_emod_of_nonneg HR.out.1.2.2.2.1
              have t1 : p7.tmod 3 = p7 % 3 := Int.tmod_eq_emod_of_nonneg HR.out.2.2.2.2.1
              have z1 : IntKind.i64.wrap (1 + p7 % 3) = 1 + p7 % 3 := IntWalk.i64_in _ (by omega)
              have zw : IntKind.i64.wrap 7 = 7 := IntWalk.i64_in _ (by omega)
              have hown := hown.drew
              go_wp2_with fail
              refine Ord.wp_region_ord (fun w' => w'.cell? ⟨gp, 3, none⟩ = some (.int .i64 p3) ∧ w'.cell? ⟨gp, 7, none⟩ = some (.int .i64 p7)) [(0, true), (1, true), (2, true), (3, true), (4, true), (5, true), (6, true), (7, true), (8, true), (9, true), (10, true), (11, true), (12, true), (13, true), (14, false), (15, false), (16, true)] (by kernel_rfl) (by kernel_rfl) rfl (by kernel_rfl) (⟨h3, h7⟩) ?_
              simp only [Ord.ordOps, List.getElem?_toArray, List.getElem?_cons_zero, List.getElem?_cons_succ]
              repeat (first
                | (refine Ord.ord_plain (v := ?_) rfl (fun w' hS => ?_) ?_; rotate_left; (focus ((try dsimp only at hS); go_simp; first | done | with_reducible rfl)); simp only [Act.put, List.setIfInBounds_toArray, List.set_cons_zero, List.set_cons_succ])
                | (refine Ord.ord_skip (by rfl) ?_; simp only [Act.put, List.setIfInBounds_toArray, List.set_cons_zero, List.set_cons_succ])
                | (refine Ord.ord_take (v := ?_) (by rfl) (fun w' hS => ?_) ?_; rotate_left; (focus ((try dsimp only at hS); go_simp; first | done | with_reducible rfl)); simp only [Act.put, List.setIfInBounds_toArray, List.set_cons_zero, List.set_cons_succ]))
              have HB3 := Lib.hid HB2.out.drew
              have HO3 := Lib.hid HO2.out.drew
              have hgW : g < wr.drew.heap.size := hgo2
              have hbW : w1.heap.size ≤ wr.drew.heap.size := hbs
              clear HO2 HB2
              generalize wr.drew = W at hown HO3 HB3 h3 h7 hgW hbW ⊢
              refine Ord.ord_call (fun K hK => ?_)
              go_simp
              refine hK.out _ _ (⟨(World.cell?_alloc_lt _ _ _ (World.block_lt_of_cell? _ _ h3)).trans h3, (World.cell?_alloc_lt _ _ _ (World.block_lt_of_cell? _ _ h7)).trans h7⟩) ?_
              clear hK K
              repeat (first
                | (refine Ord.ord_plain (v := ?_) rfl (fun w' hS => ?_) ?_; rotate_left; (focus ((try dsimp only at hS); go_simp; first | done | with_reducible rfl)); simp only [Act.put, List.setIfInBounds_toArray, List.set_cons_zero, List.set_cons_succ])
                | (refine Ord.ord_skip (by rfl) ?_; simp only [Act.put, List.setIfInBounds_toArray, List.set_cons_zero, List.set_cons_succ])
                | (refine Ord.ord_take (v := ?_) (by rfl) (fun w' hS => ?_) ?_; rotate_left; (focus ((try dsimp only at hS); go_simp; first | done | with_reducible rfl)); simp only [Act.put, List.setIfInBounds_toArray, List.set_cons_zero, List.set_cons_succ]))
              refine Ord.ord_call (fun K hK => ?_)
              refine step_append_lies _ rfl _ _ 24 rfl w1.heap.size 30 i0 _ 2 16 Try.underlying24 hi0 hz0 hz1 hz2 rfl (by omega) (.slice (some ⟨g2, 0, none⟩) 3 cap2) 3 _ rfl (hown.alloc _) ⟨W.heap.size, 0, none⟩ 1 1 [.int .i64 (p3 % 8), .int .i64 (1 + p7 % 3)] rfl rfl (World.news_of_block (heap_alloc_new W _)) (by simp [Value.oneCell']) (by omega) (by simp only [maxLen]; omega) (by omega) (by simp; omega) (W.heap.size + 1) (by simp) ?_
              intro g' cap' w2 hown2 hgrow hat hg2
              have hbw2 : Below w1.heap.size w1 w2 := (HB3.out.alloc (by first | omega | (simp; omega)) _).grown hgrow (by first | omega | (simp; omega)) (fun j hj => (hown.lt j hj).1)
              have hp2 := HP.out _ hbw2
              have hout2 := (HO3.out.alloc (.cells #[.int .i64 (p3 % 8), .int .i64 (1 + p7 % 3)] 30)).kept hgrow (.inr (by simp [Value.ownBlock]; omega))
              have hne2 : g' ≠ g := by
                rcases hat with h | h
                · simp [Value.ownBlock] at h; omega
                · omega
              have HF := Lib.hid (And.intro (show w2.ownsRow w1.heap.size 30 2 (.slice (some ⟨g', 0, none⟩) 4 cap') 4 (scells ((inn p0 p1 p2 p3 p4 p5 p6 p7).take 4)) from hown2) (And.intro hout2 (And.intro hne2 hbw2)))
              refine hK.out _ _ ⟨hp2.2.2.2.1, hp2.2.2.2.2.2.2.2⟩ ?_
              clear hK K hown2 hgrow hat hg2 hbw2 hp2 hout2 hne2
              repeat (first
                | (refine Ord.ord_plain (v := ?_) rfl (fun w' hS => ?_) ?_; rotate_left; (focus ((try dsimp only at hS); go_simp; first | done | with_reducible rfl)); simp only [Act.put, List.setIfInBounds_toArray, List.set_cons_zero, List.set_cons_succ])
                | (refine Ord.ord_skip (by rfl) ?_; simp only [Act.put, List.setIfInBounds_toArray, List.set_cons_zero, List.set_cons_succ])
                | (refine Ord.ord_take (v := ?_) (by rfl) (fun w' hS => ?_) ?_; rotate_left; (focus ((try dsimp only at hS); go_simp; first | done | with_reducible rfl)); simp only [Act.put, List.setIfInBounds_toArray, List.set_cons_zero, List.set_cons_succ]))
              refine Ord.ord_nil ?_
              go_wp2_with fail
              go_roundw
              case rel => exact ⟨4, 4, g', cap', rfl, by omega, by go_num, rfl, HF.out.1, HF.out.2.1, HF.out.2.2.1, HF.out.2.2.2⟩
              case measure => simp [intOf]
          · obtain rfl : k = 4 := by omega
            obtain rfl : z = 4 := by omega
            have HOI := Lib.hid (show Owned wr w1.heap.size wr.heap.size (some ⟨g2, 0, none⟩) (scells (inn p0 p1 p2 p3 p4 p5 p6 p7)) from Owned.of_row hown)
            have HOO := Lib.hid (Owned.of_row HO2.out)
            have hth := through (I := inn p0 p1 p2 p3 p4 p5 p6 p7) inn_in rfl
            have HLI := Lib.hid (show (inn p0 p1 p2 p3 p4 p5 p6 p7).length = 4 from rfl)
            generalize inn p0 p1 p2 p3 p4 p5 p6 p7 = I at HOI hth HLI
            have HLO := Lib.hid (idL_len 8)
            have wO := wf_id
            generalize idL 8 = O at HOO hth HLO wO
            obtain ⟨wI, e1, e2, e3⟩ := hth
            clear hown HO2 hzk hlt hk hne HR HP hgl
            have HLN := Lib.hid (nosL_len 8)
            have wN := wf_nos 8
            have HLM := Lib.hid (nosL_len 4)
            have hM := fun (A : Option Addr) (c lo : Nat) (V : World) (h : Lies V lo V.heap.size A (scells (nosL 4))) => impl_mapped A 4 c lo (nosL 4) V (by omega) HLM.out h
            rw [show mapS (nosL 4) = 0 from rfl, show ((0 : Nat) : Int) = 0 from rfl] at hM
            have kC := fun (A B : Option Addr) (c d : Nat) (V : World) (h1 : Lies V 0 V.heap.size A (scells I)) (h2 : Lies V 0 V.heap.size B (scells O)) => impl_compose A B 4 8 c d I O V (by omega) (by omega) HLI.out HLO.out wI wO h1 h2
            rw [e1] at kC
            have kN := fun (A B : Option Addr) (c d : Nat) (V : World) (h1 : Lies V 0 V.heap.size A (scells I)) (h2 : Lies V 0 V.heap.size B (scells (nosL 8))) => impl_compose A B 4 8 c d I (nosL 8) V (by omega) (by omega) HLI.out HLN.out wI wN h1 h2
            rw [e2] at kN
            have kR := fun (A : Option Addr) (c : Nat) (V : World) (h1 : Lies V 0 V.heap.size A (scells I)) => impl_restrict A 4 c 0 I V (by omega) HLI.out wI (by decide) h1
            rw [e3] at kR
            have kT := fun V : World => impl_new 8 V
            rw [new8] at kT
            generalize nosL 8 = N at kN kT HLN
            generalize nosL 4 = M at hM kN kR HLM
            have KM := Lib.hid hM
            have KC := Lib.hid kC
            have KN := Lib.hid kN
            have KR := Lib.hid kR
            have KT := Lib.hid kT
            have hm4 : 4 ≤ 1048576 := by omega
            have hm8 : 8 ≤ 1048576 := by omega
            have HBW := Lib.hid (btr HB1.out HB2.out)
            clear hM kC kN kR kT wI wO wN e1 e2 e3 HB1 HB2
            have hS5 := HBW.out.size
            go_wp2_with fail
            refine (KC.out _ _ _ _ _ (HOI.out.1.wide (Nat.zero_le _) (by omega)) (HOO.out.1.wide (Nat.zero_le _) (by omega))).mono ?_
            rintro e w6 ⟨ad6, d6, rfl, hc6, ho6, hb6⟩
            have hB6 := btr HBW.out hb6
            have hS6 := hb6.size
            have hOi_6 := Lib.hid (HOI.out.below hb6 (by omega))
            have hOo_6 := Lib.hid (HOO.out.below hb6 (by omega))
            have hOc_6 := Lib.hid ho6
            clear HOI HOO hc6 ho6 hb6
            clear hOo_6
            go_wp2_with fail
            refine (same_true (some ad6) (some ⟨g2, 0, none⟩) 4 d6 cap2 _ _ _ _ I _ hm4 HLI.out hOc_6.out.1 hOi_6.out.1).mono ?_
            rintro e w7 ⟨rfl, hb7⟩
            have hB7 := btr hB6 hb7
            have hS7 := hb7.size
            have hOi_7 := Lib.hid (hOi_6.out.below hb7 (by omega))
            have hOc_7 := Lib.hid (hOc_6.out.below hb7 (by omega))
            clear hOi_6 hOc_6 hb7
            clear hOc_7
            go_wp2_with fail
            refine (KT.out _).mono ?_
            rintro e w8 ⟨ad8, d8, rfl, hc8, ho8, hb8⟩
            have hB8 := btr hB7 hb8
            have hS8 := hb8.size
            have hOi_8 := Lib.hid (hOi_7.out.below hb8 (by omega))
            have hOn_8 := Lib.hid ho8
            clear hOi_7 hc8 ho8 hb8
            go_wp2_with fail
            refine (KN.out _ _ _ _ _ (hOi_8.out.1.wide (Nat.zero_le _) (by omega)) (hOn_8.out.1.wide (Nat.zero_le _) (by omega))).mono ?_
            rintro e w9 ⟨ad9, d9, rfl, hc9, ho9, hb9⟩
            have hB9 := btr hB8 hb9
            have hS9 := hb9.size
            have hOi_9 := Lib.hid (hOi_8.out.below hb9 (by omega))
            have hOn_9 := Lib.hid (hOn_8.out.below hb9 (by omega))
            have hOm_9 := Lib.hid ho9
            clear hOi_8 hOn_8 hc9 ho9 hb9
            clear hOn_9
            go_wp2_with fail
            refine (KM.out _ _ 0 _ (hOm_9.out.1.wide (Nat.zero_le _) (by omega))).mono ?_
            rintro e w10 ⟨rfl, hb10⟩
            have hB10 := btr hB9 hb10
            have hS10 := hb10.size
            have hOi_10 := Lib.hid (hOi_9.out.below hb10 (by omega))
            have hOm_10 := Lib.hid (hOm_9.out.below hb10 (by omega))
            clear hOi_9 hOm_9 hb10
            clear hOm_10
            go_wp2_with fail
            refine (KR.out _ _ _ (hOi_10.out.1.wide (Nat.zero_le _) (by omega))).mono ?_
            rintro e w11 ⟨ad11, d11, rfl, hc11, ho11, hb11⟩
            have hB11 := btr hB10 hb11
            have hS11 := hb11.size
            have hOi_11 := Lib.hid (hOi_10.out.below hb11 (by omega))
            have hOr_11 := Lib.hid ho11
            clear hOi_10 hc11 ho11 hb11
            clear hOi_11
            go_wp2_with fail
            refine (KM.out _ _ 0 _ (hOr_11.out.1.wide (Nat.zero_le _) (by omega))).mono ?_
            rintro e w12 ⟨rfl, hb12⟩
            have hB12 := btr hB11 hb12
            have hS12 := hb12.size
            have hOr_12 := Lib.hid (hOr_11.out.below hb12 (by omega))
            clear hOr_11 hb12
            clear hOr_12
            go_wp2_with fail
            go_ret
            exact ⟨rfl, hB12⟩

/-! ### The row's step -/
set_option maxRecDepth 100000 in
theorem lifted (os : Os) (started : os.Started) (H : Type) (enc : TypeId × Value → H) :
    ReturnsInHanded {} Try.checked os 5 .any (Rows.fnThroughSpec.pre6 enc Try.prog Try.f5 Rows.fnThroughRow.domain false) (Rows.fnThroughSpec.post enc Try.prog Try.f5 false true false false) := by
  refine returnsInHanded_of_change (C := Try.checked) Base.own started (by kernel_rfl) Try.func5
    (ChangeSpec.witness6 (enc := enc) (C := Try.checked) false ⟨#[], #[.slice none 0 0], []⟩ 8 (by kernel_rfl) (by kernel_rfl) (by kernel_rfl) (by kernel_rfl)) ?_
  intro W base args ds gs before hval0 hW hcnd _
  have hval : ∀ (j : Nat) t v, Try.f5.params[j]? = some t → args[j]? = some v → Value.okWide Try.prog W .any base t v := hval0
  have hW' := hW
  obtain ⟨p, q, hA0, hV, rfl, hfz, hnd⟩ := hW
  have hA : DataW.TrodAll enc Try.prog W 0 (fun _ => true) true Try.f5.params.toList args.toList ds p := hA0
  have hA1 := hA
  rw [Try.params5] at hA hval
  obtain ⟨v0, vs0, d0, ds0, p0, q0, hargs, rfl, rfl, h0, r0⟩ := trodAll_cons hA
  obtain ⟨rfl, rfl, rfl⟩ := trodAll_nil r0
  obtain rfl : args = #[v0] := by cases args; simp_all
  obtain ⟨rfl, rfl⟩ := trodVars_none hV
  obtain ⟨A0, n0, c0, rfl, hn0, hcode0, _⟩ := Draw.open_code (hval 0 22 v0 rfl rfl) h0
  clear hA0 hval0
  rw [List.append_nil] at hW'
  refine (walk A0 n0 c0 hn0 hcode0).mono fun e W' ⟨he, hg⟩ => ?_
  subst he
  exact ⟨_, rfl, Mem.post_args Slots.laid (by kernel_rfl) rfl rfl rfl hW' hA1 hg (fun _ _ _ => (trodAll_cons_mk (shut_bool Try.underlying4 _) trodAll_mk0)) (ok_one (by kernel_rfl) rfl (okWide_bool_mk Try.underlying4 _))⟩

theorem over : Rows.fnThroughRow.holds Try.pinned (OpenSpec.ofChange Rows.fnThroughSpec) :=
  OpenClaim.holds_of_wide 5 Try.f5 rfl rfl rfl rfl rfl rfl rfl ⟨rfl, rfl, rfl, rfl, rfl⟩ rfl rfl rfl rfl rfl (by kernel_rfl) Try.func5 (by kernel_rfl)
    (of_decide_eq_true (by kernel_rfl)) (by unfold Func.isWrapper; first | (rw [if_pos (by decide +kernel)]; kernel_rfl) | (rw [if_neg (by decide +kernel)]; exact ⟨rfl, rfl⟩))
    (fun os started H enc _ => lifted os started H enc)

/-- The given statement. -/
theorem proved : Rows.FnThroughSaid :=
  over
#print axioms proved
end Go.Proofs.Ytecnkcmhgnbdmaa.fnThrough
