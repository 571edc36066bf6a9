/-
  Address space tags: the given model's FlushMon; no statement about the project's code stands here. No condition beyond a buffer's length.
-/
import Derived.Test.YteoddppeajlekaaTag
import Derived.Test.YteoddppeajlekaaAppend
namespace Go.Proofs.Yteoddppeajlekaa.Tags
set_option maxRecDepth 100000
open Go.ChangeShapes Go.WideShapes Go.ChangeAt Go.RowKit
open Go.Proofs.Yteoddppeajlekaa.Base Go.Proofs.Yteoddppeajlekaa.Mem Go.Proofs.Yteoddppeajlekaa.Data Go.Proofs.Yteoddppeajlekaa.Ints Go.Proofs.Yteoddppeajlekaa.Slots Go.Proofs.Yteoddppeajlekaa.Ents
set_option linter.unusedVariables false
set_option linter.unusedSimpArgs false

set_option maxRecDepth 100000 in
set_option maxHeartbeats 4000000 in
theorem spec_flushM (A : Option Addr) (n c lo : Nat) (m : Int) (l : List ET) (w : World) (hn : n ≤ 1048576) (hl : l.length = n) (h1 : Lies w lo w.heap.size A (ecells l)) :
    Calls Try.prog 26 #[.slice A n c, .int .i64 m] w (EntsP w (flushM l m)) := by
  obtain ⟨i0, hi0, hz0, hz1, hz2⟩ := info_parts Try.infoEntry
  have HL := Lib.hid hl
  have hm := World.ownsRow_made (e := 37) (size := 4) w #[] 0 (Nat.le_refl _) (Nat.zero_le _) rfl
  have HM := Lib.hid hm
  have HS := Lib.hid (row_src h1 (.cells #[] 37))
  have HK := Lib.hid (fun V : World => spec_tagsM m V)
  have hT := tagsM_le m
  have hF : flushM l m = (tagsM m).foldl flushT l := rfl
  have hle := fun k => folds_le ((tagsM m).take k) l
  generalize tagsM m = T at HK hT hF hle
  have HF := Lib.hid hF
  have HLE := Lib.hid hle
  clear h1 hl hm hF hle
  go_enter Try.func26, Try.ntmps26
  go_wp2_with (at_builtin; refine App.wpList_append_fresh _ rfl (.tmp 8) (.tmp 9) 28 rfl w.heap.size 37 i0 _ 4 32 Try.underlying28 hi0 hz0 hz1 hz2 rfl (by omega) w.heap.size rfl HM.out A n c (ecells l) rfl (by rw [ecells_len, HL.out, Nat.mul_comm]) HS.out (ecells_one l) (by simp only [maxLen]; omega) (by omega) (by simp) ?_; intro g1 cap1 w1 hown1 hg1; obtain ⟨ho1, hb1⟩ := fresh_row hown1 hg1; have HO1 := Lib.hid ho1; have HB1 := Lib.hid hb1; clear hown1 hg1 ho1 hb1)
  refine (HK.out _).mono ?_
  rintro e w2 ⟨AT, nT, cT, rfl, hlT, hoT, hbT⟩
  have HB2 := Lib.hid (btr HB1.out hbT)
  have HO2 := Lib.hid (HO1.out.below hbT (Nat.le_refl _))
  have HT := Lib.hid hoT.1
  have HNT := Lib.hid hlT
  have hnT : nT ≤ 2 := by omega
  have hs12 := hbT.size
  have hs01 := HB1.out.size
  clear hoT hbT hlT HO1 HB1 HM HS HK
  go_wp2_with fail
  go_loopw [5, 7] (fun v i wr => ∃ (k g cap q : Nat) (A' : Option Addr), k ≤ nT ∧ i = .int .i64 k ∧ v = .slice A' q cap ∧ ((T.take k).foldl flushT l).length = q ∧ Owned wr w.heap.size wr.heap.size A' (ecells ((T.take k).foldl flushT l)) ∧ Below w2.heap.size w2 wr) (fun _ i _ => nT - (intOf i).toNat)
  case atStart => exact ⟨0, 0, _, _, _, Nat.zero_le _, rfl, rfl, HL.out, ⟨HO2.out.1.wide (Nat.le_refl _) hs12, HO2.out.2⟩, Below.refl _ _⟩
  case round =>
    obtain ⟨k, _, cap, q, A', hk, rfl, rfl, hq, hown, hb⟩ := hrel
    by_cases hlt : k < nT
    · have hkl : k < T.length := by have := HNT.out; omega
      obtain ⟨b, off, rfl, _, hbw, c0⟩ := int_at HT.out k hkl
      have d0 := (hb.cell (p := ⟨b, off + k, none⟩) hbw).trans c0
      have hj0 : (0 : Int) ≤ (k : Int) := Int.natCast_nonneg _
      have hj1 : (k : Int) < (nT : Int) := by omega
      have hq2 : q ≤ 1048576 := by have := HLE.out k; have := HL.out; omega
      have hs : (T.take (k + 1)).foldl flushT l = flushT ((T.take k).foldl flushT l) T[k] := by rw [List.take_succ_eq_append_getElem hkl, List.foldl_append]; rfl
      have hcall := spec_flushT A' q cap w.heap.size T[k] _ wr hq2 hq hown.1
      rw [← hs] at hcall
      generalize T[k] = t at d0 hcall
      have HCALL := Lib.hid hcall
      have HB := Lib.hid hb
      have hbs := hb.size
      clear hcall hs c0 hb hown hq
      go_wp2_with fail
      refine HCALL.out.mono ?_
      rintro e w3 ⟨A3, n3, c3, rfl, hl3, ho3, hb3⟩
      have HO3 := Lib.hid (show Owned w3 w.heap.size w3.heap.size A3 _ from ⟨ho3.1.wide (by omega) (Nat.le_refl _), ho3.2⟩)
      have HB3 := Lib.hid (btr HB.out hb3)
      have HL3 := Lib.hid hl3
      clear ho3 hb3 hl3 HCALL HB
      go_wp2_with fail
      go_roundw
      case rel => exact ⟨k + 1, 0, c3, n3, A3, by omega, by go_num, rfl, HL3.out, HO3.out, HB3.out⟩
      case measure => simp [intOf]; omega
    · obtain rfl : k = nT := by omega
      rw [List.take_of_length_le (by have := HNT.out; omega)] at hq hown
      have HQ := Lib.hid hq
      have HO := Lib.hid hown
      have HB := Lib.hid (btr HB2.out hb)
      clear hq hown hb
      go_wp2_with fail
      go_ret
      rw [HF.out]
      exact ⟨_, _, _, rfl, HQ.out, HO.out, HB.out⟩
end Go.Proofs.Yteoddppeajlekaa.Tags
