/-
  Address space tags: what chapter 9 computes, and the given model's TagOf, TagMon, TagGuest, TagsOf and FlushMon; no statement about the project's code stands here. No condition beyond a buffer's length and an int's range.
-/
import Derived.Test.YteoddppeajlekaaEntPut
namespace Go.Proofs.Yteoddppeajlekaa.Tags
set_option maxRecDepth 100000
open Go.ChangeShapes Go.WideShapes Go.ChangeAt Go.RowKit
open Go.Proofs.Yteoddppeajlekaa.Base Go.Proofs.Yteoddppeajlekaa.Mem Go.Proofs.Yteoddppeajlekaa.Data Go.Proofs.Yteoddppeajlekaa.Ints Go.Proofs.Yteoddppeajlekaa.Slots Go.Proofs.Yteoddppeajlekaa.Ents
set_option linter.unusedVariables false
set_option linter.unusedSimpArgs false

def tagOf (m g : Int) : Int := if inB m 0 2 && inB g 0 1 then 1 + g + m * 2 else 0
def tagMon (t : Int) : Int := if inB t 1 6 then (t - 1) / 2 else -1
def tagGuest (t : Int) : Int := if inB t 1 6 then (t - 1) % 2 else -1
def tagsK (m : Int) (k : Nat) : List Int := (List.range k).map fun (g : Nat) => 1 + (g : Int) + m * 2
def tagsM (m : Int) : List Int := if inB m 0 2 then tagsK m 2 else []
def flushM (l : List ET) (m : Int) : List ET := (tagsM m).foldl flushT l
theorem tagsK_snoc (m : Int) (k : Nat) : tagsK m (k + 1) = tagsK m k ++ [1 + (k : Int) + m * 2] := by
  unfold tagsK
  rw [List.range_succ, List.map_append]; rfl
theorem tagsK_len (m : Int) (k : Nat) : (tagsK m k).length = k := by simp [tagsK]
theorem tagsM_le (m : Int) : (tagsM m).length ≤ 2 := by unfold tagsM; split <;> simp [tagsK_len]
theorem tagsM_wf {m : Int} : ∀ t ∈ tagsM m, (Lit.int .i64 t).wf = true := fun t ht => by
  unfold tagsM at ht
  split at ht
  · rename_i h
    have hb := inB_iff.1 h
    obtain ⟨g, hg, rfl⟩ := List.mem_map.1 ht
    have hg := List.mem_range.1 hg
    simp [Lit.wf]
    have e1 : IntKind.i64.min = -9223372036854775808 := by decide
    have e2 : IntKind.i64.max = 9223372036854775807 := by decide
    omega
  · cases ht
theorem folds_le (T : List Int) : ∀ l : List ET, (T.foldl flushT l).length ≤ l.length := by
  induction T with
  | nil => exact fun l => Nat.le_refl _
  | cons t T ih => exact fun l => Nat.le_trans (ih _) (flushT_le l t)
theorem flushM_le (l : List ET) (m : Int) : (flushM l m).length ≤ l.length := folds_le _ l
theorem folds_wf (T : List Int) : ∀ {l : List ET}, wfEL l → wfEL (T.foldl flushT l) := by
  induction T with
  | nil => exact fun h => h
  | cons t T ih => exact fun h => ih (wf_flushT h)
theorem wf_flushM {l : List ET} {m : Int} (h : wfEL l) : wfEL (flushM l m) := folds_wf _ h
theorem folds_filter (T : List Int) : ∀ l : List ET, T.foldl flushT l = l.filter fun e => !decide (e.1 ∈ T) := by
  induction T with
  | nil => exact fun l => by rw [List.foldl_nil, List.filter_eq_self.2]; intro e _; simp
  | cons t T ih =>
    intro l
    rw [List.foldl_cons, ih, flushT, List.filter_filter]
    congr 1
    funext e
    by_cases h1 : e.1 = t <;> by_cases h2 : e.1 ∈ T <;> simp [h1, h2]
theorem flushM_filter (l : List ET) (m : Int) : flushM l m = l.filter fun e => !decide (e.1 ∈ tagsM m) := folds_filter _ l
theorem mem_tags {m t : Int} : t ∈ tagsM m ↔ 0 ≤ m ∧ tagMon t = m := by
  unfold tagsM tagMon
  constructor
  · intro h
    split at h
    · rename_i hb
      have hb := inB_iff.1 hb
      obtain ⟨g, hg, rfl⟩ := List.mem_map.1 h
      have hg := List.mem_range.1 hg
      rw [if_pos (inB_iff.2 ⟨by omega, by omega⟩)]
      omega
    · cases h
  · rintro ⟨h0, h⟩
    split at h
    · rename_i hb
      have hb := inB_iff.1 hb
      rw [if_pos (inB_iff.2 ⟨by omega, by omega⟩)]
      refine List.mem_map.2 ⟨((t - 1) % 2).toNat, List.mem_range.2 (by omega), ?_⟩
      omega
    · omega

set_option maxHeartbeats 2000000 in
theorem spec_tagOf (m g : Int) (w : World) :
    Calls Try.prog 16 #[.int .i64 m, .int .i64 g] w fun e w' => e = .returned (.int .i64 (tagOf m g)) ∧ w = w' := by
  have K1 := Lib.hid (fun V : World => spec_in m 0 2 V)
  have K2 := Lib.hid (fun V : World => spec_in g 0 1 V)
  have hv : tagOf m g = if inB m 0 2 && inB g 0 1 then 1 + g + m * 2 else 0 := rfl
  have h1 : inB m 0 2 = true → 0 ≤ m ∧ m ≤ 2 := inB_iff.1
  have h2 : inB g 0 1 = true → 0 ≤ g ∧ g ≤ 1 := inB_iff.1
  generalize inB m 0 2 = x at K1 hv h1
  generalize inB g 0 1 = y at K2 hv h2
  cases x
  · simp only [Bool.false_and, if_neg (Bool.false_ne_true)] at hv
    have HV := Lib.hid hv
    clear h1 h2 hv
    go_enter Try.func16, Try.ntmps16
    go_wp2_with (go_at_call 41; refine (K1.out _).mono ?_; rintro e w' ⟨rfl, rfl⟩)
    go_ret
    exact ⟨by rw [HV.out]; rfl, rfl⟩
  · cases y
    · simp only [Bool.and_false, if_neg (Bool.false_ne_true)] at hv
      have HV := Lib.hid hv
      clear h1 h2 hv
      go_enter Try.func16, Try.ntmps16
      go_wp2_with fail
      refine (K1.out _).mono ?_
      rintro e w' ⟨rfl, rfl⟩
      go_wp2_with fail
      refine (K2.out _).mono ?_
      rintro e w' ⟨rfl, rfl⟩
      go_wp2_with fail
      go_ret
      exact ⟨by rw [HV.out]; rfl, rfl⟩
    · simp only [Bool.and_true, if_true] at hv
      have HV := Lib.hid hv
      obtain ⟨a1, a2⟩ := h1 rfl
      obtain ⟨b1, b2⟩ := h2 rfl
      clear h1 h2 hv
      go_enter Try.func16, Try.ntmps16
      go_wp2_with fail
      refine (K1.out _).mono ?_
      rintro e w' ⟨rfl, rfl⟩
      go_wp2_with fail
      refine (K2.out _).mono ?_
      rintro e w' ⟨rfl, rfl⟩
      go_wp2_with fail
      go_ret
      exact ⟨by rw [HV.out]; rfl, rfl⟩

theorem spec_tagMon (t : Int) (w : World) :
    Calls Try.prog 18 #[.int .i64 t] w fun e w' => e = .returned (.int .i64 (tagMon t)) ∧ w = w' := by
  have K1 := Lib.hid (fun V : World => spec_in t 1 6 V)
  have hv : tagMon t = if inB t 1 6 then (t - 1) / 2 else -1 := rfl
  have h1 : inB t 1 6 = true → 1 ≤ t ∧ t ≤ 6 := inB_iff.1
  generalize inB t 1 6 = x at K1 hv h1
  cases x
  · simp only [if_neg (Bool.false_ne_true)] at hv
    have HV := Lib.hid hv
    clear h1 hv
    go_enter Try.func18, Try.ntmps18
    go_wp2_with (go_at_call 41; refine (K1.out _).mono ?_; rintro e w' ⟨rfl, rfl⟩)
    go_ret
    exact ⟨by rw [HV.out]; rfl, rfl⟩
  · simp only [if_true] at hv
    have HV := Lib.hid hv
    obtain ⟨a1, a2⟩ := h1 rfl
    clear h1 hv
    go_enter Try.func18, Try.ntmps18
    go_wp2_with (go_at_call 41; refine (K1.out _).mono ?_; rintro e w' ⟨rfl, rfl⟩)
    go_ret
    exact ⟨by rw [HV.out]; rfl, rfl⟩

theorem spec_tagGuest (t : Int) (w : World) :
    Calls Try.prog 20 #[.int .i64 t] w fun e w' => e = .returned (.int .i64 (tagGuest t)) ∧ w = w' := by
  have K1 := Lib.hid (fun V : World => spec_in t 1 6 V)
  have hv : tagGuest t = if inB t 1 6 then (t - 1) % 2 else -1 := rfl
  have h1 : inB t 1 6 = true → 1 ≤ t ∧ t ≤ 6 := inB_iff.1
  generalize inB t 1 6 = x at K1 hv h1
  cases x
  · simp only [if_neg (Bool.false_ne_true)] at hv
    have HV := Lib.hid hv
    clear h1 hv
    go_enter Try.func20, Try.ntmps20
    go_wp2_with (go_at_call 41; refine (K1.out _).mono ?_; rintro e w' ⟨rfl, rfl⟩)
    go_ret
    exact ⟨by rw [HV.out]; rfl, rfl⟩
  · simp only [if_true] at hv
    have HV := Lib.hid hv
    obtain ⟨a1, a2⟩ := h1 rfl
    clear h1 hv
    go_enter Try.func20, Try.ntmps20
    go_wp2_with (go_at_call 41; refine (K1.out _).mono ?_; rintro e w' ⟨rfl, rfl⟩)
    go_ret
    exact ⟨by rw [HV.out]; rfl, rfl⟩

theorem tagOf_in {m : Int} {k : Nat} (h : inB m 0 2 = true) (hk : k < 2) : tagOf m k = 1 + (k : Int) + m * 2 := by
  unfold tagOf
  rw [h, inB_iff.2 (show (0 : Int) ≤ k ∧ (k : Int) ≤ 1 by omega)]
  rfl
set_option maxHeartbeats 2000000 in
theorem spec_tagsM (m : Int) (w : World) :
    Calls Try.prog 23 #[.int .i64 m] w (UsesPost w (tagsM m)) := by
  obtain ⟨i0, hi0, hz0, hz1, hz2⟩ := info_parts Try.infoNum
  have K1 := Lib.hid (fun V : World => spec_in m 0 2 V)
  have hv : tagsM m = if inB m 0 2 then tagsK m 2 else [] := rfl
  have ht : inB m 0 2 = true → ∀ (k : Nat), k < 2 → tagOf m k = 1 + (k : Int) + m * 2 := fun h k hk => tagOf_in h hk
  generalize inB m 0 2 = x at K1 hv ht
  go_enter Try.func23, Try.ntmps23
  cases x
  · simp only [if_neg (Bool.false_ne_true)] at hv
    have HV := Lib.hid hv
    clear hv ht
    have hown : (w.alloc (.cells #[] 3)).ownsRow w.heap.size 3 1 (.slice (some ⟨w.heap.size, 0, none⟩) 0 0) 0 (ncells []) := World.ownsRow_made w #[] 0 (Nat.le_refl _) (Nat.zero_le _) rfl
    have HO := Lib.hid hown
    clear hown
    go_wp2_with fail
    go_loopw [3, 4] (fun v i wr => v = .slice (some ⟨w.heap.size, 0, none⟩) 0 0 ∧ i = .int .i64 0 ∧ wr = w.alloc (.cells #[] 3)) (fun _ i _ => 2 - (intOf i).toNat)
    case atStart => exact ⟨rfl, rfl, rfl⟩
    case round =>
      obtain ⟨rfl, rfl, rfl⟩ := hrel
      go_wp2_with (go_at_call 41; refine (K1.out _).mono ?_; rintro e w' ⟨rfl, rfl⟩)
      go_ret
      rw [HV.out]
      exact ⟨_, _, _, rfl, rfl, Owned.of_row HO.out, (Below.refl _ _).alloc (Nat.le_refl _) _⟩
  · simp only [if_true] at hv
    have HV := Lib.hid hv
    have HT := Lib.hid (ht rfl)
    clear hv ht
    have HO := Lib.hid (show (w.alloc (.cells #[] 3)).ownsRow w.heap.size 3 1 (.slice (some ⟨w.heap.size, 0, none⟩) 0 0) 0 (ncells (tagsK m 0)) from World.ownsRow_made w #[] 0 (Nat.le_refl _) (Nat.zero_le _) rfl)
    go_wp2_with fail
    go_loopw [3, 4] (fun v i wr => ∃ (k g cap : Nat), k ≤ 2 ∧ i = .int .i64 k ∧ v = .slice (some ⟨g, 0, none⟩) k cap ∧ wr.ownsRow w.heap.size 3 1 (.slice (some ⟨g, 0, none⟩) k cap) k (ncells (tagsK m k)) ∧ Below w.heap.size w wr) (fun _ i _ => 2 - (intOf i).toNat)
    case atStart => exact ⟨0, w.heap.size, 0, Nat.zero_le _, rfl, rfl, HO.out, (Below.refl _ _).alloc (Nat.le_refl _) _⟩
    case round =>
      obtain ⟨k, g, cap, hk, rfl, rfl, hown, hb⟩ := hrel
      by_cases hlt : k < 2
      · have hj1 : (k : Int) < 2 := by omega
        have hj0 : (0 : Int) ≤ (k : Int) := Int.natCast_nonneg _
        have hcall := fun V : World => spec_tagOf m k V
        rw [HT.out k hlt] at hcall
        have HCALL := Lib.hid hcall
        clear hcall
        have hbs := hb.size
        have hz : (1 + (k : Int) + m * 2) = (1 + (k : Int) + m * 2) := rfl
        clear hz
        obtain ⟨tt, htt⟩ : ∃ z, z = 1 + (k : Int) + m * 2 := ⟨_, rfl⟩
        have hsn := tagsK_snoc m k
        rw [← htt] at HCALL hsn
        have HSN := Lib.hid hsn
        clear hsn htt
        go_wp2_with (first | (go_at_call 41; refine (K1.out _).mono ?_; rintro e w' ⟨rfl, rfl⟩) | (go_at_call 16; refine (HCALL.out _).mono ?_; rintro e w' ⟨rfl, rfl⟩) | (at_builtin; refine wpList_append_lies _ rfl _ _ 33 rfl w.heap.size 3 i0 _ 1 8 Try.underlying33 hi0 hz0 hz1 hz2 rfl (by omega) (.slice (some ⟨g, 0, none⟩) k cap) k _ rfl (hown.alloc _) ⟨wr.heap.size, 0, none⟩ 1 1 [.int .i64 tt] rfl rfl (World.news_of_block (heap_alloc_new wr _)) (by simp [Value.oneCell']) (by omega) (by simp only [maxLen]; omega) (by omega) (by simp; omega) (wr.heap.size + 1) (by simp) ?_; intro g' cap' w2 hown2 hgrow hat hg2))
        have hown3 : w2.ownsRow w.heap.size 3 1 (.slice (some ⟨g', 0, none⟩) (k + 1) cap') (k + 1) (ncells (tagsK m (k + 1))) := by rw [HSN.out]; simpa [ncells] using hown2
        have hbw2 : Below w.heap.size w w2 := (hb.alloc (by first | omega | (simp; omega)) _).grown hgrow (by first | omega | (simp; omega)) (fun j hj => (hown.lt j hj).1)
        have HF := Lib.hid (And.intro hown3 hbw2)
        clear hown2 hgrow hat hg2 hown3 hbw2
        go_roundw
        case rel => exact ⟨k + 1, g', cap', by omega, by go_num, rfl, HF.out.1, HF.out.2⟩
        case measure => simp [intOf]; omega
      · obtain rfl : k = 2 := by omega
        have HF := Lib.hid (And.intro hown hb)
        clear hown hb HO
        go_wp2_with fail
        go_ret
        rw [HV.out]
        exact ⟨_, _, _, rfl, tagsK_len _ _, Owned.of_row HF.out.1, HF.out.2⟩
end Go.Proofs.Yteoddppeajlekaa.Tags
