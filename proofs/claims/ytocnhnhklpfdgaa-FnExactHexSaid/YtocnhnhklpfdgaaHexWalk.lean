/-
  The given model's Hex and the project's Hex, each called at any string: both return the same text (two lower-case digits a byte), and change no memory that was there. No condition.
-/
import Derived.Test.YtocnhnhklpfdgaaBase
import Derived.Test.YtocnhnhklpfdgaaRegion
import Derived.IntWalk
namespace Go.Proofs.Ytocnhnhklpfdgaa.fnExactHex
open Go.ChangeShapes Go.WideShapes Go.ChangeAt Go.RowKit
open Go.Proofs.Ytocnhnhklpfdgaa.Base

def fig (x : Nat) : UInt8 := UInt8.ofNat (if x < 10 then 48 + x else 87 + x)
def hexOf (l : List UInt8) : List UInt8 := l.flatMap fun b => [fig (b.toNat / 16), fig (b.toNat % 16)]
theorem hexOf_snoc (l : List UInt8) (b : UInt8) : hexOf (l ++ [b]) = hexOf l ++ [fig (b.toNat / 16), fig (b.toNat % 16)] := by simp [hexOf]
theorem hexOf_len (l : List UInt8) : (hexOf l).length = 2 * l.length := by
  induction l with
  | nil => rfl
  | cons b l ih => simp [hexOf] at ih ⊢; omega
theorem fig_toNat (x : Nat) (h : x < 16) : ((fig x).toNat : Int) = if x < 10 then 48 + (x : Int) else 87 + (x : Int) := by
  unfold fig
  split <;> simp <;> omega

theorem Try.info5 : (Try.prog.info? 5).map (fun i => (i.zero, i.size, i.bytes)) = some (some (.int .u8 0), 1, 1) := by kernel_rfl

/-- The digit of 0 .. 15, as a number. -/
def figI (x : Int) : Int := if x < 10 then 48 + x else 87 + x
theorem fig_figI (x : Nat) (h : x < 16) : ((fig x).toNat : Int) = figI x := by
  rw [fig_toNat x h]; unfold figI; split <;> split <;> omega
theorem pair_cells (b : UInt8) : bcells [fig (b.toNat / 16), fig (b.toNat % 16)] = [.int .u8 (figI ((b.toNat : Int) / 16)), .int .u8 (figI ((b.toNat : Int) % 16))] := by
  have h := b.toNat_lt
  have h1 := fig_figI (b.toNat / 16) (by omega)
  have h2 := fig_figI (b.toNat % 16) (by omega)
  simp only [bcells, List.map_cons, List.map_nil, h1, h2]
  norm_cast

theorem figure_any (x : Int) (h0 : 0 ≤ x) (h : x < 16) (w : World) :
    Calls Try.prog 18 #[.int .i64 x] w fun e w' => e = .returned (.int .u8 (figI x)) ∧ w' = w := by
  by_cases h1 : x < 10
  · have hf : figI x = 48 + x := if_pos h1
    rw [hf]; clear hf
    go_enter Try.func18, Try.ntmps18
    go_wp2
    go_ret
    exact ⟨rfl, rfl⟩
  · have hf : figI x = 87 + x := if_neg h1
    rw [hf]; clear hf
    go_enter Try.func18, Try.ntmps18
    go_wp2
    go_ret
    exact ⟨ret_int (by omega), rfl⟩

theorem spec_long (s : ByteArray) (w : World) (h : 20000 < s.size) :
    Calls Try.prog 7 #[.string s] w fun e w' => e = .returned (.tuple #[.string ⟨#[]⟩, .bool false]) ∧ w = w' := by
  go_enter Try.func7, Try.ntmps7
  go_wp2
  go_ret2
  exact ⟨rfl, rfl⟩

theorem impl_long (s : ByteArray) (w : World) (h : 20000 < s.size) :
    Calls Try.prog 8 #[.string s] w fun e w' => e = .returned (.tuple #[.string ⟨#[]⟩, .bool false]) ∧ w = w' := by
  go_enter Try.func8, Try.ntmps8
  go_wp2
  go_ret2
  exact ⟨rfl, rfl⟩

set_option maxHeartbeats 1000000 in
theorem spec_short (s : ByteArray) (w : World) (hs : s.size ≤ 20000) :
    Calls Try.prog 7 #[.string s] w fun e w' => e = .returned (.tuple #[.string ⟨(hexOf s.data.toList).toArray⟩, .bool true]) ∧ Below w.heap.size w w' := by
  obtain ⟨i0, hi0, hz0, hz1, hz2⟩ := info_parts Try.info5
  go_enter Try.func7, Try.ntmps7
  go_wp2
  go_loopw [4, 5] (fun v i wr => ∃ k : Nat, k ≤ s.size ∧ i = .int .i64 k ∧ wr.ownsRow w.heap.size 5 1 v (2 * k) (bcells (hexOf (s.data.toList.take k))) ∧ Below w.heap.size w wr) (fun _ i _ => s.size - (intOf i).toNat)
  case atStart => exact ⟨0, Nat.zero_le _, rfl, World.ownsRow_made w #[] 0 (Nat.le_refl _) (Nat.zero_le _) rfl, (Below.refl _ _).alloc (Nat.le_refl _) _⟩
  case round =>
    obtain ⟨k, hk, rfl, hown, hb⟩ := hrel
    by_cases hlt : k < s.size
    · have hi0' : (0 : Int) ≤ (k : Int) := Int.natCast_nonneg _
      have hi1 : (k : Int) < (s.size : Int) := by omega
      have hb1 := s[k].toNat_lt
      have e1 : IntKind.i64.wrap (s[k].toNat : Int) = (s[k].toNat : Int) := IntWalk.i64_in _ (by omega)
      have e2 : (s[k].toNat : Int).tdiv 16 = (s[k].toNat : Int) / 16 := Int.tdiv_eq_ediv_of_nonneg (by omega)
      have e3 : IntKind.i64.wrap ((s[k].toNat : Int) / 16) = (s[k].toNat : Int) / 16 := IntWalk.i64_in _ (by omega)
      have e4 : (s[k].toNat : Int).tmod 16 = (s[k].toNat : Int) % 16 := Int.tmod_eq_emod_of_nonneg (by omega)
      have e5 : IntKind.i64.wrap ((s[k].toNat : Int) % 16) = (s[k].toNat : Int) % 16 := IntWalk.i64_in _ (by omega)
      go_wp2
      refine Reg.wp_region_mixed 1 13 (by kernel_rfl) (by kernel_rfl) ?_
      simp only [List.take_succ_cons, List.take_zero, List.drop_succ_cons, List.drop_zero]
      refine Reg.wpPure_cons (by rfl) (fun _ => by rfl) (Reg.wpPure_nil ?_)
      simp only [Act.put, List.setIfInBounds_toArray, List.set_cons_zero, List.set_cons_succ]
      repeat still_step
      still_call (figure_any ((s[k].toNat : Int) / 16) (by omega) (by omega) _)
      repeat still_step
      still_call (figure_any ((s[k].toNat : Int) % 16) (by omega) (by omega) _)
      refine wpStill_nil ?_
      generalize hwd : wr.drew = w2
      have hown2 : w2.ownsRow w.heap.size 5 1 u4 (2 * k) (bcells (hexOf (s.data.toList.take k))) := hwd ▸ hown.drew
      have hb2 : Below w.heap.size w w2 := hwd ▸ hb.drew
      have hz2' := hb2.size
      clear hwd
      go_wp2_with (at_builtin; refine wpList_append_lies _ rfl _ _ 32 rfl w.heap.size 5 i0 _ 1 1 Try.underlying32 hi0 hz0 hz1 hz2 rfl (by omega) u4 (2 * k) _ rfl (hown2.alloc _) ⟨w2.heap.size, 0, none⟩ 2 2 [.int .u8 (figI ((s[k].toNat : Int) / 16)), .int .u8 (figI ((s[k].toNat : Int) % 16))] rfl rfl (World.news_of_block (heap_alloc_new w2 _)) (by simp [Value.oneCell']) (by omega) (by simp only [maxLen]; omega) (by omega) (by simp; omega) (w2.heap.size + 1) (by simp) ?_; intro g cap w1 hown1 hgrow hat hg1)
      refine NoPanic.normal ?_
      have hbw : Below w.heap.size w w1 := (hb2.alloc hz2' _).grown hgrow (by simp; omega) (fun j hj => (hown2.lt j hj).1)
      have hrow : w1.ownsRow w.heap.size 5 1 (.slice (some ⟨g, 0, none⟩) (2 * k + 2) cap) (2 * (k + 1)) (bcells (hexOf (s.data.toList.take (k + 1)))) := by
        rw [take_snoc s k hlt, hexOf_snoc, bcells_append, pair_cells]; exact hown1
      clear e1 e2 e3 e4 e5 hown1 hgrow hat hg1
      go_wp2
      go_roundw
      case rel => exact ⟨k + 1, by omega, by go_num, hrow, hbw⟩
      case measure => simp [intOf]; omega
    · have hcv := convert_own (src := 32) (dst := 9) Try.underlying32 Try.underlying5 Try.underlying9 hown
      rw [take_all s k (by omega)] at hcv
      go_wp2
      go_ret2
      exact ⟨rfl, hb⟩

def digits : ByteArray := { data := #[48, 49, 50, 51, 52, 53, 54, 55, 56, 57, 97, 98, 99, 100, 101, 102] }
theorem digit_nat : ∀ x : Fin 16, (((digits[x.val]'x.isLt).toNat : Nat) : Int) = figI x.val := by decide
theorem digit_at (x : Int) (h0 : 0 ≤ x) (h : x.toNat < digits.size) : ((digits[x.toNat]'h).toNat : Int) = figI x := by
  have := digit_nat ⟨x.toNat, h⟩
  simp only [Int.toNat_of_nonneg h0] at this
  exact this

set_option maxHeartbeats 1000000 in
theorem impl_short (s : ByteArray) (w : World) (hs : s.size ≤ 20000) :
    Calls Try.prog 8 #[.string s] w fun e w' => e = .returned (.tuple #[.string ⟨(hexOf s.data.toList).toArray⟩, .bool true]) ∧ Below w.heap.size w w' := by
  obtain ⟨i0, hi0, hz0, hz1, hz2⟩ := info_parts Try.info5
  go_enter Try.func8, Try.ntmps8
  go_wp2_with (at_make; refine wpList_make_own _ rfl _ _ 32 rfl w.heap.size 5 i0 _ 1 Try.underlying32 hi0 hz0 hz1 _ _ _ (2 * s.size) rfl rfl (by omega) (by rw [hz2]; omega) (by simp only [maxLen]; omega) (Nat.le_refl _) ?_; intro w0 hown0 hgrow0)
  go_loopw [4, 15] (fun v i wr => ∃ k : Nat, k ≤ s.size ∧ i = .int .i64 k ∧ wr.ownsRow w.heap.size 5 1 v (2 * k) (bcells (hexOf (s.data.toList.take k))) ∧ Below w.heap.size w wr) (fun _ i _ => s.size - (intOf i).toNat)
  case atStart => exact ⟨0, Nat.zero_le _, rfl, hown0, (Below.refl _ _).grown hgrow0 (Nat.le_refl _) (fun _ h => by cases h)⟩
  case round =>
    obtain ⟨k, hk, rfl, hown, hb⟩ := hrel
    by_cases hlt : k < s.size
    · have hi0' : (0 : Int) ≤ (k : Int) := Int.natCast_nonneg _
      have hi1 : (k : Int) < (s.size : Int) := by omega
      have hb1 := s[k].toNat_lt
      have e2 : (s[k].toNat : Int).tdiv 16 = (s[k].toNat : Int) / 16 := Int.tdiv_eq_ediv_of_nonneg (by omega)
      have e3 : IntKind.u8.wrap ((s[k].toNat : Int) / 16) = (s[k].toNat : Int) / 16 := IntWalk.u8_in _ (by omega)
      have e4 : (s[k].toNat : Int).tmod 16 = (s[k].toNat : Int) % 16 := Int.tmod_eq_emod_of_nonneg (by omega)
      have e5 : IntKind.u8.wrap ((s[k].toNat : Int) % 16) = (s[k].toNat : Int) % 16 := IntWalk.u8_in _ (by omega)
      have q0 : (0 : Int) ≤ (s[k].toNat : Int) / 16 := by omega
      have q1 : (s[k].toNat : Int) / 16 < 16 := by omega
      have r0 : (0 : Int) ≤ (s[k].toNat : Int) % 16 := by omega
      have r1 : (s[k].toNat : Int) % 16 < 16 := by omega
      have d1 := digit_at ((s[k].toNat : Int) / 16) q0
      have d2 := digit_at ((s[k].toNat : Int) % 16) r0
      unfold digits at d1 d2
      go_wp2
      refine Reg.wp_region_mixed 1 11 (by kernel_rfl) (by kernel_rfl) ?_
      simp only [List.take_succ_cons, List.take_zero, List.drop_succ_cons, List.drop_zero]
      refine Reg.wpPure_cons (by rfl) (fun _ => by rfl) (Reg.wpPure_nil ?_)
      simp only [Act.put, List.setIfInBounds_toArray, List.set_cons_zero, List.set_cons_succ]
      repeat still_step
      refine wpStill_nil ?_
      generalize hwd : wr.drew = w2
      have hown2 : w2.ownsRow w.heap.size 5 1 u4 (2 * k) (bcells (hexOf (s.data.toList.take k))) := hwd ▸ hown.drew
      have hb2 : Below w.heap.size w w2 := hwd ▸ hb.drew
      have hz2' := hb2.size
      clear hwd
      go_wp2_with (at_builtin; refine wpList_append_lies _ rfl _ _ 32 rfl w.heap.size 5 i0 _ 1 1 Try.underlying32 hi0 hz0 hz1 hz2 rfl (by omega) u4 (2 * k) _ rfl (hown2.alloc _) ⟨w2.heap.size, 0, none⟩ 2 2 [.int .u8 (figI ((s[k].toNat : Int) / 16)), .int .u8 (figI ((s[k].toNat : Int) % 16))] rfl rfl (World.news_of_block (heap_alloc_new w2 _)) (by simp [Value.oneCell']) (by omega) (by simp only [maxLen]; omega) (by omega) (by simp; omega) (w2.heap.size + 1) (by simp) ?_; intro g cap w1 hown1 hgrow hat hg1)
      refine NoPanic.normal ?_
      have hbw : Below w.heap.size w w1 := (hb2.alloc hz2' _).grown hgrow (by simp; omega) (fun j hj => (hown2.lt j hj).1)
      have hrow : w1.ownsRow w.heap.size 5 1 (.slice (some ⟨g, 0, none⟩) (2 * k + 2) cap) (2 * (k + 1)) (bcells (hexOf (s.data.toList.take (k + 1)))) := by
        rw [take_snoc s k hlt, hexOf_snoc, bcells_append, pair_cells]; exact hown1
      clear e2 e3 e4 e5 d1 d2 hown1 hgrow hat hg1
      go_wp2
      go_roundw
      case rel => exact ⟨k + 1, by omega, by go_num, hrow, hbw⟩
      case measure => simp [intOf]; omega
    · have hcv := convert_own (src := 32) (dst := 9) Try.underlying32 Try.underlying5 Try.underlying9 hown
      rw [take_all s k (by omega)] at hcv
      go_wp2
      go_ret2
      exact ⟨rfl, hb⟩
end Go.Proofs.Ytocnhnhklpfdgaa.fnExactHex
