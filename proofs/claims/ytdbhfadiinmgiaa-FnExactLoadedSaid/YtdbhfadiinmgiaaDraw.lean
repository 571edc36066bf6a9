/-
  The given model's cursor over drawn bytes: what l01New, l01Byte and l01Below do to memory, and in which range their numbers lie; no statement about the project's code stands here. No condition.
-/
import Derived.Test.YtdbhfadiinmgiaaBase
import Derived.Test.YtdbhfadiinmgiaaRegion
import Derived.IntWalk
namespace Go.Proofs.Ytdbhfadiinmgiaa.Draw
set_option maxRecDepth 100000
open Go.ChangeShapes Go.WideShapes Go.ChangeAt Go.RowKit
open Go.Proofs.Ytdbhfadiinmgiaa.Base

/-- The bytes of a slice lie in memory. -/
def CodeAt (w : World) (A : Option Addr) (n : Nat) : Prop :=
  ∀ k, k < n → ∃ (b off : Nat) (x : Int), A = some ⟨b, off, none⟩ ∧ b < w.heap.size ∧ 0 ≤ x ∧ x ≤ 255 ∧ w.cell? ⟨b, off + k, none⟩ = some (.int .u8 x)
theorem CodeAt.below {w w' : World} {A : Option Addr} {n : Nat} (h : CodeAt w A n) (hb : Below w.heap.size w w') : CodeAt w' A n := fun k hk => by
  obtain ⟨b, off, x, e, h1, h2, h3, h4⟩ := h k hk
  exact ⟨b, off, x, e, Nat.lt_of_lt_of_le h1 hb.size, h2, h3, (hb.cell h1).trans h4⟩

/-- The cursor's block g, in a world w that agrees with w0 below w0's end. -/
def Cur (w0 : World) (A : Option Addr) (n c : Nat) (w : World) (g : Nat) : Prop :=
  Below w0.heap.size w0 w ∧ w0.heap.size ≤ g ∧ ∃ (i : Nat) (h : Int), i ≤ n ∧ w.heap[g]? = some (.cells #[.slice A n c, .int .i64 i, .int .i64 h] 98 (0, 0))

def BytePost (w0 : World) (A : Option Addr) (n c : Nat) (w : World) (g : Nat) (m : Int) (e : Ending) (w' : World) : Prop :=
  ∃ x : Int, e = .returned (.int .i64 x) ∧ 0 ≤ x ∧ x < m ∧ Cur w0 A n c w' g ∧ w.grownBy w' (some g)

theorem and255 (n : Int) : bits .and .i64 n 255 = n % 256 := by
  have h1 : (BitVec.ofInt 64 255).toNat = 2 ^ 8 - 1 := by decide
  have h2 : (BitVec.ofInt 64 n &&& BitVec.ofInt 64 255).toNat = (n % ((2 ^ 64 : Nat) : Int)).toNat % 2 ^ 8 := by
    rw [BitVec.toNat_and, BitVec.toNat_ofInt, h1, Nat.and_two_pow_sub_one_eq_mod]
  change IntKind.i64.wrap ((BitVec.ofInt 64 n &&& BitVec.ofInt 64 255).toNat : Nat) = n % 256
  rw [h2, IntKind.wrap_i64]
  omega
theorem and255_bd (n : Int) : 0 ≤ bits .and .i64 n 255 ∧ bits .and .i64 n 255 < 256 := by rw [and255]; omega

theorem blk_set1 {w : World} {g : Nat} {T : TypeId} {x y z u : Value} (h : w.heap[g]? = some (.cells #[x, y, z] T (0, 0))) : (w.setCell ⟨g, 1, none⟩ u).heap[g]? = some (.cells #[x, u, z] T (0, 0)) := by
  simp [World.setCell, Array.getElem?_modify, h]
theorem blk_set2 {w : World} {g : Nat} {T : TypeId} {x y z u : Value} (h : w.heap[g]? = some (.cells #[x, y, z] T (0, 0))) : (w.setCell ⟨g, 2, none⟩ u).heap[g]? = some (.cells #[x, y, u] T (0, 0)) := by
  simp [World.setCell, Array.getElem?_modify, h]
theorem grown_set (w : World) (g j : Nat) (u : Value) : w.grownBy (w.setCell ⟨g, j, none⟩ u) (some g) :=
  ⟨rfl, rfl, rfl, by simp, fun i _ hne => Below.heap_setCell w ⟨g, j, none⟩ u i (fun h => hne (by rw [h]))⟩
theorem grown_drewN {a w : World} {row : Option Nat} (h : a.grownBy w row) (n : Nat) : a.grownBy (w.drewN n) row := ⟨h.os, h.tape, h.output, h.size, h.block⟩
theorem grown_trans {a b c : World} {row : Option Nat} (h : a.grownBy b row) (k : b.grownBy c row) : a.grownBy c row :=
  ⟨k.os.trans h.os, k.tape.trans h.tape, k.output.trans h.output, Nat.le_trans h.size k.size, fun i hi hne => (k.block i (Nat.lt_of_lt_of_le hi h.size) hne).trans (h.block i hi hne)⟩

set_option maxHeartbeats 1000000 in
theorem byte_any (w0 : World) (A : Option Addr) (n c g : Nat) (w : World) (hn : n ≤ 1048576) (hcode : CodeAt w0 A n) (hcur : Cur w0 A n c w g) :
    Calls Try.prog 99 #[.pointer (some ⟨g, 0, none⟩)] w (BytePost w0 A n c w g 256) := by
  obtain ⟨hb, hg, i, h, hi, hblk⟩ := hcur
  have c0 : w.cell? ⟨g, 0, none⟩ = some (.slice A n c) := cell_of_row w g 0 _ _ _ hblk
  have c1 : w.cell? ⟨g, 1, none⟩ = some (.int .i64 i) := cell_of_row w g 1 _ _ _ hblk
  have c2 : w.cell? ⟨g, 2, none⟩ = some (.int .i64 h) := cell_of_row w g 2 _ _ _ hblk
  have f1 : w.frozen? ⟨g, 1, none⟩ = false := by simp [World.frozen?, hblk]
  have f2 : w.frozen? ⟨g, 2, none⟩ = false := by simp [World.frozen?, hblk]
  have HB := Lib.hid hblk
  clear hblk
  have bd := Lib.hid and255_bd
  by_cases hlt : i < n
  · obtain ⟨b, off, x, rfl, hbw, hx0, hx1, hx⟩ := hcode i hlt
    have hne : g ≠ b := by omega
    have hne' : b ≠ g := by omega
    have hcx : w.cell? ⟨b, off + i, none⟩ = some (.int .u8 x) := (hb.cell hbw).trans hx
    have hcx2 : ∀ v, (w.setCell ⟨g, 2, none⟩ v).cell? ⟨b, off + i, none⟩ = some (.int .u8 x) := fun v => by
      rw [World.cell?_setCell_far w _ _ v hne]; exact hcx
    have hi0 : (0 : Int) ≤ (i : Int) := Int.natCast_nonneg _
    have hi1 : (i : Int) < (n : Int) := by omega
    clear hx hcx
    go_enter Try.func99, Try.ntmps99
    go_wp2
    go_quiet (fail)
    go_wp2
    go_quiet (fail)
    go_wp2
    go_quiet (fail)
    go_wp2
    go_ret
    have hB2 : (((w.setCell ⟨g, 2, none⟩ (.int .i64 (wrap64 (wrap64 (h * 6364136223846793005) + 1442695040888963407)))).drewN (nq + 0)).heap[g]? = some (.cells #[.slice (some ⟨b, off, none⟩) n c, .int .i64 i, .int .i64 (wrap64 (wrap64 (h * 6364136223846793005) + 1442695040888963407))] 98 (0, 0))) := blk_set2 HB.out
    exact ⟨_, rfl, (bd.out _).1, (bd.out _).2, ⟨(below_drewN (hb.setCell (p := ⟨g, 2, none⟩) hg _) _).setCell (p := ⟨g, 1, none⟩) hg _, hg, i + 1, _, by omega, blk_set1 hB2⟩, grown_trans (grown_drewN (grown_set w g 2 _) _) (grown_set _ g 1 _)⟩
  · go_enter Try.func99, Try.ntmps99
    go_wp2
    go_quiet (fail)
    go_wp2
    go_quiet (fail)
    go_wp2
    go_ret
    exact ⟨_, rfl, (bd.out _).1, (bd.out _).2, ⟨below_drewN (below_drewN (hb.setCell (p := ⟨g, 2, none⟩) hg _) _) _, hg, i, _, hi, blk_set2 HB.out⟩, grown_drewN (grown_drewN (grown_set w g 2 _) _) _⟩

set_option maxHeartbeats 1000000 in
/-- l01Below(c, m) for m from 1 on. -/
theorem below_any (w0 : World) (A : Option Addr) (n c g : Nat) (w : World) (m : Int) (hm0 : 0 < m) (hm1 : m ≤ 4294967296) (hn : n ≤ 1048576) (hcode : CodeAt w0 A n) (hcur : Cur w0 A n c w g) :
    Calls Try.prog 48 #[.pointer (some ⟨g, 0, none⟩), .int .i64 m] w (BytePost w0 A n c w g m) := by
  have HC := Lib.hid hcode
  have HU := Lib.hid hcur
  clear hcode hcur
  have hm2 : ¬ m ≤ 0 := by omega
  by_cases h256 : m ≤ 256
  · go_enter Try.func48, Try.ntmps48
    go_wp2_with (go_at_call 99; refine (byte_any w0 A n c g _ hn HC.out HU.out).mono ?_; rintro e w1 ⟨x, rfl, hx0, hx1, hc1, hg1⟩)
    go_ret
    exact ⟨_, rfl, Int.emod_nonneg _ (by omega), Int.emod_lt_of_pos _ hm0, hc1, hg1⟩
  · go_enter Try.func48, Try.ntmps48
    go_wp2_with fail
    refine (byte_any w0 A n c g _ hn HC.out HU.out).mono ?_
    rintro e w1 ⟨x, rfl, hx0, hx1, hc1, hg1⟩
    go_wp2_with fail
    refine (byte_any w0 A n c g _ hn HC.out hc1).mono ?_
    rintro e w2 ⟨y, rfl, hy0, hy1, hc2, hg2⟩
    go_wp2_with fail
    refine (byte_any w0 A n c g _ hn HC.out hc2).mono ?_
    rintro e w3 ⟨z, rfl, hz0, hz1, hc3, hg3⟩
    go_wp2_with fail
    refine (byte_any w0 A n c g _ hn HC.out hc3).mono ?_
    rintro e w4 ⟨u, rfl, hu0, hu1, hc4, hg4⟩
    go_wp2_with fail
    go_ret
    exact ⟨_, rfl, Int.emod_nonneg _ (by omega), Int.emod_lt_of_pos _ hm0, hc4, grown_trans (grown_trans (grown_trans hg1 hg2) hg3) hg4⟩

def NewPost (A : Option Addr) (n c : Nat) (w : World) (e : Ending) (w' : World) : Prop :=
  e = .returned (.pointer (some ⟨w.heap.size, 0, none⟩)) ∧ Cur w A n c w' w.heap.size ∧ w'.heap.size = w.heap.size + 1

theorem new_end (A : Option Addr) (n c : Nat) (w : World) (x : Int) : NewPost A n c w (.returned (.pointer (some ⟨w.heap.size, 0, none⟩))) (w.alloc (.cells #[.slice A n c, .int .i64 0, .int .i64 x] 98)) :=
  ⟨rfl, ⟨(Below.refl _ _).alloc (Nat.le_refl _) _, Nat.le_refl _, 0, x, Nat.zero_le _, heap_alloc_new w _⟩, by simp⟩

set_option maxRecDepth 100000 in
set_option maxHeartbeats 1000000 in
theorem new_any (A : Option Addr) (n c : Nat) (w : World) (hn : n ≤ 1048576) (hcode : CodeAt w A n) :
    Calls Try.prog 43 #[.slice A n c] w (NewPost A n c w) := by
  have HC := Lib.hid hcode
  clear hcode
  go_enter Try.func43, Try.ntmps43
  go_wp2
  go_loop [3, 4] (fun h i => ∃ (k : Nat) (x : Int), k ≤ n ∧ k ≤ 4000 ∧ i = .int .i64 k ∧ h = .int .i64 x) (fun _ i => n - (intOf i).toNat)
  case atStart => exact ⟨0, _, Nat.zero_le _, Nat.zero_le _, rfl, rfl⟩
  case round =>
    obtain ⟨k, x, hk, hk2, rfl, rfl⟩ := hrel
    by_cases hlt : k < n
    · by_cases hlt2 : k < 4000
      · obtain ⟨b, off, y, rfl, hbw, hy0, hy1, hy⟩ := HC.out k hlt
        have hi0 : (0 : Int) ≤ (k : Int) := Int.natCast_nonneg _
        have hi1 : (k : Int) < (n : Int) := by omega
        go_wp2
        go_round
        case rel => exact ⟨k + 1, _, by omega, by omega, by go_num, rfl⟩
        case measure => simp [intOf]; omega
      · go_wp2
        go_ret
        exact new_end A n c w x
    · go_wp2
      go_ret
      exact new_end A n c w x

theorem row_ne_blk {w : World} {b n g : Nat} {e T : TypeId} {v : Value} {xs : List Value} {cs : Array Value} (h : w.ownsRow b e 1 v n xs) (hg : w.heap[g]? = some (.cells cs T (0, 0))) (hne : e ≠ T) : v.ownBlock ≠ some g := by
  rcases h.2 with ⟨rfl, _⟩ | ⟨g', c, cur, rfl, _, hg', _⟩
  · intro he; cases he
  · intro he
    have : g' = g := by simpa [Value.ownBlock] using he
    subst this
    rw [hg] at hg'
    injection hg' with hg'
    injection hg' with _ ht
    exact hne ht.symm
theorem Cur.ne {w0 w : World} {A : Option Addr} {n c g b k : Nat} {e : TypeId} {v : Value} {xs : List Value} (h : Cur w0 A n c w g) (hr : w.ownsRow b e 1 v k xs) (hne : e ≠ 98) : v.ownBlock ≠ some g := by
  obtain ⟨_, _, _, _, _, hb⟩ := h
  exact row_ne_blk hr hb hne
theorem Cur.lt {w0 w : World} {A : Option Addr} {n c g : Nat} (h : Cur w0 A n c w g) : g < w.heap.size := by
  obtain ⟨_, _, _, _, _, hb⟩ := h
  rcases Nat.lt_or_ge g w.heap.size with h' | h'
  · exact h'
  · rw [Array.getElem?_eq_none h'] at hb; cases hb
theorem Cur.grown {w0 w w' : World} {A : Option Addr} {n c g : Nat} {row : Option Nat} (h : Cur w0 A n c w g) (hg : w.grownBy w' row) (hne : row ≠ some g) (hr : ∀ k, row = some k → w0.heap.size ≤ k) : Cur w0 A n c w' g := by
  have hlt := h.lt
  obtain ⟨hb, hg0, i, x, hi, hk⟩ := h
  exact ⟨hb.grown hg hb.size hr, hg0, i, x, hi, (hg.block g hlt (Ne.symm hne)).trans hk⟩
theorem Cur.alloc {w0 w : World} {A : Option Addr} {n c g : Nat} (h : Cur w0 A n c w g) (o : Obj) : Cur w0 A n c (w.alloc o) g :=
  h.grown (World.grownBy_alloc w o none) (by simp) (fun _ h => by cases h)
end Go.Proofs.Ytdbhfadiinmgiaa.Draw
