/-
  Contracts of the law package's helpers over slices of strings (equality, marking, looking the marks up), and of its markText; no statement about the project's code stands here. No condition.
-/
import Derived.Test.YtocnhnhklpfdgaaNum
import Derived.Test.YtocnhnhklpfdgaaRegion
import Derived.IntWalk
import Derived.ShutString
namespace Go.Proofs.Ytocnhnhklpfdgaa.Str
open Go.ChangeShapes Go.WideShapes Go.ChangeAt Go.RowKit
open Go.Proofs.Ytocnhnhklpfdgaa.Base Go.Proofs.Ytocnhnhklpfdgaa.Num

def mark (n : Nat) : ByteArray := ⟨(109 :: dec n).toArray⟩

set_option maxHeartbeats 1000000 in
theorem markText_any (n : Nat) (hn : 0 < n) (hn2 : n < 1000000000) (w : World) :
    Calls Try.prog 22 #[.int .i64 n] w fun e w' => e = .returned (.string (mark n)) ∧ Below w.heap.size w w' := by
  have hl := dec_len 9 n hn2
  go_enter Try.func22, Try.ntmps22
  go_wp2
  go_loopw [0, 3] (fun k o wr => ∃ (j : Nat) (out : ByteArray), j ≤ n ∧ k = .int .i64 j ∧ o = .string out ∧ dec j ++ out.data.toList = dec n ∧ Below w.heap.size w wr) (fun k _ _ => (intOf k).toNat)
  case atStart => exact ⟨n, ⟨#[]⟩, Nat.le_refl _, rfl, rfl, by simp, Below.refl _ _⟩
  case round =>
    obtain ⟨j, out, hj, rfl, rfl, hd, hb⟩ := hrel
    have hlen : (dec j).length + out.size = (dec n).length := by rw [← hd]; simp
    have HD := Lib.hid hd
    clear hd
    by_cases h0 : 0 < j
    · have hcv := convert_lit (P := Try.prog) wr (src := 32) (dst := 9) Try.underlying32 Try.underlying5 Try.underlying9 (48 + (j : Int) % 10) (by omega) (by omega)
      go_wp2
      go_roundw
      case rel =>
        refine ⟨j / 10, _, by omega, by go_num, rfl, ?_, hb.alloc hb.size _⟩
        rw [← HD.out, dec_pos j h0]
        simp [ByteArray.data_append, List.append_assoc]
      case measure => simp [intOf]; omega
    · go_wp2
      go_ret
      have hj0 : j = 0 := by omega
      have he := HD.out
      rw [hj0, dec_zero, List.nil_append] at he
      refine ⟨?_, hb⟩
      show Ending.returned (.string ({ data := #[109] } ++ out)) = _
      have hx : ({ data := #[109] } ++ out : ByteArray) = mark n := by
        apply ByteArray.ext
        apply Array.toList_inj.1
        simp [mark, ByteArray.data_append, he]
      rw [hx]

/-- The cells of a list of strings. -/
def scells (l : List ByteArray) : List Value := l.map Value.string
theorem scells_len (l : List ByteArray) : (scells l).length = l.length := by simp [scells]
theorem scells_one (l : List ByteArray) : ∀ u ∈ scells l, u.oneCell' = true := by
  intro u hu
  obtain ⟨b, _, rfl⟩ := List.mem_map.1 hu
  rfl
theorem scells_at (l : List ByteArray) (k : Nat) (h : k < l.length) : (scells l)[k]? = some (.string l[k]) := by simp [scells, h]

/-- A cell of a row. -/
theorem row_cell {w : World} {base : Nat} {e : TypeId} {A : Option Addr} {n c : Nat} {l : List ByteArray} (h : w.ownsRow base e 1 (.slice A n c) n (scells l)) (hn : 0 < n) :
    ∃ g, A = some ⟨g, 0, none⟩ ∧ base ≤ g ∧ g < w.heap.size ∧ l.length = n ∧ n ≤ c ∧ ∀ k (hk : k < l.length), w.cell? ⟨g, k, none⟩ = some (.string l[k]) := by
  obtain ⟨g, cap, hv, hb, hlt⟩ := h.form hn
  injection hv with h1 h2 h3
  subst h1
  have hl : l.length = n := by have := h.1; rw [scells_len] at this; omega
  have hnc : n ≤ c := by
    rcases h.2 with ⟨h0, _⟩ | ⟨g', cap', cur, hv', _, _, hnc, _⟩
    · injection h0 with h0; cases h0
    · injection hv' with _ _ h5; omega
  refine ⟨g, rfl, hb, hlt, hl, hnc, fun k hk => ?_⟩
  rw [h.cellAt k (by omega), scells_at l k hk]

set_option maxHeartbeats 1000000 in
theorem eq_same (A B : Option Addr) (n c d b1 b2 : Nat) (l : List ByteArray) (w : World) (hn : n ≤ 1000000)
    (h1 : w.ownsRow b1 9 1 (.slice A n c) n (scells l)) (h2 : w.ownsRow b2 9 1 (.slice B n d) n (scells l)) :
    Calls Try.prog 13 #[.slice A n c, .slice B n d] w fun e w' => e = .returned (.bool true) ∧ ∃ m, w' = w.drewN m := by
  go_enter Try.func13, Try.ntmps13
  go_wp2
  go_loopw [5] (fun i wr => ∃ (k m : Nat), k ≤ n ∧ i = .int .i64 k ∧ wr = w.drewN m) (fun i _ => n - (intOf i).toNat)
  case atStart => exact ⟨0, 0, Nat.zero_le _, rfl, rfl⟩
  case round =>
    obtain ⟨k, m, hk, rfl, rfl⟩ := hrel
    by_cases hlt : k < n
    · obtain ⟨g, rfl, _, hg1, hl1, hc1, hcell1⟩ := row_cell h1 (by omega)
      obtain ⟨g', rfl, _, hg2, hl2, hc2, hcell2⟩ := row_cell h2 (by omega)
      have c1 := hcell1 k (by omega)
      have c2 := hcell2 k (by omega)
      have hi0 : (0 : Int) ≤ (k : Int) := Int.natCast_nonneg _
      have hi1 : (k : Int) < (n : Int) := by omega
      generalize l[k] = x at c1 c2
      clear hcell1 hcell2 hl1 hl2
      go_wp2
      go_quiet (fail)
      go_wp2
      go_roundw
      case rel => exact ⟨k + 1, _, by omega, by go_num, rfl⟩
      case measure => simp [intOf]; omega
    · go_wp2
      go_ret
      exact ⟨rfl, m, rfl⟩

/-- The marks k, k + 1, .. -/
def marks (k n : Nat) : List ByteArray := (List.range n).map fun j => mark (k + j)
theorem marks_len (k n : Nat) : (marks k n).length = n := by simp [marks]
theorem marks_at (k n j : Nat) (h : j < (marks k n).length) : (marks k n)[j] = mark (k + j) := by simp [marks]

set_option maxHeartbeats 1000000 in
theorem held_any (A : Option Addr) (n c b1 k0 : Nat) (w : World) (hn : n ≤ 1000000) (hk0 : 0 < k0) (hk1 : k0 ≤ 1000000)
    (h1 : w.ownsRow b1 9 1 (.slice A n c) n (scells (marks k0 n))) :
    Calls Try.prog 15 #[.slice A n c, .int .i64 k0] w fun e w' => e = .returned (.int .i64 ((k0 : Int) + n)) ∧ Below w.heap.size w w' := by
  go_enter Try.func15, Try.ntmps15
  go_wp2
  go_loopw [1, 5] (fun q i wr => ∃ (k : Nat), k ≤ n ∧ i = .int .i64 k ∧ q = .int .i64 ((k0 + k : Nat) : Int) ∧ Below w.heap.size w wr) (fun _ i _ => n - (intOf i).toNat)
  case atStart => exact ⟨0, Nat.zero_le _, rfl, rfl, Below.refl _ _⟩
  case round =>
    obtain ⟨k, hk, rfl, rfl, hb⟩ := hrel
    by_cases hlt : k < n
    · obtain ⟨g, rfl, _, hg1, hl1, hc1, hcell1⟩ := row_cell h1 (by omega)
      have c1 := hcell1 k (by omega)
      rw [marks_at] at c1
      have c1' : wr.cell? ⟨g, k, none⟩ = some (.string (mark (k0 + k))) := (hb.cell hg1).trans c1
      have hi0 : (0 : Int) ≤ (k : Int) := Int.natCast_nonneg _
      have hi1 : (k : Int) < (n : Int) := by omega
      have hgr : g < wr.heap.size := Nat.lt_of_lt_of_le hg1 hb.size
      have hbs := hb.size
      clear hcell1 hl1 c1
      go_wp2
      go_region_held3 (fun w' => w'.cell? ⟨g, k, none⟩ = some (.string (mark (k0 + k)))) (first | exact c1' | exact (hb1.cell (p := ⟨g, k, none⟩) hgr).trans c1')
        (first | (go_at_call 22; refine (markText_any (k0 + k) (by omega) (by omega) _).mono ?_; rintro e w1 ⟨rfl, hb1⟩))
      have hbw : Below w.heap.size w w1 := hb.drew.trans (hb1.mono hbs)
      clear hb1 c1'
      all_goals go_wp2
      go_roundw
      case rel => exact ⟨k + 1, by omega, by go_num, by go_num, hbw⟩
      case measure => simp [intOf]; omega
    · go_wp2
      go_ret
      exact ⟨ret_int (by omega), hb⟩

theorem grown_of_below {w w' : World} (h : Below w.heap.size w w') (row : Option Nat) : w.grownBy w' row := ⟨h.os, h.tape, h.output, h.size, fun i hi _ => h.block i hi⟩
theorem grown_trans {a b c : World} {row : Option Nat} (h : a.grownBy b row) (k : b.grownBy c row) : a.grownBy c row :=
  ⟨k.os.trans h.os, k.tape.trans h.tape, k.output.trans h.output, Nat.le_trans h.size k.size, fun i hi hne => (k.block i (Nat.lt_of_lt_of_le hi h.size) hne).trans (h.block i hi hne)⟩
theorem grown_setCell (w : World) (g j : Nat) (u : Value) : w.grownBy (w.setCell ⟨g, j, none⟩ u) (some g) :=
  ⟨rfl, rfl, rfl, by simp, fun i _ hne => Below.heap_setCell w ⟨g, j, none⟩ u i (fun h => hne (by rw [h]))⟩

theorem marks_step (k0 k : Nat) (l : List ByteArray) (hk : k < l.length) :
    (scells (marks k0 k ++ l.drop k)).set k (.string (mark (k0 + k))) = scells (marks k0 (k + 1) ++ l.drop (k + 1)) := by
  have h1 : l.drop k = l[k] :: l.drop (k + 1) := List.drop_eq_getElem_cons hk
  have h2 : (marks k0 k).length = k := marks_len _ _
  have h3 : marks k0 (k + 1) = marks k0 k ++ [mark (k0 + k)] := by simp [marks, List.range_succ]
  rw [h1, h3]
  simp only [scells, List.map_append, List.map_cons, List.map_nil, List.append_assoc]
  rw [List.set_append_right _ _ (by simp [h2])]
  simp [h2]

theorem row_keep {wr w1 : World} {base g n c : Nat} {e : TypeId} {xs : List Value} (h : wr.ownsRow base e 1 (.slice (some ⟨g, 0, none⟩) n c) n xs) (hb : Below wr.heap.size wr w1) (k : Nat) (hk : k < n) :
    ∃ u, w1.cell? ⟨g, k, none⟩ = some u ∧ w1.frozen? ⟨g, k, none⟩ = false := by
  have h1 := h.kept (grown_of_below hb none) (.inr (by simp [Value.ownBlock]))
  have hl := h1.1
  refine ⟨xs[k]'(by omega), ?_, h1.frozenAt k⟩
  rw [h1.cellAt k (by omega)]
  exact List.getElem?_eq_getElem _

set_option maxHeartbeats 1000000 in
theorem mark_any (A : Option Addr) (n c b1 k0 : Nat) (l : List ByteArray) (w : World) (hn : n ≤ 1000000) (hk0 : 0 < k0) (hk1 : k0 ≤ 1000000)
    (h1 : w.ownsRow b1 9 1 (.slice A n c) n (scells l)) :
    Calls Try.prog 14 #[.slice A n c, .int .i64 k0] w fun e w' => e = .returned (.int .i64 ((k0 : Int) + n)) ∧
      w'.ownsRow b1 9 1 (.slice A n c) n (scells (marks k0 n)) ∧ w.grownBy w' (Value.slice A n c).ownBlock := by
  have hl : l.length = n := by have := h1.1; rw [scells_len] at this; omega
  have hl1 : l.length ≤ n := by omega
  have hl2 : n ≤ l.length := by omega
  clear hl
  go_enter Try.func14, Try.ntmps14
  go_wp2
  go_loopw [1, 5] (fun q i wr => ∃ (k : Nat), k ≤ n ∧ i = .int .i64 k ∧ q = .int .i64 ((k0 + k : Nat) : Int) ∧ wr.ownsRow b1 9 1 (.slice A n c) n (scells (marks k0 k ++ l.drop k)) ∧ w.grownBy wr (Value.slice A n c).ownBlock) (fun _ i _ => n - (intOf i).toNat)
  case atStart => exact ⟨0, Nat.zero_le _, rfl, rfl, h1, World.grownBy.refl _ _⟩
  case round =>
    obtain ⟨k, hk, rfl, rfl, hown, hgr⟩ := hrel
    by_cases hlt : k < n
    · have hown0 := hown
      obtain ⟨g, rfl, _, hg1, hl3, hc1, hcell1⟩ := row_cell hown (by omega)
      have hi0 : (0 : Int) ≤ (k : Int) := Int.natCast_nonneg _
      have hi1 : (k : Int) < (n : Int) := by omega
      clear hcell1 hl3
      go_wp2_with (go_at_call 22; refine (markText_any (k0 + k) (by omega) (by omega) _).mono ?_; rintro e w1 ⟨rfl, hb1⟩; obtain ⟨u, hu, hf⟩ := row_keep hown hb1 k (by omega))
      have hset := (hown.kept (grown_of_below hb1 none) (.inr (by simp [Value.ownBlock]))).stored k (.string (mark (k0 + k)))
      have hgw := grown_trans (grown_trans hgr (grown_of_below hb1 _)) hset.2
      have hrow := hset.1
      rw [marks_step k0 k l (by omega)] at hrow
      go_roundw
      case rel => exact ⟨k + 1, by omega, by go_num, by go_num, hrow, hgw⟩
      case measure => simp [intOf]; omega
    · have hkn : k = n := by omega
      subst hkn
      rw [List.drop_of_length_le hl1, List.append_nil] at hown
      go_wp2
      go_ret
      exact ⟨ret_int (by omega), hown, hgr⟩
end Go.Proofs.Ytocnhnhklpfdgaa.Str
