/-
  Page tables: TableNew of the project and of the given model. No condition.
-/
import Derived.Test.YtdbhfadiinmgiaaWith
import Derived.Test.YtdbhfadiinmgiaaBroughtImpl
import Derived.Deep.MidRow
namespace Go.Proofs.Ytdbhfadiinmgiaa.Slots
set_option maxRecDepth 100000
open Go.ChangeShapes Go.WideShapes Go.ChangeAt Go.RowKit
open Go.Proofs.Ytdbhfadiinmgiaa.Base Go.Proofs.Ytdbhfadiinmgiaa.Mem Go.Proofs.Ytdbhfadiinmgiaa.Ints
set_option linter.unusedVariables false

/-- A result that lies in a variable. -/
theorem results_cell {fn : Func} {P : Program} {w : World} {t : Tmp} {ty : TypeId} {tmps : Array Value} {ad : Addr} {v : Value} (h : fn.results = #[.cell t ty]) (hp : tmps.getD t undef = .pointer (some ad)) (hl : (loadVar ty ad).run P w = .ok v w) :
    (results fn tmps).run P w = .ok v w := by
  have hp' : tmps[t]?.getD undef = .pointer (some ad) := by simpa using hp
  simp [results, h, hp', asAddr, hl]
theorem bset {B b : Nat} {a : World} (hb : B ≤ b) : ∀ (vs : List Value) (o : Nat) (w : World), Below B a w → Below B a (w.setCells b o vs)
  | [], _, _, h => h
  | v :: r, o, w, h => bset hb r (o + 1) _ (h.setCell (p := ⟨b, o, none⟩) hb v)
theorem range_of_row {w : World} {base g n c size : Nat} {e : TypeId} {xs : List Value} (h : w.ownsRow base e size (.slice (some ⟨g, 0, none⟩) n c) n xs) : w.rangeAt g 0 xs := fun j v hv => by
  have := h.cells (g := g) rfl j v hv
  rw [Addr.add_lit] at this
  exact this
theorem there_of_row {w : World} {base g n c size : Nat} {e : TypeId} {xs : List Value} (h : w.ownsRow base e size (.slice (some ⟨g, 0, none⟩) n c) n xs) : w.there g 0 xs.length := fun j hj => by
  refine ⟨?_, by rw [Nat.zero_add]; exact h.frozenAt j⟩
  have := range_of_row h j _ (List.getElem?_eq_getElem hj)
  rw [this]; rfl

def zero48 : Array Value := (scells (List.replicate 24 (0, 0))).toArray
theorem nosL_take (k : Nat) (h : k ≤ 24) : (nosL 24).take k = nosL k := by unfold nosL; rw [List.take_replicate, Nat.min_eq_left h]
theorem nosL_len (k : Nat) : (nosL k).length = k := by simp [nosL]
theorem nosL_step (k : Nat) (h : k < 24) : (nosL 24).take (k + 1) = (nosL 24).take k ++ [(-1, 0)] := by
  rw [nosL_take _ h, nosL_take _ (by omega)]
  exact List.replicate_succ'
theorem infoArr : (Try.prog.info? 108).map (·.size) = some 48 := by kernel_rfl
theorem nos48 : (scells (nosL 24)).length = 48 := rfl

set_option maxRecDepth 100000 in
set_option maxHeartbeats 2000000 in
theorem empty_any (w : World) :
    Calls Try.prog 106 #[] w fun e w' => e = .returned (.agg (scells (nosL 24)).toArray) ∧ Below w.heap.size w w' := by
  have hr1 : ((w.alloc (.cells zero48 108)).alloc (.cells zero48 108)).ownsRow w.heap.size 108 2 (.slice (some ⟨w.heap.size + 1, 0, none⟩) 24 24) 24 zero48.toList := by
    have := World.ownsRow_lit (base := w.heap.size) (e := 108) (size := 2) (w.alloc (.cells zero48 108)) zero48 24 (by simp) (by decide) rfl
    simpa using this
  have hr0 : ((w.alloc (.cells zero48 108)).alloc (.cells zero48 108)).ownsRow w.heap.size 108 2 (.slice (some ⟨w.heap.size, 0, none⟩) 24 24) 24 zero48.toList :=
    (World.ownsRow_lit (base := w.heap.size) (e := 108) (size := 2) w zero48 24 (Nat.le_refl _) (by decide) rfl).alloc _
  have hb0 : Below w.heap.size w ((w.alloc (.cells zero48 108)).alloc (.cells zero48 108)) := ((Below.refl _ _).alloc (Nat.le_refl _) _).alloc (by simp) _
  have H0 := Lib.hid (And.intro hr0 (And.intro hr1 hb0))
  clear hr0 hr1 hb0
  go_enter Try.func106, Try.ntmps106
  go_wp2
  go_loopw [2, 3] (fun _ i wr => ∃ (k : Nat) (xs : List Value), k ≤ 24 ∧ i = .int .i64 k ∧ xs.take (k * 2) = scells ((nosL 24).take k) ∧ wr.ownsRow w.heap.size 108 2 (.slice (some ⟨w.heap.size + 1, 0, none⟩) 24 24) 24 xs ∧
    wr.ownsRow w.heap.size 108 2 (.slice (some ⟨w.heap.size, 0, none⟩) 24 24) 24 zero48.toList ∧ Below w.heap.size w wr) (fun _ i _ => 24 - (intOf i).toNat)
  case atStart => exact ⟨0, _, Nat.zero_le _, rfl, rfl, H0.out.2.1, H0.out.1, H0.out.2.2⟩
  case round =>
    obtain ⟨k, xs, hk, rfl, hxs, hown, hres, hb⟩ := hrel
    have HX := Lib.hid hxs
    clear hxs
    by_cases hlt : k < 24
    · have hi0 : (0 : Int) ≤ (k : Int) := Int.natCast_nonneg _
      have hi1 : (k : Int) < 24 := by omega
      go_wp2_with (go_at_call 124; refine (impl_no _).mono ?_; rintro e w1 ⟨rfl, hb1⟩; have hown1 := hown.kept (grown_of_below hb1 none) (.inr (by simp [Value.ownBlock])); obtain ⟨⟨u1, e1⟩, ⟨u2, e2⟩, f1, f2⟩ := row_two hown1 hlt)
      have hres1 := hres.kept (grown_of_below hb1 none) (.inr (by simp [Value.ownBlock]))
      have hrow := row_set2 hown1 k (.int .i64 (-1)) (.int .i64 0)
      have hres2 := ((hres1.kept (hown1.stored (k * 2) (.int .i64 (-1))).2 (.inr (by simp [Value.ownBlock]))).kept ((hown1.stored (k * 2) (.int .i64 (-1))).1.stored (k * 2 + 1) (.int .i64 0)).2 (.inr (by simp [Value.ownBlock])))
      have hbw2 : Below w.heap.size w ((w1.setCell ⟨w.heap.size + 1, k * 2, none⟩ (.int .i64 (-1))).setCell ⟨w.heap.size + 1, k * 2 + 1, none⟩ (.int .i64 0)) :=
        ((hb.trans (hb1.mono hb.size)).setCell (p := ⟨w.heap.size + 1, k * 2, none⟩) (Nat.le_succ _) _).setCell (p := ⟨w.heap.size + 1, k * 2 + 1, none⟩) (Nat.le_succ _) _
      have hts := take_set2 (x := -1) (y := 0) HX.out (by have := hown1.1; omega) (nosL_step k hlt)
      go_roundw
      case rel => exact ⟨k + 1, _, by omega, by go_num, hts, hrow, hres2, hbw2⟩
      case measure => simp [intOf]; omega
    · have hkn : k = 24 := by omega
      subst hkn
      have hx : xs = scells (nosL 24) := by
        have h1 := HX.out
        have h2 := hown.1
        rw [List.take_of_length_le (by omega), List.take_of_length_le (by rw [nosL_len]; exact Nat.le_refl _)] at h1
        exact h1
      subst hx
      have hr := range_of_row hown
      have ht : wr.there w.heap.size 0 48 := there_of_row hres
      have ht' : wr.there w.heap.size 0 48 := there_of_row hres
      have hone := all_oneCell_toArray (scells_one (nosL 24))
      have HR := Lib.hid (And.intro hr (And.intro ht (And.intro hone ht')))
      clear hr ht hone ht' hown hres
      go_wp2_with (first
        | (refine wpList_load_mid rfl 108 _ rfl (w.heap.size + 1) 0 rfl (scells (nosL 24)) _ HR.out.1 Try.underlying108 rfl infoArr ?_)
        | (refine wpList_store_mid rfl 108 _ _ rfl w.heap.size 0 (scells (nosL 24)).toArray rfl rfl HR.out.2.1 infoArr HR.out.2.2.1 ?_))
      exact bodyPost_ret (v := .agg (scells (nosL 24)).toArray) (results_cell rfl rfl (run_loadVar_mid _ w.heap.size 0 _ (scells (nosL 24)) _ (World.rangeAt_setCells_same _ _ _ _ HR.out.2.2.2) Try.underlying108 rfl infoArr)) rfl ⟨rfl, bset (Nat.le_refl _) _ _ _ hb⟩

theorem brought24 (n : Int) : ∃ m : Nat, m ≤ 24 ∧ BroughtW.brought n 0 24 = m := by
  unfold BroughtW.brought
  by_cases h : n < 0
  · exact ⟨0, by omega, by rw [if_pos (Or.inr h)]; rfl⟩
  · by_cases h2 : 24 < n
    · exact ⟨24, by omega, by rw [if_neg (by omega), if_pos h2]; rfl⟩
    · exact ⟨n.toNat, by omega, by rw [if_neg (by omega), if_neg h2]; omega⟩
def newN (n : Int) : Nat := (BroughtW.brought n 0 24).toNat
theorem newN_le (n : Int) : newN n ≤ 24 := by
  obtain ⟨m, h1, h2⟩ := brought24 n
  unfold newN
  rw [h2]; omega
theorem newN_eq (n : Int) : BroughtW.brought n 0 24 = (newN n : Int) := by
  obtain ⟨m, h1, h2⟩ := brought24 n
  unfold newN
  rw [h2]; omega

theorem scells_pre {l m : List Sl} {j : Nat} {u : Value} (h : (scells l)[j]? = some u) : (scells (l ++ m))[j]? = some u := by
  rw [scells_append, List.getElem?_append_left (List.getElem?_eq_some_iff.1 h).1]
  exact h
theorem arr_there (w : World) (cs : Array Value) (T : TypeId) (hcs : cs.size = 48) : (w.alloc (.cells cs T)).there w.heap.size 0 48 := fun j hj => by
  refine ⟨?_, by rw [Nat.zero_add]; exact frozen_of_row _ _ _ _ _ (heap_alloc_new w _)⟩
  rw [Nat.zero_add, cell_of_row _ _ j _ _ _ (heap_alloc_new w _), Array.getElem?_eq_getElem (by omega)]; rfl
theorem arr_owned {w : World} {m : Nat} (hm : m ≤ 24) (cs : Array Value) (T : TypeId) (hcs : cs.size = 48) :
    Owned ((w.alloc (.cells cs T)).setCells w.heap.size 0 (scells (nosL 24))) w.heap.size ((w.alloc (.cells cs T)).setCells w.heap.size 0 (scells (nosL 24))).heap.size (some ⟨w.heap.size, 0, none⟩) (scells (nosL m)) := by
  have ht : (w.alloc (.cells cs T)).there w.heap.size 0 (scells (nosL 24)).length := fun j hj => by
    rw [nos48] at hj
    refine ⟨?_, by rw [Nat.zero_add]; exact frozen_of_row _ _ _ _ _ (heap_alloc_new w _)⟩
    rw [Nat.zero_add, cell_of_row _ _ j _ _ _ (heap_alloc_new w _), Array.getElem?_eq_getElem (by omega)]; rfl
  have hr := World.rangeAt_setCells_same _ _ _ _ ht
  have hsz : w.heap.size < ((w.alloc (.cells cs T)).setCells w.heap.size 0 (scells (nosL 24))).heap.size := by
    have h1 := (bset (Nat.zero_le w.heap.size) (scells (nosL 24)) 0 (w.alloc (.cells cs T)) (Below.refl 0 (w.alloc (.cells cs T)))).size
    simp at h1
    omega
  have hpre : nosL 24 = nosL m ++ nosL (24 - m) := by
    unfold nosL
    rw [List.replicate_append_replicate]
    congr 1
    omega
  refine ⟨fun j u hu => ⟨w.heap.size, 0, rfl, Nat.le_refl _, hsz, hr j u (by rw [hpre]; exact scells_pre hu)⟩, fun b off e _ j => ?_⟩
  cases e
  rw [World.frozen?_setCells]
  exact frozen_of_row _ _ _ _ _ (heap_alloc_new w _)

/-- The array of empty slots, stored into a new variable. -/
theorem store_arr {ops : Array Oper} {rest : List Oper} {op : Oper} {a : Act} {w1 : World} {Q : Exit → Act → World → Prop} (hgd : op.guard = none) (x y : Operand) (ho : op.op = .store 108 x y) (cs0 : Array Value) (h0 : cs0.size = 48)
    (cs : List Value) (hcs : cs = scells (nosL 24)) (hx : a.eval x = .pointer (some ⟨w1.heap.size, 0, none⟩)) (hy : a.eval y = .agg cs.toArray)
    (h : ∀ W, (∀ m, m ≤ 24 → Owned W w1.heap.size W.heap.size (some ⟨w1.heap.size, 0, none⟩) (scells (nosL m))) → Below w1.heap.size w1 W → wpList Try.prog ops Q rest (a.put op.dst undef) W) :
    wpList Try.prog ops Q (op :: rest) a (w1.alloc (.cells cs0 108)) := by
  subst hcs
  refine wpList_store_mid hgd _ x y ho w1.heap.size 0 (scells (nosL 24)).toArray hx hy (arr_there _ _ _ h0) infoArr (all_oneCell_toArray (scells_one _)) ?_
  exact h _ (fun m hm => arr_owned hm cs0 _ h0) (bset (Nat.le_refl _) _ _ _ ((Below.refl _ _).alloc (Nat.le_refl _) _))

theorem empty_some (w : World) :
    Calls Try.prog 106 #[] w fun e w' => ∃ cs : List Value, Hid (cs = scells (nosL 24)) ∧ e = .returned (.agg cs.toArray) ∧ Below w.heap.size w w' :=
  (empty_any w).mono fun _ _ ⟨he, hb⟩ => ⟨_, rfl, he, hb⟩

set_option maxRecDepth 100000 in
set_option maxHeartbeats 2000000 in
theorem impl_new (n : Int) (w : World) : Calls Try.prog 63 #[.int .i64 n] w (RowPost w (newN n) (nosL (newN n))) := by
  have hK := fun V : World => BroughtW.impl_any n 0 24 V
  rw [newN_eq n] at hK
  have hm := newN_le n
  generalize newN n = m at hK hm ⊢
  have HK := Lib.hid hK
  clear hK
  go_enter Try.func63, Try.ntmps63
  go_wp2_with fail
  refine (empty_some _).mono ?_
  rintro e w1 ⟨cs, HCS, rfl, hb1⟩
  go_wp2_with ((with_reducible refine store_arr rfl _ _ rfl _ rfl cs HCS.out rfl rfl ?_); intro W hW hbW; have HW := Lib.hid (And.intro hW hbW); clear hW hbW)
  refine (HK.out _).mono ?_
  rintro e w' ⟨rfl, rfl⟩
  have hm0 : (0 : Int) ≤ (m : Int) := Int.natCast_nonneg _
  have hm1 : (m : Int) ≤ 24 := by omega
  go_wp2_with fail
  go_ret
  have ho : Owned W w.heap.size W.heap.size (some ⟨w1.heap.size, 0, none⟩) (scells (nosL m)) := (HW.out.1 m hm).wide hb1.size (Nat.le_refl _)
  exact ⟨⟨w1.heap.size, 0, none⟩, m, by simp, Nat.le_refl _, ho, btr hb1 HW.out.2⟩

theorem Try.infoSlot2 : (Try.prog.info? 73).map (fun i => (i.zero, i.size, i.bytes)) = some (some (.agg #[.int .i64 0, .int .i64 0]), 2, 16) := by kernel_rfl
theorem nosL_snoc (k : Nat) : nosL (k + 1) = nosL k ++ [(-1, 0)] := List.replicate_succ'

set_option maxHeartbeats 2000000 in
theorem spec_brought (n : Int) (w : World) :
    Calls Try.prog 104 #[.int .i64 n, .int .i64 0, .int .i64 24] w fun e w' => e = .returned (.int .i64 (BroughtW.brought n 0 24)) ∧ w = w' := by
  by_cases h2 : n < 0
  · have hb : BroughtW.brought n 0 24 = 0 := by unfold BroughtW.brought; rw [if_pos (Or.inr h2)]
    rw [hb]; clear hb
    go_enter Try.func104, Try.ntmps104
    go_wp2
    go_ret
    exact ⟨rfl, rfl⟩
  · by_cases h3 : 24 < n
    · have hb : BroughtW.brought n 0 24 = 24 := by unfold BroughtW.brought; rw [if_neg (by omega), if_pos h3]
      rw [hb]; clear hb
      go_enter Try.func104, Try.ntmps104
      go_wp2
      go_ret
      exact ⟨rfl, rfl⟩
    · have hb : BroughtW.brought n 0 24 = n := by unfold BroughtW.brought; rw [if_neg (by omega), if_neg h3]
      rw [hb]; clear hb
      go_enter Try.func104, Try.ntmps104
      go_wp2
      go_ret
      exact ⟨rfl, rfl⟩

set_option maxHeartbeats 2000000 in
theorem spec_new (n : Int) (w : World) : Calls Try.prog 61 #[.int .i64 n] w (RowPost w (newN n) (nosL (newN n))) := by
  obtain ⟨i0, hi0, hz0, hz1, hz2⟩ := info_parts Try.infoSlot2
  have hK := fun V : World => spec_brought n V
  rw [newN_eq n] at hK
  have hm := newN_le n
  generalize newN n = m at hK hm ⊢
  have HK := Lib.hid hK
  clear hK
  go_enter Try.func61, Try.ntmps61
  go_wp2_with fail
  refine (HK.out _).mono ?_
  rintro e w' ⟨rfl, rfl⟩
  go_wp2_with fail
  go_loopw [3, 4] (fun v i wr => ∃ (k g cap q : Nat), k + q = m ∧ i = .int .i64 q ∧ v = .slice (some ⟨g, 0, none⟩) k cap ∧ wr.ownsRow w.heap.size 73 2 (.slice (some ⟨g, 0, none⟩) k cap) k (scells (nosL k)) ∧ Below w.heap.size w wr) (fun _ i _ => (intOf i).toNat)
  case atStart => exact ⟨0, w.heap.size, 0, m, by omega, rfl, rfl, World.ownsRow_made w #[] 0 (Nat.le_refl _) (Nat.zero_le _) rfl, (Below.refl _ _).alloc (Nat.le_refl _) _⟩
  case round =>
    obtain ⟨k, g, cap, q, hkq, rfl, rfl, hown, hb⟩ := hrel
    have hk24 : k ≤ 24 := by omega
    have HQ := Lib.hid hkq
    clear hkq
    have hbs := hb.size
    by_cases h0 : 0 < q
    · have hq1 : (0 : Int) < (q : Int) := by omega
      have hq2 : q ≤ 24 := by have := HQ.out; omega
      go_wp2_with fail
      refine (spec_no _).mono ?_
      rintro e w1 ⟨rfl, hb1⟩
      have hown1 := hown.kept (grown_of_below hb1 none) (.inr (by simp [Value.ownBlock]))
      have hbw1 : Below w.heap.size w w1 := hb.trans (hb1.mono hb.size)
      have hbs1 := hbw1.size
      clear hb1
      go_wp2_with (at_builtin; refine wpList_append_lies _ rfl _ _ 25 rfl w.heap.size 73 i0 _ 2 16 Try.underlying25 hi0 hz0 hz1 hz2 rfl (by omega) (.slice (some ⟨g, 0, none⟩) k cap) k _ rfl (hown1.alloc _) ⟨w1.heap.size, 0, none⟩ 1 1 [.int .i64 (-1), .int .i64 0] rfl rfl (World.news_of_block (heap_alloc_new w1 _)) (by simp [Value.oneCell']) (by omega) (by simp only [maxLen]; omega) (by omega) (by simp; omega) (w1.heap.size + 1) (by simp) ?_; intro g' cap' w2 hown2 hgrow hat hg2)
      have hown3 : w2.ownsRow w.heap.size 73 2 (.slice (some ⟨g', 0, none⟩) (k + 1) cap') (k + 1) (scells (nosL (k + 1))) := by rw [nosL_snoc, scells_append]; exact hown2
      have hbw2 : Below w.heap.size w w2 := (hbw1.alloc (by first | omega | (simp; omega)) _).grown hgrow (by first | omega | (simp; omega)) (fun j hj => (hown1.lt j hj).1)
      have HF := Lib.hid (And.intro hown3 hbw2)
      clear hown2 hgrow hat hg2 hown3 hbw2
      go_roundw
      case rel => exact ⟨k + 1, g', cap', q - 1, by have := HQ.out; omega, by go_num, rfl, HF.out.1, HF.out.2⟩
      case measure => simp [intOf]; omega
    · have hq : q = 0 := by omega
      subst hq
      have hkm : k = m := HQ.out
      subst hkm
      go_wp2_with fail
      go_ret
      rcases hown.2 with ⟨h', _⟩ | ⟨g1, cap1, cur, h', _, _, hnc, _⟩
      · simp at h'
      · injection h' with h1 h2 h3
        subst h3
        exact ⟨_, _, rfl, hnc, Owned.of_row hown, hb⟩
end Go.Proofs.Ytdbhfadiinmgiaa.Slots
