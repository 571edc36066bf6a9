/-
  Draws of chapter 8: an entry, a buffer, and the draws of its functions' arguments. No condition.
-/
import Derived.Test.YteoddppeajlekaaEntPut
import Derived.Test.YteoddppeajlekaaSlotDraws
namespace Go.Proofs.Yteoddppeajlekaa.Ents
set_option maxRecDepth 100000
open Go.ChangeShapes Go.WideShapes Go.ChangeAt Go.RowKit
open Go.Proofs.Yteoddppeajlekaa.Base Go.Proofs.Yteoddppeajlekaa.Mem Go.Proofs.Yteoddppeajlekaa.Data Go.Proofs.Yteoddppeajlekaa.Draw Go.Proofs.Yteoddppeajlekaa.SDraw
set_option linter.unusedVariables false
set_option linter.unusedSimpArgs false

def EPost (w0 : World) (A : Option Addr) (n c : Nat) (w : World) (g : Nat) (e : Ending) (w' : World) : Prop :=
  ∃ x0 x1 x2 x3, e = .returned (.agg #[.int .i64 x0, .int .i64 x1, .int .i64 x2, .int .i64 x3]) ∧ wfE (x0, x1, x2, x3) ∧ Cur w0 A n c w' g ∧ w.grownBy w' (some g)
theorem Four.grown {w w' : World} {b g : Nat} {s : ET} (h : Four w b s) (hG : w.grownBy w' (some g)) (hne : b ≠ g) : Four w' b s :=
  h.turned (lo := g) (hi := g + 1) (fun k hk hd => hG.block k hk (by simp; omega)) hG.size (by omega)
theorem cur4 {w0 w1 : World} {A : Option Addr} {n c g b : Nat} (h : Cur w0 A n c w1 g) (hg : g < b) (h0 : w0.heap.size ≤ b) (u v x y : Value) : Cur w0 A n c ((((w1.setCell ⟨b, 0, none⟩ u).setCell ⟨b, 1, none⟩ v).setCell ⟨b, 2, none⟩ x).setCell ⟨b, 3, none⟩ y) g :=
  var_cur (var_cur (var_cur (var_cur h hg h0 _ _) hg h0 _ _) hg h0 _ _) hg h0 _ _
theorem far4 {w W : World} {g b : Nat} (hG : w.grownBy W (some g)) (hb : w.heap.size ≤ b) (u v x y : Value) : w.grownBy ((((W.setCell ⟨b, 0, none⟩ u).setCell ⟨b, 1, none⟩ v).setCell ⟨b, 2, none⟩ x).setCell ⟨b, 3, none⟩ y) (some g) :=
  grown_far (grown_far (grown_far (grown_far hG hb _ _) hb _ _) hb _ _) hb _ _
theorem wf_succ {x : Int} (h0 : 0 ≤ x) (h1 : x < 256) : (Lit.int .i64 (1 + x)).wf = true := wf_small (m := 257) (by omega) (by omega) (by omega)

set_option maxRecDepth 100000 in
set_option maxHeartbeats 4000000 in
theorem entry_any (w0 : World) (A : Option Addr) (n c g : Nat) (w : World) (hn : n ≤ 1048576) (hcode : CodeAt w0 A n) (hcur : Cur w0 A n c w g) :
    Calls Try.prog 51 #[.pointer (some ⟨g, 0, none⟩)] w (EPost w0 A n c w g) := by
  have HC := Lib.hid hcode
  have hlt := hcur.lt
  have hs0 := hcur.1.size
  have t0 := Four.new w noE 37
  change Four (w.alloc (.cells #[.int .i64 0, .int .i64 0, .int .i64 0, .int .i64 0] 37)) w.heap.size noE at t0
  have HU := Lib.hid (hcur.alloc (.cells #[.int .i64 0, .int .i64 0, .int .i64 0, .int .i64 0] 37))
  have hG0 := grown_new w (.cells #[.int .i64 0, .int .i64 0, .int .i64 0, .int .i64 0] 37) (some g)
  clear hcode hcur
  go_enter Try.func51, Try.ntmps51
  go_wp2_with fail
  generalize w.alloc (.cells #[.int .i64 0, .int .i64 0, .int .i64 0, .int .i64 0] 37) = W0 at t0 HU hG0 ⊢
  refine (below_any w0 A n c g _ 3 (by omega) (by omega) hn HC.out HU.out).mono ?_
  rintro e W1 ⟨x0, rfl, hx0, hy0, hc1, hg1⟩
  have HU1 := Lib.hid hc1
  have hG1 := gtr hG0 hg1
  have t1 := t0.grown hg1 (by omega)
  have HX0 := Lib.hid (wf_succ hx0 (by omega))
  clear hc1 hg1 t0 hG0 HU
  
  
  go_wp2_with fail
  refine (below_any w0 A n c g _ 4 (by omega) (by omega) hn HC.out HU1.out).mono ?_
  rintro e W2 ⟨x1, rfl, hx1, hy1, hc2, hg2⟩
  have HU2 := Lib.hid hc2
  have hG2 := gtr hG1 hg2
  have t2 := t1.grown hg2 (by omega)
  have HX1 := Lib.hid (wf_small hx1 hy1 (by omega))
  clear hc2 hg2 t1 hG1 HU1
  
  
  go_wp2_with fail
  refine (below_any w0 A n c g _ 6 (by omega) (by omega) hn HC.out HU2.out).mono ?_
  rintro e W3 ⟨x2, rfl, hx2, hy2, hc3, hg3⟩
  have HU3 := Lib.hid hc3
  have hG3 := gtr hG2 hg3
  have t3 := t2.grown hg3 (by omega)
  have HX2 := Lib.hid (wf_small hx2 hy2 (by omega))
  clear hc3 hg3 t2 hG2 HU2
  
  
  go_wp2_with fail
  refine (below_any w0 A n c g _ 3 (by omega) (by omega) hn HC.out HU3.out).mono ?_
  rintro e W4 ⟨x3, rfl, hx3, hy3, hc4, hg4⟩
  have HU4 := Lib.hid hc4
  have hG4 := gtr hG3 hg4
  have t4 := t3.grown hg4 (by omega)
  have HX3 := Lib.hid (wf_succ hx3 (by omega))
  clear hc4 hg4 t3 hG3 HU3
  obtain ⟨q0, q1, q2, q3, g0, g1, g2, g3, _⟩ := t4
  dsimp only [noE] at q0 q1 q2 q3
  go_wp2_with fail
  exact bodyPost_ret (v := .agg #[.int .i64 (1 + x0), .int .i64 x1, .int .i64 x2, .int .i64 (1 + x3)]) (by simp [results, Try.results51, go_sem, q0, q1, q2, q3]) rfl
    ⟨1 + x0, x1, x2, 1 + x3, rfl, ⟨HX0.out, HX1.out, HX2.out, HX3.out⟩, cur4 HU4.out hlt hs0 _ _ _ _, far4 hG4 (Nat.le_refl _) _ _ _ _⟩

def BufOwn (w0 : World) (A : Option Addr) (n c : Nat) (w : World) (g : Nat) (e : Ending) (w' : World) : Prop :=
  ∃ b m cap l, e = .returned (.slice (some ⟨b, 0, none⟩) m cap) ∧ l.length = m ∧ m ≤ 8 ∧ wfEL l ∧ w'.ownsRow w.heap.size 37 4 (.slice (some ⟨b, 0, none⟩) m cap) m (ecells l) ∧ Cur w0 A n c w' g ∧ w.grownBy w' (some g)
theorem wfEL_nil : wfEL [] := fun _ h => by cases h
theorem wfEL_append {l m : List ET} (h : wfEL l) (k : wfEL m) : wfEL (l ++ m) := fun s hs => (List.mem_append.1 hs).elim (h s) (k s)
theorem row_lies {w : World} {base n : Nat} {e : TypeId} {A : Option Addr} {cap : Nat} {cs : List Value} {s : Nat} (h : w.ownsRow base e s (.slice A n cap) n cs) : Lies w 0 w.heap.size A cs := (Owned.of_row h).1.wide (Nat.zero_le _) (Nat.le_refl _)

set_option maxRecDepth 100000 in
set_option maxHeartbeats 8000000 in
theorem buffer_any (w0 : World) (A : Option Addr) (n c g : Nat) (w : World) (hn : n ≤ 1048576) (hcode : CodeAt w0 A n) (hcur : Cur w0 A n c w g) :
    Calls Try.prog 39 #[.pointer (some ⟨g, 0, none⟩)] w (BufOwn w0 A n c w g) := by
  obtain ⟨i0, hi0, hz0, hz1, hz2⟩ := info_parts Try.infoEntry
  have HC := Lib.hid hcode
  have hlt := hcur.lt
  have hs0 := hcur.1.size
  have HU := Lib.hid hcur
  clear hcode hcur
  go_enter Try.func39, Try.ntmps39
  go_wp2_with fail
  go_loopw [3, 4] (fun v i wr => ∃ (k b m cap : Nat) (l : List ET), k ≤ 9 ∧ i = .int .i64 k ∧ v = .slice (some ⟨b, 0, none⟩) m cap ∧ l.length = m ∧ m ≤ 6 ∧ wfEL l ∧ wr.ownsRow w.heap.size 37 4 (.slice (some ⟨b, 0, none⟩) m cap) m (ecells l) ∧ Cur w0 A n c wr g ∧ w.grownBy wr (some g)) (fun _ i _ => 10 - (intOf i).toNat)
  case atStart =>
    exact ⟨0, w.heap.size, 0, 0, [], Nat.zero_le _, rfl, rfl, rfl, Nat.zero_le _, wfEL_nil, World.ownsRow_made w #[] 0 (Nat.le_refl _) (Nat.zero_le _) rfl, HU.out.alloc _, grown_new w _ _⟩
  case round =>
    obtain ⟨k, b, m, cap, l, hk, rfl, rfl, hl, hm, hwf, hown, hcur, hgr⟩ := hrel
    have HL := Lib.hid hl
    have HA := Lib.hid hwf
    have HU := Lib.hid hcur
    have HG := Lib.hid hgr
    have hbg : b ≠ g := by have := (hown.lt b rfl).1; omega
    clear hl hwf hcur hgr
    go_wp2_with fail
    refine (below_any w0 A n c g _ 9 (by omega) (by omega) hn HC.out HU.out).mono ?_
    rintro e w1 ⟨x, rfl, hx0, hx1, hc1, hg1⟩
    have hown1 := hown.kept hg1 (.inr (by simp [Value.ownBlock]; exact hbg))
    have HU1 := Lib.hid hc1
    have HG1 := Lib.hid (gtr HG.out hg1)
    clear hc1 hg1 HU HG hown
    by_cases hk2 : (k : Int) < x
    · go_wp2_with fail
      refine (entry_any w0 A n c g _ hn HC.out HU1.out).mono ?_
      rintro e w2 ⟨x0, x1, x2, x3, rfl, hwx, hc2, hg2⟩
      have hown2 := hown1.kept hg2 (.inr (by simp [Value.ownBlock]; exact hbg))
      have HX := Lib.hid hwx
      have HU2 := Lib.hid hc2
      have HG2 := Lib.hid (gtr HG1.out hg2)
      have HLI := Lib.hid (row_lies hown2)
      clear hwx hc2 hg2 HU1 HG1 hown1 hown2
      go_wp2_with fail
      refine (spec_putr _ m cap 0 x0 x1 x2 x3 l _ (by omega) HL.out HLI.out).mono ?_
      rintro e w3 ⟨b', m', cap', rfl, hl3, hown3, hb3⟩
      have hF := (And.intro (HU2.out.grown (of_below hb3 none) (by simp) (fun k hk => by cases hk)) (And.intro (gtr HG2.out (of_below hb3 (some g))) (row_mono hown3 HG2.out.size)))
      have HF := Lib.hid hF
      have HP := Lib.hid (And.intro hl3 (And.intro (show m' ≤ 6 by rw [← hl3]; exact putE_len _ _) (wf_putE HA.out HX.out)))
      clear hF hl3 hown3 hb3
      go_wp2_with fail
      go_roundw
      case rel => exact ⟨k + 1, b', m', cap', putE l (x0, x1, x2, x3), by omega, by go_num, rfl, HP.out.1, HP.out.2.1, HP.out.2.2, HF.out.2.2, HF.out.1, HF.out.2.1⟩
      case measure => simp [intOf]; omega
    · go_wp2_with fail
      refine (once_any w0 A n c g _ 8 (by omega) (by omega) hn HC.out HU1.out).mono ?_
      rintro e w2 ⟨o, rfl, hc2, hg2⟩
      have hown2 := hown1.kept hg2 (.inr (by simp [Value.ownBlock]; exact hbg))
      have HU2 := Lib.hid hc2
      have HG2 := Lib.hid (gtr HG1.out hg2)
      clear hc2 hg2 HU1 HG1 hown1
      cases o
      · go_wp2_with fail
        go_ret
        exact ⟨b, m, cap, l, rfl, HL.out, by omega, HA.out, hown2, HU2.out, HG2.out⟩
      · go_wp2_with fail
        refine (entry_any w0 A n c g _ hn HC.out HU2.out).mono ?_
        rintro e w3 ⟨x0, x1, x2, x3, rfl, hwx, hc3, hg3⟩
        have hown3 := hown2.kept hg3 (.inr (by simp [Value.ownBlock]; exact hbg))
        have HX := Lib.hid hwx
        have HU3 := Lib.hid hc3
        have HG3 := Lib.hid (gtr HG2.out hg3)
        clear hwx hc3 hg3 HU2 HG2 hown2
        go_wp2_with fail
        refine (entry_any w0 A n c g _ hn HC.out HU3.out).mono ?_
        rintro e w4 ⟨y0, y1, y2, y3, rfl, hwy, hc4, hg4⟩
        have hown4 := hown3.kept hg4 (.inr (by simp [Value.ownBlock]; exact hbg))
        have HY := Lib.hid hwy
        have HU4 := Lib.hid hc4
        have HG4 := Lib.hid (gtr HG3.out hg4)
        have hbs4 := HG4.out.size
        clear hwy hc4 hg4 HU3 HG3 hown3
        go_wp2_with (at_builtin; refine wpList_append_lies _ rfl _ _ 28 rfl w.heap.size 37 i0 _ 4 32 Try.underlying28 hi0 hz0 hz1 hz2 rfl (by omega) (.slice (some ⟨b, 0, none⟩) m cap) m _ rfl (hown4.alloc _) ⟨w4.heap.size, 0, none⟩ 2 2 [.int .i64 x0, .int .i64 x1, .int .i64 x2, .int .i64 x3, .int .i64 y0, .int .i64 y1, .int .i64 y2, .int .i64 y3] rfl rfl (World.news_of_block (heap_alloc_new w4 _)) (by simp [Value.oneCell']) (by omega) (by simp only [maxLen]; omega) (by omega) (by simp; omega) (w4.heap.size + 1) (by simp) ?_; intro g' cap' w5 hown5 hgrow hat hg5)
        have hF := (And.intro ((HU4.out.alloc (.cells #[.int .i64 x0, .int .i64 x1, .int .i64 x2, .int .i64 x3, .int .i64 y0, .int .i64 y1, .int .i64 y2, .int .i64 y3] 37)).grown hgrow (by simp [Value.ownBlock]; exact hbg) (fun j hj => by have := (hown4.lt j hj).1; omega))
          (And.intro (grown_own (gtr HG4.out (grown_new w4 (.cells #[.int .i64 x0, .int .i64 x1, .int .i64 x2, .int .i64 x3, .int .i64 y0, .int .i64 y1, .int .i64 y2, .int .i64 y3] 37) _)) hgrow (fun j hj => (hown4.lt j hj).1))
            (show w5.ownsRow w.heap.size 37 4 (.slice (some ⟨g', 0, none⟩) (m + 2) cap') (m + 2) (ecells (l ++ [(x0, x1, x2, x3), (y0, y1, y2, y3)])) by rw [ecells_append]; exact hown5)))
        have HF := Lib.hid hF
        clear hF hown4 hown5 hgrow hat hg5
        go_wp2_with fail
        go_ret
        exact ⟨g', m + 2, cap', l ++ [(x0, x1, x2, x3), (y0, y1, y2, y3)], rfl, by simp [HL.out], by omega, wfEL_append HA.out (fun s hs => by
          rcases List.mem_cons.1 hs with rfl | hs
          · exact HX.out
          · rw [List.mem_singleton.1 hs]; exact HY.out), HF.out.2.2, HF.out.1, HF.out.2.1⟩

/-- A drawn buffer. -/
def EB (w' : World) (lo : Nat) (ad : Addr) (m : Nat) (l : List ET) : Prop := m ≤ 8 ∧ l.length = m ∧ wfEL l ∧ Lies w' lo w'.heap.size (some ad) (ecells l)
theorem EB.grown {w w' : World} {lo g m : Nat} {ad : Addr} {l : List ET} (h : EB w lo ad m l) (hg : w.grownBy w' (some g)) (hlo : g < lo) : EB w' lo ad m l :=
  ⟨h.1, h.2.1, h.2.2.1, (h.2.2.2.kept fun k h1 h2 => hg.block k h2 (by simp; omega)).wide (Nat.le_refl _) hg.size⟩
theorem EB.low {w : World} {lo lo' m : Nat} {ad : Addr} {l : List ET} (h : EB w lo ad m l) (h1 : lo' ≤ lo) : EB w lo' ad m l := ⟨h.1, h.2.1, h.2.2.1, h.2.2.2.wide h1 (Nat.le_refl _)⟩
def BufInts (w : World) (e : Ending) (w' : World) : Prop :=
  ∃ ad m cap l x y, e = .returned (.tuple #[.slice (some ad) m cap, .int .i64 x, .int .i64 y]) ∧ (Lit.int .i64 x).wf = true ∧ (Lit.int .i64 y).wf = true ∧ EB w' w.heap.size ad m l ∧ Below w.heap.size w w'
def BufInt (w : World) (e : Ending) (w' : World) : Prop :=
  ∃ ad m cap l x, e = .returned (.tuple #[.slice (some ad) m cap, .int .i64 x]) ∧ (Lit.int .i64 x).wf = true ∧ EB w' w.heap.size ad m l ∧ Below w.heap.size w w'
def BufEnt (w : World) (e : Ending) (w' : World) : Prop :=
  ∃ ad m cap l x0 x1 x2 x3, e = .returned (.tuple #[.slice (some ad) m cap, .agg #[.int .i64 x0, .int .i64 x1, .int .i64 x2, .int .i64 x3]]) ∧ (wfE (x0, x1, x2, x3) ∧ m ≤ cap) ∧ EB w' w.heap.size ad m l ∧ Below w.heap.size w w'
theorem wf_less {x : Int} (h0 : 0 ≤ x) (h1 : x < 6) : (Lit.int .i64 (x - 1)).wf = true := by
  simp [Lit.wf]
  have e1 : IntKind.i64.min = -9223372036854775808 := by decide
  have e2 : IntKind.i64.max = 9223372036854775807 := by decide
  omega

end Go.Proofs.Yteoddppeajlekaa.Ents
