/-
  Guests: the given model's copy of a guest. No condition beyond the lengths of its slices.
-/
import Derived.Test.YtmiokacihcpepaaGuestH
namespace Go.Proofs.Ytmiokacihcpepaa.Guests
set_option maxRecDepth 100000
open Go.ChangeShapes Go.WideShapes Go.ChangeAt Go.RowKit
open Go.Proofs.Ytmiokacihcpepaa.Base Go.Proofs.Ytmiokacihcpepaa.Mem Go.Proofs.Ytmiokacihcpepaa.Slots Go.Proofs.Ytmiokacihcpepaa.Data Go.Proofs.Ytmiokacihcpepaa.Ints Go.Proofs.Ytmiokacihcpepaa.Inss Go.Proofs.Ytmiokacihcpepaa.Ctls Go.Proofs.Ytmiokacihcpepaa.Exits Go.Proofs.Ytmiokacihcpepaa.Part Go.Proofs.Ytmiokacihcpepaa.Guests
set_option linter.unusedVariables false
set_option linter.unusedSimpArgs false
theorem Try.infoInsG : (Try.prog.info? 89).map (fun i => (i.zero, i.size, i.bytes)) = some (some (.agg #[.int .i64 0, .int .i64 0]), 2, 16) := by kernel_rfl
theorem Try.infoSlotG : (Try.prog.info? 91).map (fun i => (i.zero, i.size, i.bytes)) = some (some (.agg #[.int .i64 0, .int .i64 0]), 2, 16) := by kernel_rfl
theorem Try.infoIntG : (Try.prog.info? 3).map (fun i => (i.zero, i.size, i.bytes)) = some (some (.int .i64 0), 1, 8) := by kernel_rfl
/-- A guest of its own is handed back; its values that were seen lie in a row. -/
def gPs (w : World) (g : gT) (e : Ending) (w' : World) : Prop :=
  ∃ P0 P1 P2 gb cap, e = .returned (.agg #[P0, .int .i64 g.a, .int .i64 g.pc, P1, P2, .int .i64 g.t.1, .int .i64 g.t.2.1, .bool g.t.2.2, .int .i64 g.pd, .int .i64 g.x.1, .int .i64 g.x.2.1, .bool g.x.2.2.1, .int .i64 g.x.2.2.2, .bool g.hl, .slice (some ⟨gb, 0, none⟩) g.seen.length cap]) ∧ gO w' w.heap.size w'.heap.size g P0 P1 P2 (.slice (some ⟨gb, 0, none⟩) g.seen.length cap) ∧
    w'.ownsRow w.heap.size 3 1 (.slice (some ⟨gb, 0, none⟩) g.seen.length cap) g.seen.length (ncells g.seen) ∧ (∀ k, k ∈ bl P0 ∨ k ∈ bl P1 ∨ k ∈ bl P2 → k < gb) ∧ Below w.heap.size w w'
theorem gPs.gp {w : World} {g : gT} (e : Ending) (w' : World) (h : gPs w g e w') : gP w g e w' := by
  obtain ⟨P0, P1, P2, gb, cap, h1, h2, _, _, h3⟩ := h
  exact ⟨P0, P1, P2, _, h1, h2, h3⟩
theorem row_base {w : World} {base size m g cap : Nat} {e : TypeId} {xs : List Value} (h : w.ownsRow base e size (.slice (some ⟨g, 0, none⟩) m cap) m xs) : base ≤ g ∧ m ≤ cap := by
  rcases h.2 with ⟨h', _⟩ | ⟨g1, cap1, cur, h', h3, _, h4, _⟩
  · cases h'
  · injection h' with h1 h2 h5
    injection h1 with h1
    injection h1 with h1
    omega
theorem row_far {w : World} {base base' size m g cap : Nat} {e : TypeId} {xs : List Value} (h : w.ownsRow base e size (.slice (some ⟨g, 0, none⟩) m cap) m xs) (hb : base' ≤ base) {z : Nat} (hz : z < base) (i : Nat) (u : Value) : (w.setCell ⟨z, i, none⟩ u).ownsRow base' e size (.slice (some ⟨g, 0, none⟩) m cap) m xs := by
  have h' := ownsRow_setCell_below h (a := ⟨z, i, none⟩) hz u
  obtain ⟨h1, h2⟩ := h'
  refine ⟨h1, ?_⟩
  rcases h2 with h2 | ⟨g', cap', cur, h3, h4, h5⟩
  · exact .inl h2
  · exact .inr ⟨g', cap', cur, h3, Nat.le_trans hb h4, h5⟩

set_option maxRecDepth 100000 in
set_option maxHeartbeats 8000000 in
theorem spec_copy (lo : Nat) (g : gT) (P0 P1 P2 P3 : Value) (w : World) (hc : gcap g) (h : gR w lo w.heap.size g P0 P1 P2 P3) :
    Calls Try.prog 42 #[.agg #[P0, .int .i64 g.a, .int .i64 g.pc, P1, P2, .int .i64 g.t.1, .int .i64 g.t.2.1, .bool g.t.2.2, .int .i64 g.pd, .int .i64 g.x.1, .int .i64 g.x.2.1, .bool g.x.2.2.1, .int .i64 g.x.2.2.2, .bool g.hl, P3]] w (gPs w g) := by
  obtain ⟨i0, hi0, hz0, hz1, hz2⟩ := info_parts Try.infoInsG
  obtain ⟨i1, hi1, hy0, hy1, hy2⟩ := info_parts Try.infoSlotG
  obtain ⟨i2, hi2, hx0, hx1, hx2⟩ := info_parts Try.infoIntG
  obtain ⟨hn0, hn1, hn2, hn3⟩ := hc
  obtain ⟨r0, r1, r2, r3⟩ := h
  obtain ⟨A0, c0, rfl, l0⟩ := r0
  obtain ⟨A1, c1, rfl, l1⟩ := r1
  obtain ⟨A2, c2, rfl, l2⟩ := r2
  obtain ⟨A3, c3, rfl, l3⟩ := r3
  have b0 : Var ((w.alloc (.cells #[.slice A0 g.prog.length c0, .int .i64 g.a, .int .i64 g.pc, .slice A1 g.wr.length c1, .slice A2 g.lv.length c2, .int .i64 g.t.1, .int .i64 g.t.2.1, .bool g.t.2.2, .int .i64 g.pd, .int .i64 g.x.1, .int .i64 g.x.2.1, .bool g.x.2.2.1, .int .i64 g.x.2.2.2, .bool g.hl, .slice A3 g.seen.length c3] 52)).alloc (.cells #[.slice none 0 0, .int .i64 0, .int .i64 0, .slice none 0 0, .slice none 0 0, .int .i64 0, .int .i64 0, .bool false, .int .i64 0, .int .i64 0, .int .i64 0, .bool false, .int .i64 0, .bool false, .slice none 0 0] 52)) w.heap.size [.slice A0 g.prog.length c0, .int .i64 g.a, .int .i64 g.pc, .slice A1 g.wr.length c1, .slice A2 g.lv.length c2, .int .i64 g.t.1, .int .i64 g.t.2.1, .bool g.t.2.2, .int .i64 g.pd, .int .i64 g.x.1, .int .i64 g.x.2.1, .bool g.x.2.2.1, .int .i64 g.x.2.2.2, .bool g.hl, .slice A3 g.seen.length c3] := (Var.new w _ _).below ((Below.refl _ _).alloc (Nat.le_refl _) _) (by simp)
  have r0 : Var ((w.alloc (.cells #[.slice A0 g.prog.length c0, .int .i64 g.a, .int .i64 g.pc, .slice A1 g.wr.length c1, .slice A2 g.lv.length c2, .int .i64 g.t.1, .int .i64 g.t.2.1, .bool g.t.2.2, .int .i64 g.pd, .int .i64 g.x.1, .int .i64 g.x.2.1, .bool g.x.2.2.1, .int .i64 g.x.2.2.2, .bool g.hl, .slice A3 g.seen.length c3] 52)).alloc (.cells #[.slice none 0 0, .int .i64 0, .int .i64 0, .slice none 0 0, .slice none 0 0, .int .i64 0, .int .i64 0, .bool false, .int .i64 0, .int .i64 0, .int .i64 0, .bool false, .int .i64 0, .bool false, .slice none 0 0] 52)) (w.heap.size + 1) [.slice none 0 0, .int .i64 0, .int .i64 0, .slice none 0 0, .slice none 0 0, .int .i64 0, .int .i64 0, .bool false, .int .i64 0, .int .i64 0, .int .i64 0, .bool false, .int .i64 0, .bool false, .slice none 0 0] := by
    have h := Var.new (w.alloc (.cells #[.slice A0 g.prog.length c0, .int .i64 g.a, .int .i64 g.pc, .slice A1 g.wr.length c1, .slice A2 g.lv.length c2, .int .i64 g.t.1, .int .i64 g.t.2.1, .bool g.t.2.2, .int .i64 g.pd, .int .i64 g.x.1, .int .i64 g.x.2.1, .bool g.x.2.2.1, .int .i64 g.x.2.2.2, .bool g.hl, .slice A3 g.seen.length c3] 52)) [.slice none 0 0, .int .i64 0, .int .i64 0, .slice none 0 0, .slice none 0 0, .int .i64 0, .int .i64 0, .bool false, .int .i64 0, .int .i64 0, .int .i64 0, .bool false, .int .i64 0, .bool false, .slice none 0 0] 52
    rwa [show (w.alloc (.cells #[.slice A0 g.prog.length c0, .int .i64 g.a, .int .i64 g.pc, .slice A1 g.wr.length c1, .slice A2 g.lv.length c2, .int .i64 g.t.1, .int .i64 g.t.2.1, .bool g.t.2.2, .int .i64 g.pd, .int .i64 g.x.1, .int .i64 g.x.2.1, .bool g.x.2.2.1, .int .i64 g.x.2.2.2, .bool g.hl, .slice A3 g.seen.length c3] 52)).heap.size = w.heap.size + 1 by simp] at h
  have hb0 : Below w.heap.size w ((w.alloc (.cells #[.slice A0 g.prog.length c0, .int .i64 g.a, .int .i64 g.pc, .slice A1 g.wr.length c1, .slice A2 g.lv.length c2, .int .i64 g.t.1, .int .i64 g.t.2.1, .bool g.t.2.2, .int .i64 g.pd, .int .i64 g.x.1, .int .i64 g.x.2.1, .bool g.x.2.2.1, .int .i64 g.x.2.2.2, .bool g.hl, .slice A3 g.seen.length c3] 52)).alloc (.cells #[.slice none 0 0, .int .i64 0, .int .i64 0, .slice none 0 0, .slice none 0 0, .int .i64 0, .int .i64 0, .bool false, .int .i64 0, .int .i64 0, .int .i64 0, .bool false, .int .i64 0, .bool false, .slice none 0 0] 52)) := ((Below.refl _ _).alloc (Nat.le_refl _) _).alloc (by simp) _
  have hz_0 : ((w.alloc (.cells #[.slice A0 g.prog.length c0, .int .i64 g.a, .int .i64 g.pc, .slice A1 g.wr.length c1, .slice A2 g.lv.length c2, .int .i64 g.t.1, .int .i64 g.t.2.1, .bool g.t.2.2, .int .i64 g.pd, .int .i64 g.x.1, .int .i64 g.x.2.1, .bool g.x.2.2.1, .int .i64 g.x.2.2.2, .bool g.hl, .slice A3 g.seen.length c3] 52)).alloc (.cells #[.slice none 0 0, .int .i64 0, .int .i64 0, .slice none 0 0, .slice none 0 0, .int .i64 0, .int .i64 0, .bool false, .int .i64 0, .int .i64 0, .int .i64 0, .bool false, .int .i64 0, .bool false, .slice none 0 0] 52)).heap.size = w.heap.size + 1 + 1 := by simp
  have HL0 := Lib.hid l0
  clear l0
  have HL1 := Lib.hid l1
  clear l1
  have HL2 := Lib.hid l2
  clear l2
  have HL3 := Lib.hid l3
  clear l3
  go_enter Try.func42, Try.ntmps42
  go_wp2_with (first
  | (at_builtin
     generalize ((w.alloc (.cells #[.slice A0 g.prog.length c0, .int .i64 g.a, .int .i64 g.pc, .slice A1 g.wr.length c1, .slice A2 g.lv.length c2, .int .i64 g.t.1, .int .i64 g.t.2.1, .bool g.t.2.2, .int .i64 g.pd, .int .i64 g.x.1, .int .i64 g.x.2.1, .bool g.x.2.2.1, .int .i64 g.x.2.2.2, .bool g.hl, .slice A3 g.seen.length c3] 52)).alloc (.cells #[.slice none 0 0, .int .i64 0, .int .i64 0, .slice none 0 0, .slice none 0 0, .int .i64 0, .int .i64 0, .bool false, .int .i64 0, .int .i64 0, .int .i64 0, .bool false, .int .i64 0, .bool false, .slice none 0 0] 52)) = W0 at b0 r0 hb0 hz_0 ⊢
     rw [← hz_0]
     have hn_0 : w.heap.size + 1 + 1 ≤ W0.heap.size := by omega
     have HM := Lib.hid (World.ownsRow_made (e := 89) (size := 2) W0 #[] 0 (Nat.le_refl _) (Nat.zero_le _) rfl)
     have HS := Lib.hid (SR.src (w := W0) (lo := 0) (n := g.prog.length) (c := c0) ⟨_, _, rfl, (HL0.out.below hb0 (Nat.le_refl _)).wide (Nat.zero_le _) hb0.size⟩ (.cells #[] 89))
     refine App.wpList_append_fresh _ rfl (.tmp 3) (.tmp 5) 47 rfl W0.heap.size 89 i0 _ 2 16 Try.underlying47 hi0 hz0 hz1 hz2 rfl (by omega) W0.heap.size rfl HM.out A0 g.prog.length c0 (jcells g.prog) rfl (by rw [jcells_len]; omega) HS.out (jcells_one _) (by simp only [maxLen]; omega) (by omega) (by simp) ?_
     intro g0 cap0 w0 hown hg
     obtain ⟨ho0, hbb⟩ := fresh_row hown hg
     have hs0 := hbb.size
     have bx := b0.below hbb (by omega)
     have rx := r0.below hbb (by omega)
     have hbx := hb0.trans (hbb.mono hb0.size)
     have y0 := bx.cell 0 (v := .slice A0 g.prog.length c0) rfl
     have f0 := bx.loose 0 (v := .slice A0 g.prog.length c0) rfl
     have y3 := bx.cell 3 (v := .slice A1 g.wr.length c1) rfl
     have f3 := bx.loose 3 (v := .slice A1 g.wr.length c1) rfl
     have hlt0 : w.heap.size < w0.heap.size := by omega
     have hne0 : w.heap.size ≠ w0.heap.size := by omega
     have HOW := Lib.hid hown
     clear hown hg hbb HM HS b0 r0 hb0 
     have b1 : Var (w0.setCell ⟨w.heap.size, 0, none⟩ (.slice (some ⟨g0, 0, none⟩) g.prog.length cap0)) w.heap.size [.slice (some ⟨g0, 0, none⟩) g.prog.length cap0, .int .i64 g.a, .int .i64 g.pc, .slice A1 g.wr.length c1, .slice A2 g.lv.length c2, .int .i64 g.t.1, .int .i64 g.t.2.1, .bool g.t.2.2, .int .i64 g.pd, .int .i64 g.x.1, .int .i64 g.x.2.1, .bool g.x.2.2.1, .int .i64 g.x.2.2.2, .bool g.hl, .slice A3 g.seen.length c3] := bx.set 0 (.slice (some ⟨g0, 0, none⟩) g.prog.length cap0)
     have r1 : Var (w0.setCell ⟨w.heap.size, 0, none⟩ (.slice (some ⟨g0, 0, none⟩) g.prog.length cap0)) (w.heap.size + 1) [.slice none 0 0, .int .i64 0, .int .i64 0, .slice none 0 0, .slice none 0 0, .int .i64 0, .int .i64 0, .bool false, .int .i64 0, .int .i64 0, .int .i64 0, .bool false, .int .i64 0, .bool false, .slice none 0 0] := rx.far (by omega) 0 _
     have hb1 : Below w.heap.size w (w0.setCell ⟨w.heap.size, 0, none⟩ (.slice (some ⟨g0, 0, none⟩) g.prog.length cap0)) := hbx.setCell (p := ⟨w.heap.size, 0, none⟩) (Nat.le_refl _) _
     have ho0' := ho0.far (z := w.heap.size) (.inl (by omega)) 0 (.slice (some ⟨g0, 0, none⟩) g.prog.length cap0)
     have hz_1 : (w0.setCell ⟨w.heap.size, 0, none⟩ (.slice (some ⟨g0, 0, none⟩) g.prog.length cap0)).heap.size = w0.heap.size := by simp)
  | (at_builtin
     clear ho0 bx rx hbx HOW y0 f0 y3 f3
     generalize (w0.setCell ⟨w.heap.size, 0, none⟩ (.slice (some ⟨g0, 0, none⟩) g.prog.length cap0)) = W1 at b1 r1 hb1 hz_1 ho0' ⊢
     have ho0 := ho0'
     clear ho0'
     rw [← hz_1]
     have hn_1 : w.heap.size + 1 + 1 ≤ W1.heap.size := by omega
     have HM := Lib.hid (World.ownsRow_made (e := 91) (size := 2) W1 #[] 0 (Nat.le_refl _) (Nat.zero_le _) rfl)
     have HS := Lib.hid (SR.src (w := W1) (lo := 0) (n := g.wr.length) (c := c1) ⟨_, _, rfl, (HL1.out.below hb1 (Nat.le_refl _)).wide (Nat.zero_le _) hb1.size⟩ (.cells #[] 91))
     refine App.wpList_append_fresh _ rfl (.tmp 8) (.tmp 10) 48 rfl W1.heap.size 91 i1 _ 2 16 Try.underlying48 hi1 hy0 hy1 hy2 rfl (by omega) W1.heap.size rfl HM.out A1 g.wr.length c1 (scells g.wr) rfl (by rw [scells_len]; omega) HS.out (Slots.scells_one _) (by simp only [maxLen]; omega) (by omega) (by simp) ?_
     intro g1 cap1 w1 hown hg
     obtain ⟨ho1, hbb⟩ := fresh_row hown hg
     have hs1 := hbb.size
     have bx := b1.below hbb (by omega)
     have rx := r1.below hbb (by omega)
     have hbx := hb1.trans (hbb.mono hb1.size)
     have ho0x := ho0.below hbb (by omega)
     have y3 := bx.cell 3 (v := .slice A1 g.wr.length c1) rfl
     have f3 := bx.loose 3 (v := .slice A1 g.wr.length c1) rfl
     have y4 := bx.cell 4 (v := .slice A2 g.lv.length c2) rfl
     have f4 := bx.loose 4 (v := .slice A2 g.lv.length c2) rfl
     have hlt1 : w.heap.size < w1.heap.size := by omega
     have hne1 : w.heap.size ≠ w1.heap.size := by omega
     have HOW := Lib.hid hown
     clear hown hg hbb HM HS b1 r1 hb1 ho0
     have b2 : Var (w1.setCell ⟨w.heap.size, 3, none⟩ (.slice (some ⟨g1, 0, none⟩) g.wr.length cap1)) w.heap.size [.slice (some ⟨g0, 0, none⟩) g.prog.length cap0, .int .i64 g.a, .int .i64 g.pc, .slice (some ⟨g1, 0, none⟩) g.wr.length cap1, .slice A2 g.lv.length c2, .int .i64 g.t.1, .int .i64 g.t.2.1, .bool g.t.2.2, .int .i64 g.pd, .int .i64 g.x.1, .int .i64 g.x.2.1, .bool g.x.2.2.1, .int .i64 g.x.2.2.2, .bool g.hl, .slice A3 g.seen.length c3] := bx.set 3 (.slice (some ⟨g1, 0, none⟩) g.wr.length cap1)
     have r2 : Var (w1.setCell ⟨w.heap.size, 3, none⟩ (.slice (some ⟨g1, 0, none⟩) g.wr.length cap1)) (w.heap.size + 1) [.slice none 0 0, .int .i64 0, .int .i64 0, .slice none 0 0, .slice none 0 0, .int .i64 0, .int .i64 0, .bool false, .int .i64 0, .int .i64 0, .int .i64 0, .bool false, .int .i64 0, .bool false, .slice none 0 0] := rx.far (by omega) 3 _
     have hb2 : Below w.heap.size w (w1.setCell ⟨w.heap.size, 3, none⟩ (.slice (some ⟨g1, 0, none⟩) g.wr.length cap1)) := hbx.setCell (p := ⟨w.heap.size, 3, none⟩) (Nat.le_refl _) _
     have ho0' := ho0x.far (z := w.heap.size) (.inl (by omega)) 3 (.slice (some ⟨g1, 0, none⟩) g.wr.length cap1)
     have ho1' := ho1.far (z := w.heap.size) (.inl (by omega)) 3 (.slice (some ⟨g1, 0, none⟩) g.wr.length cap1)
     have hz_2 : (w1.setCell ⟨w.heap.size, 3, none⟩ (.slice (some ⟨g1, 0, none⟩) g.wr.length cap1)).heap.size = w1.heap.size := by simp)
  | (at_builtin
     clear ho1 bx rx hbx HOW ho0x y3 f3 y4 f4
     generalize (w1.setCell ⟨w.heap.size, 3, none⟩ (.slice (some ⟨g1, 0, none⟩) g.wr.length cap1)) = W2 at b2 r2 hb2 hz_2 ho0' ho1' ⊢
     have ho0 := ho0'
     clear ho0'
     have ho1 := ho1'
     clear ho1'
     rw [← hz_2]
     have hn_2 : w.heap.size + 1 + 1 ≤ W2.heap.size := by omega
     have HM := Lib.hid (World.ownsRow_made (e := 91) (size := 2) W2 #[] 0 (Nat.le_refl _) (Nat.zero_le _) rfl)
     have HS := Lib.hid (SR.src (w := W2) (lo := 0) (n := g.lv.length) (c := c2) ⟨_, _, rfl, (HL2.out.below hb2 (Nat.le_refl _)).wide (Nat.zero_le _) hb2.size⟩ (.cells #[] 91))
     refine App.wpList_append_fresh _ rfl (.tmp 13) (.tmp 15) 48 rfl W2.heap.size 91 i1 _ 2 16 Try.underlying48 hi1 hy0 hy1 hy2 rfl (by omega) W2.heap.size rfl HM.out A2 g.lv.length c2 (scells g.lv) rfl (by rw [scells_len]; omega) HS.out (Slots.scells_one _) (by simp only [maxLen]; omega) (by omega) (by simp) ?_
     intro g2 cap2 w2 hown hg
     obtain ⟨ho2, hbb⟩ := fresh_row hown hg
     have hs2 := hbb.size
     have bx := b2.below hbb (by omega)
     have rx := r2.below hbb (by omega)
     have hbx := hb2.trans (hbb.mono hb2.size)
     have ho0x := ho0.below hbb (by omega)
     have ho1x := ho1.below hbb (by omega)
     have y4 := bx.cell 4 (v := .slice A2 g.lv.length c2) rfl
     have f4 := bx.loose 4 (v := .slice A2 g.lv.length c2) rfl
     have y14 := bx.cell 14 (v := .slice A3 g.seen.length c3) rfl
     have f14 := bx.loose 14 (v := .slice A3 g.seen.length c3) rfl
     have hlt2 : w.heap.size < w2.heap.size := by omega
     have hne2 : w.heap.size ≠ w2.heap.size := by omega
     have HOW := Lib.hid hown
     clear hown hg hbb HM HS b2 r2 hb2 ho0 ho1
     have b3 : Var (w2.setCell ⟨w.heap.size, 4, none⟩ (.slice (some ⟨g2, 0, none⟩) g.lv.length cap2)) w.heap.size [.slice (some ⟨g0, 0, none⟩) g.prog.length cap0, .int .i64 g.a, .int .i64 g.pc, .slice (some ⟨g1, 0, none⟩) g.wr.length cap1, .slice (some ⟨g2, 0, none⟩) g.lv.length cap2, .int .i64 g.t.1, .int .i64 g.t.2.1, .bool g.t.2.2, .int .i64 g.pd, .int .i64 g.x.1, .int .i64 g.x.2.1, .bool g.x.2.2.1, .int .i64 g.x.2.2.2, .bool g.hl, .slice A3 g.seen.length c3] := bx.set 4 (.slice (some ⟨g2, 0, none⟩) g.lv.length cap2)
     have r3 : Var (w2.setCell ⟨w.heap.size, 4, none⟩ (.slice (some ⟨g2, 0, none⟩) g.lv.length cap2)) (w.heap.size + 1) [.slice none 0 0, .int .i64 0, .int .i64 0, .slice none 0 0, .slice none 0 0, .int .i64 0, .int .i64 0, .bool false, .int .i64 0, .int .i64 0, .int .i64 0, .bool false, .int .i64 0, .bool false, .slice none 0 0] := rx.far (by omega) 4 _
     have hb3 : Below w.heap.size w (w2.setCell ⟨w.heap.size, 4, none⟩ (.slice (some ⟨g2, 0, none⟩) g.lv.length cap2)) := hbx.setCell (p := ⟨w.heap.size, 4, none⟩) (Nat.le_refl _) _
     have ho0' := ho0x.far (z := w.heap.size) (.inl (by omega)) 4 (.slice (some ⟨g2, 0, none⟩) g.lv.length cap2)
     have ho1' := ho1x.far (z := w.heap.size) (.inl (by omega)) 4 (.slice (some ⟨g2, 0, none⟩) g.lv.length cap2)
     have ho2' := ho2.far (z := w.heap.size) (.inl (by omega)) 4 (.slice (some ⟨g2, 0, none⟩) g.lv.length cap2)
     have hz_3 : (w2.setCell ⟨w.heap.size, 4, none⟩ (.slice (some ⟨g2, 0, none⟩) g.lv.length cap2)).heap.size = w2.heap.size := by simp)
  | (at_builtin
     clear ho2 bx rx hbx HOW ho0x ho1x y4 f4 y14 f14
     generalize (w2.setCell ⟨w.heap.size, 4, none⟩ (.slice (some ⟨g2, 0, none⟩) g.lv.length cap2)) = W3 at b3 r3 hb3 hz_3 ho0' ho1' ho2' ⊢
     have ho0 := ho0'
     clear ho0'
     have ho1 := ho1'
     clear ho1'
     have ho2 := ho2'
     clear ho2'
     rw [← hz_3]
     have hn_3 : w.heap.size + 1 + 1 ≤ W3.heap.size := by omega
     have HM := Lib.hid (World.ownsRow_made (e := 3) (size := 1) W3 #[] 0 (Nat.le_refl _) (Nat.zero_le _) rfl)
     have HS := Lib.hid (SR.src (w := W3) (lo := 0) (n := g.seen.length) (c := c3) ⟨_, _, rfl, (HL3.out.below hb3 (Nat.le_refl _)).wide (Nat.zero_le _) hb3.size⟩ (.cells #[] 3))
     refine App.wpList_append_fresh _ rfl (.tmp 18) (.tmp 20) 24 rfl W3.heap.size 3 i2 _ 1 8 Try.underlying24 hi2 hx0 hx1 hx2 rfl (by omega) W3.heap.size rfl HM.out A3 g.seen.length c3 (ncells g.seen) rfl (by rw [ncells_len]; omega) HS.out (ncells_oneP _) (by simp only [maxLen]; omega) (by omega) (by simp) ?_
     intro g3 cap3 w3 hown hg
     obtain ⟨ho3, hbb⟩ := fresh_row hown hg
     have hs3 := hbb.size
     have bx := b3.below hbb (by omega)
     have rx := r3.below hbb (by omega)
     have hbx := hb3.trans (hbb.mono hb3.size)
     have ho0x := ho0.below hbb (by omega)
     have ho1x := ho1.below hbb (by omega)
     have ho2x := ho2.below hbb (by omega)
     have y0 := bx.cell 0 (v := .slice (some ⟨g0, 0, none⟩) g.prog.length cap0) rfl
     have f0 := bx.loose 0 (v := .slice (some ⟨g0, 0, none⟩) g.prog.length cap0) rfl
     have y1 := bx.cell 1 (v := .int .i64 g.a) rfl
     have f1 := bx.loose 1 (v := .int .i64 g.a) rfl
     have y2 := bx.cell 2 (v := .int .i64 g.pc) rfl
     have f2 := bx.loose 2 (v := .int .i64 g.pc) rfl
     have y3 := bx.cell 3 (v := .slice (some ⟨g1, 0, none⟩) g.wr.length cap1) rfl
     have f3 := bx.loose 3 (v := .slice (some ⟨g1, 0, none⟩) g.wr.length cap1) rfl
     have y4 := bx.cell 4 (v := .slice (some ⟨g2, 0, none⟩) g.lv.length cap2) rfl
     have f4 := bx.loose 4 (v := .slice (some ⟨g2, 0, none⟩) g.lv.length cap2) rfl
     have y5 := bx.cell 5 (v := .int .i64 g.t.1) rfl
     have f5 := bx.loose 5 (v := .int .i64 g.t.1) rfl
     have y6 := bx.cell 6 (v := .int .i64 g.t.2.1) rfl
     have f6 := bx.loose 6 (v := .int .i64 g.t.2.1) rfl
     have y7 := bx.cell 7 (v := .bool g.t.2.2) rfl
     have f7 := bx.loose 7 (v := .bool g.t.2.2) rfl
     have y8 := bx.cell 8 (v := .int .i64 g.pd) rfl
     have f8 := bx.loose 8 (v := .int .i64 g.pd) rfl
     have y9 := bx.cell 9 (v := .int .i64 g.x.1) rfl
     have f9 := bx.loose 9 (v := .int .i64 g.x.1) rfl
     have y10 := bx.cell 10 (v := .int .i64 g.x.2.1) rfl
     have f10 := bx.loose 10 (v := .int .i64 g.x.2.1) rfl
     have y11 := bx.cell 11 (v := .bool g.x.2.2.1) rfl
     have f11 := bx.loose 11 (v := .bool g.x.2.2.1) rfl
     have y12 := bx.cell 12 (v := .int .i64 g.x.2.2.2) rfl
     have f12 := bx.loose 12 (v := .int .i64 g.x.2.2.2) rfl
     have y13 := bx.cell 13 (v := .bool g.hl) rfl
     have f13 := bx.loose 13 (v := .bool g.hl) rfl
     have y14 := bx.cell 14 (v := .slice A3 g.seen.length c3) rfl
     have f14 := bx.loose 14 (v := .slice A3 g.seen.length c3) rfl
     have yr0 := rx.cell 0 (v := .slice none 0 0) rfl
     have fr0 := rx.loose 0 (v := .slice none 0 0) rfl
     have yr1 := rx.cell 1 (v := .int .i64 0) rfl
     have fr1 := rx.loose 1 (v := .int .i64 0) rfl
     have yr2 := rx.cell 2 (v := .int .i64 0) rfl
     have fr2 := rx.loose 2 (v := .int .i64 0) rfl
     have yr3 := rx.cell 3 (v := .slice none 0 0) rfl
     have fr3 := rx.loose 3 (v := .slice none 0 0) rfl
     have yr4 := rx.cell 4 (v := .slice none 0 0) rfl
     have fr4 := rx.loose 4 (v := .slice none 0 0) rfl
     have yr5 := rx.cell 5 (v := .int .i64 0) rfl
     have fr5 := rx.loose 5 (v := .int .i64 0) rfl
     have yr6 := rx.cell 6 (v := .int .i64 0) rfl
     have fr6 := rx.loose 6 (v := .int .i64 0) rfl
     have yr7 := rx.cell 7 (v := .bool false) rfl
     have fr7 := rx.loose 7 (v := .bool false) rfl
     have yr8 := rx.cell 8 (v := .int .i64 0) rfl
     have fr8 := rx.loose 8 (v := .int .i64 0) rfl
     have yr9 := rx.cell 9 (v := .int .i64 0) rfl
     have fr9 := rx.loose 9 (v := .int .i64 0) rfl
     have yr10 := rx.cell 10 (v := .int .i64 0) rfl
     have fr10 := rx.loose 10 (v := .int .i64 0) rfl
     have yr11 := rx.cell 11 (v := .bool false) rfl
     have fr11 := rx.loose 11 (v := .bool false) rfl
     have yr12 := rx.cell 12 (v := .int .i64 0) rfl
     have fr12 := rx.loose 12 (v := .int .i64 0) rfl
     have yr13 := rx.cell 13 (v := .bool false) rfl
     have fr13 := rx.loose 13 (v := .bool false) rfl
     have yr14 := rx.cell 14 (v := .slice none 0 0) rfl
     have fr14 := rx.loose 14 (v := .slice none 0 0) rfl
     have hlt3 : w.heap.size < w3.heap.size := by omega
     have hne3 : w.heap.size ≠ w3.heap.size := by omega
     have HOW := Lib.hid hown
     clear hown hg hbb HM HS b3 r3 hb3 ho0 ho1 ho2))
  exact bodyPost_ret (v := .agg #[.slice (some ⟨g0, 0, none⟩) g.prog.length cap0, .int .i64 g.a, .int .i64 g.pc, .slice (some ⟨g1, 0, none⟩) g.wr.length cap1, .slice (some ⟨g2, 0, none⟩) g.lv.length cap2, .int .i64 g.t.1, .int .i64 g.t.2.1, .bool g.t.2.2, .int .i64 g.pd, .int .i64 g.x.1, .int .i64 g.x.2.1, .bool g.x.2.2.1, .int .i64 g.x.2.2.2, .bool g.hl, .slice (some ⟨g3, 0, none⟩) g.seen.length cap3]) (by simp [results, Try.results42, go_sem, yr0, yr1, yr2, yr3, yr4, yr5, yr6, yr7, yr8, yr9, yr10, yr11, yr12, yr13, yr14]) rfl ⟨_, _, _, _, _, rfl, ⟨(((((((((((((((((ho0x.far (z := w.heap.size) (.inl (by omega)) 14 _).far (z := w.heap.size + 1) (.inl (by omega)) 0 _).far (z := w.heap.size + 1) (.inl (by omega)) 1 _).far (z := w.heap.size + 1) (.inl (by omega)) 2 _).far (z := w.heap.size + 1) (.inl (by omega)) 3 _).far (z := w.heap.size + 1) (.inl (by omega)) 4 _).far (z := w.heap.size + 1) (.inl (by omega)) 5 _).far (z := w.heap.size + 1) (.inl (by omega)) 6 _).far (z := w.heap.size + 1) (.inl (by omega)) 7 _).far (z := w.heap.size + 1) (.inl (by omega)) 8 _).far (z := w.heap.size + 1) (.inl (by omega)) 9 _).far (z := w.heap.size + 1) (.inl (by omega)) 10 _).far (z := w.heap.size + 1) (.inl (by omega)) 11 _).far (z := w.heap.size + 1) (.inl (by omega)) 12 _).far (z := w.heap.size + 1) (.inl (by omega)) 13 _).far (z := w.heap.size + 1) (.inl (by omega)) 14 _).wide (by omega) (by simp <;> omega)), (((((((((((((((((ho1x.far (z := w.heap.size) (.inl (by omega)) 14 _).far (z := w.heap.size + 1) (.inl (by omega)) 0 _).far (z := w.heap.size + 1) (.inl (by omega)) 1 _).far (z := w.heap.size + 1) (.inl (by omega)) 2 _).far (z := w.heap.size + 1) (.inl (by omega)) 3 _).far (z := w.heap.size + 1) (.inl (by omega)) 4 _).far (z := w.heap.size + 1) (.inl (by omega)) 5 _).far (z := w.heap.size + 1) (.inl (by omega)) 6 _).far (z := w.heap.size + 1) (.inl (by omega)) 7 _).far (z := w.heap.size + 1) (.inl (by omega)) 8 _).far (z := w.heap.size + 1) (.inl (by omega)) 9 _).far (z := w.heap.size + 1) (.inl (by omega)) 10 _).far (z := w.heap.size + 1) (.inl (by omega)) 11 _).far (z := w.heap.size + 1) (.inl (by omega)) 12 _).far (z := w.heap.size + 1) (.inl (by omega)) 13 _).far (z := w.heap.size + 1) (.inl (by omega)) 14 _).wide (by omega) (by simp <;> omega)), (((((((((((((((((ho2x.far (z := w.heap.size) (.inl (by omega)) 14 _).far (z := w.heap.size + 1) (.inl (by omega)) 0 _).far (z := w.heap.size + 1) (.inl (by omega)) 1 _).far (z := w.heap.size + 1) (.inl (by omega)) 2 _).far (z := w.heap.size + 1) (.inl (by omega)) 3 _).far (z := w.heap.size + 1) (.inl (by omega)) 4 _).far (z := w.heap.size + 1) (.inl (by omega)) 5 _).far (z := w.heap.size + 1) (.inl (by omega)) 6 _).far (z := w.heap.size + 1) (.inl (by omega)) 7 _).far (z := w.heap.size + 1) (.inl (by omega)) 8 _).far (z := w.heap.size + 1) (.inl (by omega)) 9 _).far (z := w.heap.size + 1) (.inl (by omega)) 10 _).far (z := w.heap.size + 1) (.inl (by omega)) 11 _).far (z := w.heap.size + 1) (.inl (by omega)) 12 _).far (z := w.heap.size + 1) (.inl (by omega)) 13 _).far (z := w.heap.size + 1) (.inl (by omega)) 14 _).wide (by omega) (by simp <;> omega)), (((((((((((((((((ho3.far (z := w.heap.size) (.inl (by omega)) 14 _).far (z := w.heap.size + 1) (.inl (by omega)) 0 _).far (z := w.heap.size + 1) (.inl (by omega)) 1 _).far (z := w.heap.size + 1) (.inl (by omega)) 2 _).far (z := w.heap.size + 1) (.inl (by omega)) 3 _).far (z := w.heap.size + 1) (.inl (by omega)) 4 _).far (z := w.heap.size + 1) (.inl (by omega)) 5 _).far (z := w.heap.size + 1) (.inl (by omega)) 6 _).far (z := w.heap.size + 1) (.inl (by omega)) 7 _).far (z := w.heap.size + 1) (.inl (by omega)) 8 _).far (z := w.heap.size + 1) (.inl (by omega)) 9 _).far (z := w.heap.size + 1) (.inl (by omega)) 10 _).far (z := w.heap.size + 1) (.inl (by omega)) 11 _).far (z := w.heap.size + 1) (.inl (by omega)) 12 _).far (z := w.heap.size + 1) (.inl (by omega)) 13 _).far (z := w.heap.size + 1) (.inl (by omega)) 14 _).wide (by omega) (by simp <;> omega)), (fun k h1 h2 => by have u1 := ho0x.inB (nilJ _) h1; have u2 := ho1x.inB (nilS _) h2; omega), (fun k h1 h2 => by have u1 := ho0x.inB (nilJ _) h1; have u2 := ho2x.inB (nilS _) h2; omega), (fun k h1 h2 => by have u1 := ho0x.inB (nilJ _) h1; have u2 := ho3.inB (nilN _) h2; omega), (fun k h1 h2 => by have u1 := ho1x.inB (nilS _) h1; have u2 := ho2x.inB (nilS _) h2; omega), (fun k h1 h2 => by have u1 := ho1x.inB (nilS _) h1; have u2 := ho3.inB (nilN _) h2; omega), (fun k h1 h2 => by have u1 := ho2x.inB (nilS _) h1; have u2 := ho3.inB (nilN _) h2; omega)⟩, (row_far (row_far (row_far (row_far (row_far (row_far (row_far (row_far (row_far (row_far (row_far (row_far (row_far (row_far (row_far (row_far HOW.out (Nat.le_refl _) (by omega) 14 _) (Nat.le_refl _) (by omega) 0 _) (Nat.le_refl _) (by omega) 1 _) (Nat.le_refl _) (by omega) 2 _) (Nat.le_refl _) (by omega) 3 _) (Nat.le_refl _) (by omega) 4 _) (Nat.le_refl _) (by omega) 5 _) (Nat.le_refl _) (by omega) 6 _) (Nat.le_refl _) (by omega) 7 _) (Nat.le_refl _) (by omega) 8 _) (Nat.le_refl _) (by omega) 9 _) (Nat.le_refl _) (by omega) 10 _) (Nat.le_refl _) (by omega) 11 _) (Nat.le_refl _) (by omega) 12 _) (Nat.le_refl _) (by omega) 13 _) (by omega) (by omega) 14 _), (fun k hk => have hg := (row_base HOW.out).1; hk.elim (fun hk => by have u := ho0x.inB (nilJ _) hk; omega) (fun hk => hk.elim (fun hk => by have u := ho1x.inB (nilS _) hk; omega) (fun hk => by have u := ho2x.inB (nilS _) hk; omega))), ((((((((((((((((hbx.setCell (p := ⟨w.heap.size, 14, none⟩) (Nat.le_refl _) _).setCell (p := ⟨w.heap.size + 1, 0, none⟩) (show w.heap.size ≤ w.heap.size + 1 by omega) _).setCell (p := ⟨w.heap.size + 1, 1, none⟩) (show w.heap.size ≤ w.heap.size + 1 by omega) _).setCell (p := ⟨w.heap.size + 1, 2, none⟩) (show w.heap.size ≤ w.heap.size + 1 by omega) _).setCell (p := ⟨w.heap.size + 1, 3, none⟩) (show w.heap.size ≤ w.heap.size + 1 by omega) _).setCell (p := ⟨w.heap.size + 1, 4, none⟩) (show w.heap.size ≤ w.heap.size + 1 by omega) _).setCell (p := ⟨w.heap.size + 1, 5, none⟩) (show w.heap.size ≤ w.heap.size + 1 by omega) _).setCell (p := ⟨w.heap.size + 1, 6, none⟩) (show w.heap.size ≤ w.heap.size + 1 by omega) _).setCell (p := ⟨w.heap.size + 1, 7, none⟩) (show w.heap.size ≤ w.heap.size + 1 by omega) _).setCell (p := ⟨w.heap.size + 1, 8, none⟩) (show w.heap.size ≤ w.heap.size + 1 by omega) _).setCell (p := ⟨w.heap.size + 1, 9, none⟩) (show w.heap.size ≤ w.heap.size + 1 by omega) _).setCell (p := ⟨w.heap.size + 1, 10, none⟩) (show w.heap.size ≤ w.heap.size + 1 by omega) _).setCell (p := ⟨w.heap.size + 1, 11, none⟩) (show w.heap.size ≤ w.heap.size + 1 by omega) _).setCell (p := ⟨w.heap.size + 1, 12, none⟩) (show w.heap.size ≤ w.heap.size + 1 by omega) _).setCell (p := ⟨w.heap.size + 1, 13, none⟩) (show w.heap.size ≤ w.heap.size + 1 by omega) _).setCell (p := ⟨w.heap.size + 1, 14, none⟩) (show w.heap.size ≤ w.heap.size + 1 by omega) _)⟩
end Go.Proofs.Ytmiokacihcpepaa.Guests
