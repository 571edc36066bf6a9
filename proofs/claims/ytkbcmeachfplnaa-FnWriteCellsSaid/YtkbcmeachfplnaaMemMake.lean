/-
  Memory: contracts of the functions of chapter 4 that make memory (copyPage, copyMem, l04Copy, MemNew, PageAt, WithCell, WithPage of the project and of the given model). No condition beyond a memory's size.
-/
import Derived.Test.YtkbcmeachfplnaaPage
import Derived.Test.YtkbcmeachfplnaaBroughtImpl
import Derived.Laws.CopyOwn
import Derived.Maps.AppendAt
namespace Go.Proofs.Ytkbcmeachfplnaa.Grid
open Go.ChangeShapes Go.WideShapes Go.ChangeAt Go.RowKit
open Go.Proofs.Ytkbcmeachfplnaa.Base Go.Proofs.Ytkbcmeachfplnaa.Mem Go.Proofs.Ytkbcmeachfplnaa.Ints
set_option linter.unusedVariables false

section
variable {P : Program}
theorem run_append_nil0 (w : World) (t ty e : TypeId) (i : TypeInfo) (ht : P.underlying t = some (.slice e)) (hi : P.info? e = some i) (g0 c : Nat) :
    (Builtin.append_ #[t, t] ty #[.slice (some ⟨g0, 0, none⟩) 0 0, .slice none 0 c]).run P w = .ok (.slice (some ⟨g0, 0, none⟩) 0 0) w := by
  simp [Builtin.append_, run_underlying ht, sizeOf, typeInfo, hi, Builtin.lenOf, Builtin.firstCells, storeCells]

/-- 'append' onto an empty slice of one's own, from whatever source (nil, empty or not). -/
theorem run_append_fresh (w : World) (t ty base : TypeId) (e : TypeId) (i : TypeInfo) (z : Value) (size bytes : Nat) (ht : P.underlying t = some (.slice e)) (hi : P.info? e = some i) (hz : i.zero = some z)
    (hsize : i.size = size) (hby : i.bytes = bytes) (hzs : z.cells.size = size) (hsz : 0 < size) (g0 : Nat) (hown : w.ownsRow base e size (.slice (some ⟨g0, 0, none⟩) 0 0) 0 [])
    (A : Option Addr) (m c : Nat) (news : List Value) (hl : news.length = m * size) (hsrc : ∀ j u, news[j]? = some u → ∃ ad, A = some ad ∧ w.cell? (ad.add j) = some u) (h1 : ∀ u ∈ news, u.oneCell' = true)
    (h63 : m ≤ maxLen) (hbytes : m * bytes ≤ 140737488355328) (hbase : base ≤ w.heap.size) :
    ∃ g cap w', (Builtin.append_ #[t, t] ty #[.slice (some ⟨g0, 0, none⟩) 0 0, .slice A m c]).run P w = .ok (.slice (some ⟨g, 0, none⟩) m cap) w' ∧
      w'.ownsRow base e size (.slice (some ⟨g, 0, none⟩) m cap) m news ∧ w.grownBy w' (some g0) := by
  have hfree : ∀ j u, news[j]? = some u → A ≠ none := fun j u hu e => by
    obtain ⟨ad, h, _⟩ := hsrc j u hu
    rw [e] at h
    cases h
  rcases A with _ | ad
  · have hn : news = [] := by
      rcases news with _ | ⟨u, r⟩
      · rfl
      · exact absurd rfl (hfree 0 u rfl)
    subst hn
    have hm : m = 0 := by
      rcases Nat.eq_zero_or_pos m with h | h
      · exact h
      · have := Nat.mul_pos h hsz
        simp at hl
        omega
    subst hm
    exact ⟨g0, 0, w, run_append_nil0 w t ty e i ht hi g0 c, hown, World.grownBy.refl w _⟩
  · obtain ⟨v', w', hr, h2, h3, h4, _⟩ := run_append_own_at (P := P) w base t ty e i z size bytes ht hi hz hsize hby hzs hsz (.slice (some ⟨g0, 0, none⟩) 0 0) 0 [] hown ad m c news hl
      (fun j u hu => by
        obtain ⟨ad', h, hc⟩ := hsrc j u hu
        cases h
        exact hc) h1 (by omega) (by rw [Nat.zero_add]; exact hbytes) hbase
    rw [Nat.zero_add, List.nil_append] at h2
    rcases h2.2 with ⟨h, _⟩ | ⟨g, cap, cur, rfl, _⟩
    · have := (h4.1 h).1
      simp at this
    · exact ⟨g, cap, w', hr, h2, h3⟩

theorem wpList_append_fresh (w : World) {ops : Array Oper} {rest : List Oper} {o : Oper} {a : Act} {Q : Exit → Act → World → Prop} (hgd : o.guard = none) (s x : Operand) (t : TypeId)
    (ho : o.op = .call { callee := .builtin .append, args := #[s, x], argTypes := #[t, t] })
    (base : Nat) (e : TypeId) (i : TypeInfo) (z : Value) (size bytes : Nat) (ht : P.underlying t = some (.slice e)) (hi : P.info? e = some i) (hz : i.zero = some z)
    (hsize : i.size = size) (hby : i.bytes = bytes) (hzs : z.cells.size = size) (hsz : 0 < size) (g0 : Nat) (hs : a.eval s = .slice (some ⟨g0, 0, none⟩) 0 0) (hown : w.ownsRow base e size (.slice (some ⟨g0, 0, none⟩) 0 0) 0 [])
    (A : Option Addr) (m c : Nat) (news : List Value) (hx : a.eval x = .slice A m c) (hl : news.length = m * size) (hsrc : ∀ j u, news[j]? = some u → ∃ ad, A = some ad ∧ w.cell? (ad.add j) = some u) (h1 : ∀ u ∈ news, u.oneCell' = true)
    (h63 : m ≤ maxLen) (hbytes : m * bytes ≤ 140737488355328) (hbase : base ≤ w.heap.size)
    (h : ∀ g cap w', w'.ownsRow base e size (.slice (some ⟨g, 0, none⟩) m cap) m news → w.grownBy w' (some g0) → wpList P ops Q rest (a.put o.dst (.slice (some ⟨g, 0, none⟩) m cap)) w') : wpList P ops Q (o :: rest) a w := by
  refine wpList_plain hgd fun K hK => ?_
  obtain ⟨g, cap, w', hr, h2, h3⟩ := run_append_fresh (P := P) w t o.type base e i z size bytes ht hi hz hsize hby hzs hsz g0 hown A m c news hl hsrc h1 h63 hbytes hbase
  unfold Oper.wp execOp
  simp only [ho, resolve, invoke, builtin, Sem.run_bind, Sem.run_pure, Result.andThen_ok, List.map_toArray, List.map_cons, List.map_nil, hs, hx, hr]
  exact hK _ _ (h g cap w' h2 h3)
end

/-- A source's cells as an append asks for them. -/
theorem Lies.src {w : World} {lo hi : Nat} {A : Option Addr} {cs : List Value} (h : Lies w lo hi A cs) : ∀ j u, cs[j]? = some u → ∃ ad, A = some ad ∧ w.cell? (ad.add j) = some u := fun j u hu => by
  obtain ⟨b, off, e, _, _, z⟩ := h j u hu
  refine ⟨_, e, ?_⟩
  rw [Addr.add_lit]
  exact z
theorem ncells_one (l : List Int) : ∀ u ∈ ncells l, u.oneCell' = true := by
  intro u hu
  obtain ⟨b, _, rfl⟩ := List.mem_map.1 hu
  rfl
theorem ncells_set (l : List Int) (j : Nat) (v : Int) : (ncells l).set j (.int .i64 v) = ncells (l.set j v) := by
  simp [ncells, List.map_set]
theorem splice_all {α : Type} (L cs : List α) (h : cs.length = L.length) : splice L 0 cs = cs := by
  simp [splice, h]
theorem row_of_block {w : World} {base g n : Nat} {e : TypeId} {cs : List Value} (hg : w.heap[g]? = some (.cells cs.toArray e (0, 0))) (hb : base ≤ g) (hn : cs.length = n) (hm : n ≤ maxLen) : w.ownsRow base e 1 (.slice (some ⟨g, 0, none⟩) n n) n cs :=
  ⟨by omega, .inr ⟨g, n, cs.toArray, rfl, hb, hg, Nat.le_refl _, hm, by simp [hn], by rw [Nat.mul_one]; exact List.take_of_length_le (by simp [hn])⟩⟩
theorem block_of_row {w : World} {base g n : Nat} {e : TypeId} {cs : List Value} (h : w.ownsRow base e 1 (.slice (some ⟨g, 0, none⟩) n n) n cs) : ∃ cur : List Value, w.heap[g]? = some (.cells cur.toArray e (0, 0)) ∧ cur.length = n := by
  rcases h.2 with ⟨h', _⟩ | ⟨g', cap, cur, h', hb, hg, hnc, _, hcs, htake⟩
  · cases h'
  · injection h' with h1 h2 h3
    injection h1 with h1
    injection h1 with h1
    subst h1 h3
    exact ⟨cur.toList, by simpa using hg, by simpa using hcs⟩

set_option maxHeartbeats 1000000 in
theorem impl_copyPage (A : Option Addr) (n c lo : Nat) (l : List Int) (w : World) (hn : n ≤ 1048576) (hl : l.length = n) (h1 : Lies w lo w.heap.size A (ncells l)) :
    Calls Try.prog 63 #[.slice A n c] w (IPost w l) := by
  obtain ⟨i0, hi0, hz0, hz1, hz2⟩ := info_parts Try.infoInt
  obtain ⟨wm, hmk, hown, hgm⟩ := run_make_full w w.heap.size 32 3 i0 _ 1 Try.underlying32 hi0 hz0 hz1 .i64 .i64 n (by rw [hz2]; omega) (by simp only [maxLen]; omega) (Nat.le_refl _)
  obtain ⟨cur, hblk, hcur⟩ := block_of_row hown
  have hb0 : Below w.heap.size w wm := (Below.refl _ _).grown hgm (Nat.le_refl _) (fun _ h => by cases h)
  have hsrc := Lib.hid (Lies.src (h1.below hb0 (Nat.le_refl _)))
  have hlen := Lib.hid (show (ncells l).length = Nat.min n n by rw [ncells_len, hl]; exact (Nat.min_self n).symm)
  have hfit := Lib.hid (show 0 + (ncells l).length ≤ cur.length by rw [ncells_len, hl, hcur]; omega)
  have hs := Lib.hid (splice_all cur (ncells l) (by rw [ncells_len, hl, hcur]))
  have hsz := Lib.hid (show (Try.prog.info? 3).map (·.size) = some 1 by rw [hi0]; simp [hz1])
  have HB := Lib.hid hb0
  have HL := Lib.hid hl
  have HC := Lib.hid hblk
  have hlo := Nat.le_refl w.heap.size
  clear h1 hl hown hgm hblk hb0 hcur
  go_enter Try.func63, Try.ntmps63
  go_wp2_with (with_reducible refine wpList_copy_splice rfl (.tmp 7) (.tmp 8) 32 32 rfl 3 Try.underlying32 hsz.out (some ⟨w.heap.size, 0, none⟩) A n n n c rfl rfl w.heap.size 0 cur 3 HC.out (ncells l) hlen.out (fun hp => ⟨rfl, by obtain ⟨ad, e, _⟩ := hsrc.out 0 _ (List.getElem?_eq_getElem hp); subst e; exact ⟨_, rfl, fun j v hv => by obtain ⟨ad', e', hc⟩ := hsrc.out j v hv; cases e'; exact hc⟩⟩) hfit.out (ncells_one l) w.heap.size w HB.out hlo ?_; intro w2 HG hb2; have HB2 := Lib.hid hb2; clear hb2)
  go_ret
  have hg := HG.out
  rw [hs.out] at hg
  exact ⟨_, _, _, rfl, HL.out, Owned.of_row (row_of_block (n := n) hg (Nat.le_refl _) (by rw [ncells_len]; exact HL.out) (by simp only [maxLen]; omega)), HB2.out⟩
end Go.Proofs.Ytkbcmeachfplnaa.Grid
