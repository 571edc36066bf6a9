/-
  The given model's PartsOf and the project's PartsOf, each called at any string: both return the same fields and the same bool, in new memory, and change no memory that was there. No condition.
-/
import Derived.Test.YtocnhnhklpfdgaaStr
import Derived.WalkMore
namespace Go.Proofs.Ytocnhnhklpfdgaa.fnExactPartsOf
open Go.ChangeShapes Go.WideShapes Go.ChangeAt Go.RowKit
open Go.Proofs.Ytocnhnhklpfdgaa.Base Go.Proofs.Ytocnhnhklpfdgaa.Str

theorem Try.info5 : (Try.prog.info? 5).map (fun i => (i.zero, i.size, i.bytes)) = some (some (.int .u8 0), 1, 1) := by kernel_rfl
theorem Try.info9 : (Try.prog.info? 9).map (fun i => (i.zero, i.size, i.bytes)) = some (some (.string ⟨#[]⟩), 1, 16) := by kernel_rfl

/-- The fields that have ended, and the one under way. -/
def flush (d : List ByteArray) (c : List UInt8) : List ByteArray := if c = [] then d else d ++ [⟨c.toArray⟩]
def stepP (st : List ByteArray × List UInt8) (b : UInt8) : List ByteArray × List UInt8 := if b = 32 then (flush st.1 st.2, []) else (st.1, st.2 ++ [b])
def scan (l : List UInt8) : List ByteArray × List UInt8 := l.foldl stepP ([], [])
theorem scan_snoc (l : List UInt8) (b : UInt8) : scan (l ++ [b]) = stepP (scan l) b := by simp [scan, List.foldl_append]
theorem flush_nil (d : List ByteArray) : flush d [] = d := if_pos rfl
theorem flush_cons (d : List ByteArray) (c : List UInt8) (h : c ≠ []) : flush d c = d ++ [⟨c.toArray⟩] := if_neg h
theorem flush_len (d : List ByteArray) (c : List UInt8) : (flush d c).length ≤ d.length + 1 := by
  unfold flush; split <;> simp
theorem scan_len (l : List UInt8) : ∀ n, l.length ≤ n → (scan l).1.length ≤ n ∧ (scan l).2.length ≤ n := by
  intro n
  induction n generalizing l with
  | zero => intro h; have : l = [] := List.eq_nil_of_length_eq_zero (by omega)
            subst this; exact ⟨Nat.le_refl _, Nat.le_refl _⟩
  | succ n ih =>
    intro h
    rcases List.eq_nil_or_concat l with rfl | ⟨l', b, rfl⟩
    · exact ⟨Nat.zero_le _, Nat.zero_le _⟩
    · have h' : l'.length ≤ n := by simp at h; omega
      obtain ⟨h1, h2⟩ := ih l' h'
      rw [List.concat_eq_append, scan_snoc]
      unfold stepP
      split
      · have := flush_len (scan l').1 (scan l').2
        exact ⟨by simp only; omega, Nat.zero_le _⟩
      · exact ⟨by simp only; omega, by simp; omega⟩
def okByte (b : UInt8) : Bool := decide (32 ≤ b.toNat) && decide (b.toNat ≤ 126)
def okB (s : ByteArray) : Bool := decide (s.size ≤ 600) && s.data.toList.all okByte && decide ((scan (s.data.toList ++ [32])).1.length ≤ 12)
def outF (s : ByteArray) : List ByteArray := if okB s then (scan (s.data.toList ++ [32])).1 else []

theorem blocks_ne {w : World} {b b' n n' : Nat} {e e' : TypeId} {v v' : Value} {xs ys : List Value} (h : w.ownsRow b e 1 v n xs) (h' : w.ownsRow b' e' 1 v' n' ys) (hne : e ≠ e') : v.ownBlock = none ∨ v.ownBlock ≠ v'.ownBlock := by
  rcases h.2 with ⟨rfl, _⟩ | ⟨g, c, cur, rfl, _, hg, _⟩
  · exact .inl rfl
  · refine .inr fun he => ?_
    rcases h'.2 with ⟨rfl, _⟩ | ⟨g', c', cur', rfl, _, hg', _⟩
    · cases he
    · have : g = g' := by simpa [Value.ownBlock] using he
      subst this
      rw [hg] at hg'
      injection hg' with hg'
      injection hg' with _ ht
      exact hne ht

theorem row_cut {w : World} {base g n c : Nat} {e : TypeId} {xs : List Value} (h : w.ownsRow base e 1 (.slice (some ⟨g, 0, none⟩) n c) n xs) : w.ownsRow base e 1 (.slice (some ⟨g, 0, none⟩) 0 c) 0 [] := by
  rcases h.2 with ⟨h', _⟩ | ⟨g', cap', cur, h', hb, hg, hnc, hcm, hcs, _⟩
  · simp at h'
  · simp only [Value.slice.injEq, Option.some.injEq, Addr.mk.injEq, and_true, true_and] at h'
    obtain ⟨rfl, rfl⟩ := h'
    exact ⟨by simp, .inr ⟨g, c, cur, rfl, hb, hg, Nat.zero_le _, hcm, hcs, by simp⟩⟩

set_option maxHeartbeats 1000000 in
theorem withField_any (g n c g2 m d b : Nat) (xs : List ByteArray) (cur : List UInt8) (w : World) (hn : n ≤ 1000) (hm : m ≤ 1000)
    (h1 : w.ownsRow b 9 1 (.slice (some ⟨g, 0, none⟩) n c) n (scells xs)) (h2 : w.ownsRow b 5 1 (.slice (some ⟨g2, 0, none⟩) m d) m (bcells cur)) (hb : b ≤ w.heap.size) :
    Calls Try.prog 21 #[.slice (some ⟨g, 0, none⟩) n c, .slice (some ⟨g2, 0, none⟩) m d] w fun e w' =>
      ∃ g' c', e = .returned (.slice (some ⟨g', 0, none⟩) (flush xs cur).length c') ∧ w'.ownsRow b 9 1 (.slice (some ⟨g', 0, none⟩) (flush xs cur).length c') (flush xs cur).length (scells (flush xs cur)) ∧
        w.grownBy w' (some g) := by
  obtain ⟨i0, hi0, hz0, hz1, hz2⟩ := info_parts Try.info9
  have hxl : n = xs.length := by have := h1.1; rw [scells_len] at this; omega
  have hcl : m = cur.length := by have := h2.1; rw [bcells_len] at this; omega
  subst hxl hcl
  by_cases h0 : cur = []
  · subst h0
    rw [flush_nil]
    go_enter Try.func21, Try.ntmps21
    go_wp2
    go_ret
    exact ⟨g, c, rfl, h1, World.grownBy.refl _ _⟩
  · have hl0 : 0 < cur.length := List.length_pos_iff.2 h0
    have hcv := convert_own (src := 32) (dst := 9) Try.underlying32 Try.underlying5 Try.underlying9 h2
    rw [flush_cons xs cur h0]
    generalize (⟨cur.toArray⟩ : ByteArray) = x at *
    generalize cur.length = m at *
    go_enter Try.func21, Try.ntmps21
    go_wp2_with (at_builtin; refine wpList_append_lies _ rfl _ _ 25 rfl b 9 i0 _ 1 16 Try.underlying25 hi0 hz0 hz1 hz2 rfl (by omega) (.slice (some ⟨g, 0, none⟩) xs.length c) xs.length _ rfl (h1.alloc _) ⟨w.heap.size, 0, none⟩ 1 1 [.string x] rfl rfl (World.news_of_block (heap_alloc_new w _)) (by simp [Value.oneCell']) (by omega) (by simp only [maxLen]; omega) (by omega) (by simp; omega) (w.heap.size + 1) (by simp) ?_; intro g' cap w1 hown1 hgrow hat hg1)
    go_ret
    refine ⟨g', cap, by simp, ?_, ?_⟩
    · have e1 : (xs ++ [x]).length = xs.length + 1 := by simp
      rw [e1]
      simpa [scells] using hown1
    · exact grown_trans (World.grownBy_alloc w _ _) hgrow

theorem impl_long (s : ByteArray) (w : World) (hs : 600 < s.size) :
    Calls Try.prog 12 #[.string s] w fun e w' => ∃ A c, e = .returned (.tuple #[.slice A (outF s).length c, .bool (okB s)]) ∧ w'.ownsRow w.heap.size 9 1 (.slice A (outF s).length c) (outF s).length (scells (outF s)) ∧ Below w.heap.size w w' := by
  have h1 : okB s = false := by unfold okB; simp; omega
  have h2 : outF s = [] := by unfold outF; rw [h1]; rfl
  rw [h1, h2]
  clear h1 h2
  go_enter Try.func12, Try.ntmps12
  go_wp2
  go_step3
  go_wp2
  try rw [Exit.noGoto_ret]
  go_ret2
  exact ⟨none, 0, rfl, World.ownsRow_nil _ _ _ _, Below.refl _ _⟩

theorem ans_bad (s : ByteArray) (k : Nat) (hk : k < s.size) (h : okByte s[k] = false) : okB s = false ∧ outF s = [] := by
  have h1 : okB s = false := by
    unfold okB
    have : s.data.toList.all okByte = false := List.all_eq_false.2 ⟨s[k], by
      have hk' : k < s.data.toList.length := by simpa using hk
      exact List.mem_of_getElem (h := hk') rfl, by rw [h]; simp⟩
    rw [this]; simp
  exact ⟨h1, by unfold outF; rw [h1]; rfl⟩
theorem ans_len (s : ByteArray) (D : List ByteArray) (C : List UInt8) (hsc : scan s.data.toList = (D, C)) (h : 12 < (flush D C).length) : okB s = false ∧ outF s = [] := by
  have h1 : okB s = false := by
    unfold okB
    rw [scan_snoc, hsc]
    have : decide ((stepP (D, C) 32).1.length ≤ 12) = false := by simp [stepP]; omega
    rw [this]; simp
  exact ⟨h1, by unfold outF; rw [h1]; rfl⟩
theorem ans_good (s : ByteArray) (D : List ByteArray) (C : List UInt8) (hs : s.size ≤ 600) (hsc : scan s.data.toList = (D, C)) (ha : s.data.toList.all okByte = true) (h : (flush D C).length ≤ 12) : okB s = true ∧ outF s = flush D C := by
  have h1 : okB s = true := by
    unfold okB
    rw [scan_snoc, hsc, ha]
    simp [stepP, hs, h]
  exact ⟨h1, by unfold outF; rw [h1, scan_snoc, hsc]; simp [stepP]⟩

def rel (s : ByteArray) (w : World) (p f v i : Value) (wr : World) : Prop :=
  ∃ (k g c g2 d : Nat) (D : List ByteArray) (C : List UInt8), k ≤ s.size ∧ i = .int .i64 k ∧ v = .bool true ∧ p = .slice (some ⟨g, 0, none⟩) D.length c ∧ f = .slice (some ⟨g2, 0, none⟩) C.length d ∧
    scan (s.data.toList.take k) = (D, C) ∧ wr.ownsRow w.heap.size 9 1 (.slice (some ⟨g, 0, none⟩) D.length c) D.length (scells D) ∧ wr.ownsRow w.heap.size 5 1 (.slice (some ⟨g2, 0, none⟩) C.length d) C.length (bcells C) ∧
    (s.data.toList.take k).all okByte = true ∧ Below w.heap.size w wr

set_option maxHeartbeats 2000000 in
theorem impl_short (s : ByteArray) (w : World) (hs : s.size ≤ 600) :
    Calls Try.prog 12 #[.string s] w fun e w' => ∃ A c, e = .returned (.tuple #[.slice A (outF s).length c, .bool (okB s)]) ∧ w'.ownsRow w.heap.size 9 1 (.slice A (outF s).length c) (outF s).length (scells (outF s)) ∧ Below w.heap.size w w' := by
  obtain ⟨i0, hi0, hz0, hz1, hz2⟩ := info_parts Try.info5
  go_enter Try.func12, Try.ntmps12
  go_wp2
  go_step3
  go_wp2
  go_step3
  go_wp2
  go_loopw [4, 5, 6, 16] (fun p f v i wr => rel s w p f v i wr) (fun _ _ _ i _ => s.size - (intOf i).toNat)
  case atStart =>
    exact ⟨0, w.heap.size, 0, w.heap.size + 1, 0, [], [], Nat.zero_le _, rfl, rfl, rfl, rfl, rfl, (World.ownsRow_made w #[] 0 (Nat.le_refl _) (Nat.zero_le _) rfl).alloc _,
      by simpa [bcells] using World.ownsRow_made (base := w.heap.size) (e := 5) (size := 1) (w.alloc (.cells #[] 9)) #[] 0 (by simp) (Nat.zero_le _) rfl, rfl, ((Below.refl _ _).alloc (Nat.le_refl _) _).alloc (by simp) _⟩
  case round =>
    obtain ⟨k, g, c, g2, d, D, C, hk, rfl, rfl, rfl, rfl, hsc, hown1, hown2, hall, hb⟩ := hrel
    have hlen := scan_len (s.data.toList.take k) k (List.length_take_le _ _)
    rw [hsc] at hlen
    simp only at hlen
    obtain ⟨hl1, hl2⟩ := hlen
    have HS := Lib.hid hsc
    have HA := Lib.hid hall
    have hbs := hb.size
    clear hsc hall
    by_cases hlt : k < s.size
    · have hi0' : (0 : Int) ≤ (k : Int) := Int.natCast_nonneg _
      have hi1 : (k : Int) < (s.size : Int) := by omega
      have hb1 := s[k].toNat_lt
      by_cases hbad : s[k].toNat < 32 ∨ 126 < s[k].toNat
      · obtain ⟨ho1, ho2⟩ := ans_bad s k hlt (by unfold okByte; simp; omega)
        have HO1 := Lib.hid ho1
        have HO2 := Lib.hid ho2
        clear ho1 ho2
        rcases hbad with hbad | hbad
        · go_wp2_with (go_at_call 21; refine (withField_any g D.length c g2 C.length d w.heap.size D C _ (by omega) (by omega) hown1 hown2 hbs).mono ?_; rintro e w1 ⟨g', c', rfl, hown3, hgr⟩)
          try rw [Exit.noGoto_ret]
          go_ret2
          rw [HO1.out, HO2.out]
          exact ⟨none, 0, rfl, World.ownsRow_nil _ _ _ _, hb.grown hgr hbs (fun j hj => (hown1.lt j hj).1)⟩
        · have hbad2 : ¬ s[k].toNat < 32 := by omega
          go_wp2_with (go_at_call 21; refine (withField_any g D.length c g2 C.length d w.heap.size D C _ (by omega) (by omega) hown1 hown2 hbs).mono ?_; rintro e w1 ⟨g', c', rfl, hown3, hgr⟩)
          try rw [Exit.noGoto_ret]
          go_ret2
          rw [HO1.out, HO2.out]
          exact ⟨none, 0, rfl, World.ownsRow_nil _ _ _ _, hb.grown hgr hbs (fun j hj => (hown1.lt j hj).1)⟩
      · have hok1 : ¬ s[k].toNat < 32 := by omega
        have hok2 : ¬ 126 < s[k].toNat := by omega
        have hall' : Hid ((s.data.toList.take (k + 1)).all okByte = true) := by
          apply Lib.hid
          rw [take_snoc s k hlt, List.all_append, HA.out]
          simp [okByte]; omega
        by_cases hsp : s[k].toNat = 32
        · have hsp1 : ((s[k].toNat : Int) == 32) = true := by simp; omega
          have hsn : Hid (scan (s.data.toList.take (k + 1)) = (flush D C, [])) := by
            apply Lib.hid
            rw [take_snoc s k hlt, scan_snoc, HS.out]
            have : s[k] = 32 := UInt8.toNat_inj.1 hsp
            rw [this]; rfl
          clear hsp
          go_wp2_with (go_at_call 21; refine (withField_any g D.length c g2 C.length d w.heap.size D C _ (by omega) (by omega) hown1 hown2 hbs).mono ?_; rintro e w1 ⟨g', c', rfl, hown3, hgr⟩)
          have hf1 : w1.ownsRow w.heap.size 5 1 (.slice (some ⟨g2, 0, none⟩) 0 d) 0 (bcells []) := row_cut (hown2.kept hgr (blocks_ne hown2 hown1 (by decide)))
          have hbw : Below w.heap.size w w1 := hb.grown hgr hbs (fun j hj => (hown1.lt j hj).1)
          go_roundw
          case rel => exact ⟨k + 1, g', c', g2, d, flush D C, [], by omega, by go_num, rfl, rfl, rfl, hsn.out, hown3, hf1, hall'.out, hbw⟩
          case measure => simp [intOf]; omega
        · have hsp1 : ((s[k].toNat : Int) == 32) = false := by simp; omega
          have hsn : Hid (scan (s.data.toList.take (k + 1)) = (D, C ++ [s[k]])) := by
            apply Lib.hid
            rw [take_snoc s k hlt, scan_snoc, HS.out]
            have : s[k] ≠ 32 := fun h => hsp (by rw [h]; rfl)
            simp [stepP, this]
          go_wp2_with (at_builtin; refine wpList_append_lies _ rfl _ _ 32 rfl w.heap.size 5 i0 _ 1 1 Try.underlying32 hi0 hz0 hz1 hz2 rfl (by omega) (.slice (some ⟨g2, 0, none⟩) C.length d) C.length _ rfl (hown2.alloc _) ⟨wr.heap.size, 0, none⟩ 1 1 [.int .u8 s[k].toNat] rfl rfl (World.news_of_block (heap_alloc_new wr _)) (by simp [Value.oneCell']) (by omega) (by simp only [maxLen]; omega) (by omega) (by simp; omega) (wr.heap.size + 1) (by simp) ?_; intro g' cap w1 hown3 hgrow hat hg1)
          have hp1 := (hown1.alloc (.cells #[.int .u8 s[k].toNat] 5)).kept hgrow (blocks_ne hown1 hown2 (by decide))
          have hbw : Below w.heap.size w w1 := (hb.alloc hbs _).grown hgrow (by simp; omega) (fun j hj => (hown2.lt j hj).1)
          have hf1 : w1.ownsRow w.heap.size 5 1 (.slice (some ⟨g', 0, none⟩) (C ++ [s[k]]).length cap) (C ++ [s[k]]).length (bcells (C ++ [s[k]])) := by
            rw [bcells_append, List.length_append]; exact hown3
          go_roundw
          case rel => exact ⟨k + 1, g, c, g', cap, D, C ++ [s[k]], by omega, by go_num, rfl, rfl, by simp, hsn.out, hp1, hf1, hall'.out, hbw⟩
          case measure => simp [intOf]; omega
    · have hke : s.data.toList.take k = s.data.toList := take_all s k (by omega)
      have hs1 := HS.out
      have ha1 := HA.out
      rw [hke] at hs1 ha1
      have hfl := flush_len D C
      by_cases h12 : 12 < (flush D C).length
      · obtain ⟨ho1, ho2⟩ := ans_len s D C hs1 h12
        have HO1 := Lib.hid ho1
        have HO2 := Lib.hid ho2
        clear ho1 ho2 hke hs1 ha1
        go_wp2_with (go_at_call 21; refine (withField_any g D.length c g2 C.length d w.heap.size D C _ (by omega) (by omega) hown1 hown2 hbs).mono ?_; rintro e w1 ⟨g', c', rfl, hown3, hgr⟩)
        try rw [Exit.noGoto_ret]
        go_ret2
        rw [HO1.out, HO2.out]
        exact ⟨none, 0, rfl, World.ownsRow_nil _ _ _ _, hb.grown hgr hbs (fun j hj => (hown1.lt j hj).1)⟩
      · obtain ⟨ho1, ho2⟩ := ans_good s D C hs hs1 ha1 (by omega)
        have HO1 := Lib.hid ho1
        have HO2 := Lib.hid ho2
        clear ho1 ho2 hke hs1 ha1
        go_wp2_with (go_at_call 21; refine (withField_any g D.length c g2 C.length d w.heap.size D C _ (by omega) (by omega) hown1 hown2 hbs).mono ?_; rintro e w1 ⟨g', c', rfl, hown3, hgr⟩)
        try rw [Exit.noGoto_ret]
        go_ret2
        rw [HO1.out, HO2.out]
        exact ⟨some ⟨g', 0, none⟩, c', rfl, hown3, hb.grown hgr hbs (fun j hj => (hown1.lt j hj).1)⟩

def ext (s : ByteArray) : List UInt8 := s.data.toList ++ [32]
theorem ext_len (s : ByteArray) : (ext s).length = s.size + 1 := by simp [ext]
theorem ext_le (s : ByteArray) (k : Nat) (h : k ≤ s.size) : (ext s).take k = s.data.toList.take k := by
  unfold ext; rw [List.take_append_of_le_length (by simpa using h)]
theorem ext_lt (s : ByteArray) (k : Nat) (h : k < s.size) : (ext s).take (k + 1) = (ext s).take k ++ [s[k]] := by
  rw [ext_le s (k + 1) h, ext_le s k (by omega), take_snoc s k h]
theorem ext_end (s : ByteArray) : (ext s).take (s.size + 1) = (ext s).take s.size ++ [32] := by
  rw [List.take_of_length_le (by rw [ext_len]; exact Nat.le_refl _), ext_le s s.size (Nat.le_refl _), take_all s s.size (Nat.le_refl _)]; rfl
theorem ext_take_len (s : ByteArray) (k : Nat) (h : k ≤ s.size + 1) : ((ext s).take k).length = k := by rw [List.length_take, ext_len]; omega
theorem ext_drop (s : ByteArray) (k : Nat) (h : k ≤ s.size + 1) : ((ext s).take k).drop k = [] := List.drop_of_length_le (by rw [ext_take_len s k h]; exact Nat.le_refl _)
theorem row_flush {w1 : World} {base g' cap : Nat} {e : TypeId} {D : List ByteArray} {x : ByteArray} {C : List UInt8} (h : w1.ownsRow base e 1 (.slice (some ⟨g', 0, none⟩) (D.length + 1) cap) (D.length + 1) (scells D ++ [.string x])) (hx : x = ⟨C.toArray⟩) (hC : C ≠ []) :
    w1.ownsRow base e 1 (.slice (some ⟨g', 0, none⟩) (flush D C).length cap) (flush D C).length (scells (flush D C)) := by
  rw [flush_cons D C hC, ← hx, List.length_append]
  simpa [scells] using h
theorem ext_part (s : ByteArray) (b k : Nat) (h : k ≤ s.size) : s.extract b k = ⟨(((ext s).take k).drop b).toArray⟩ := by
  apply ByteArray.ext
  apply Array.toList_inj.1
  rw [ext_le s k h]
  simp [ByteArray.data_extract, Array.toList_extract, List.drop_take]

theorem spec_long (s : ByteArray) (w : World) (hs : 600 < s.size) :
    Calls Try.prog 11 #[.string s] w fun e w' => ∃ A c, e = .returned (.tuple #[.slice A (outF s).length c, .bool (okB s)]) ∧ w'.ownsRow w.heap.size 9 1 (.slice A (outF s).length c) (outF s).length (scells (outF s)) ∧ Below w.heap.size w w' := by
  have h1 : okB s = false := by unfold okB; simp; omega
  have h2 : outF s = [] := by unfold outF; rw [h1]; rfl
  rw [h1, h2]
  clear h1 h2
  go_enter Try.func11, Try.ntmps11
  go_wp2
  go_ret2
  exact ⟨some ⟨w.heap.size, 0, none⟩, 0, rfl, World.ownsRow_made w #[] 0 (Nat.le_refl _) (Nat.zero_le _) rfl, (Below.refl _ _).alloc (Nat.le_refl _) _⟩

def relS (s : ByteArray) (w : World) (p b i : Value) (wr : World) : Prop :=
  ∃ (k bg g c : Nat) (D : List ByteArray), k ≤ s.size + 1 ∧ bg ≤ k ∧ i = .int .i64 k ∧ b = .int .i64 bg ∧ p = .slice (some ⟨g, 0, none⟩) D.length c ∧
    scan ((ext s).take k) = (D, ((ext s).take k).drop bg) ∧ wr.ownsRow w.heap.size 9 1 (.slice (some ⟨g, 0, none⟩) D.length c) D.length (scells D) ∧
    (s.data.toList.take k).all okByte = true ∧ Below w.heap.size w wr

set_option maxHeartbeats 2000000 in
theorem spec_short (s : ByteArray) (w : World) (hs : s.size ≤ 600) :
    Calls Try.prog 11 #[.string s] w fun e w' => ∃ A c, e = .returned (.tuple #[.slice A (outF s).length c, .bool (okB s)]) ∧ w'.ownsRow w.heap.size 9 1 (.slice A (outF s).length c) (outF s).length (scells (outF s)) ∧ Below w.heap.size w w' := by
  obtain ⟨i0, hi0, hz0, hz1, hz2⟩ := info_parts Try.info9
  go_enter Try.func11, Try.ntmps11
  go_wp2
  go_loopw [4, 5, 6] (fun p b i wr => relS s w p b i wr) (fun _ _ i _ => s.size + 1 - (intOf i).toNat)
  case atStart =>
    exact ⟨0, 0, w.heap.size, 0, [], Nat.zero_le _, Nat.zero_le _, rfl, rfl, rfl, rfl, World.ownsRow_made w #[] 0 (Nat.le_refl _) (Nat.zero_le _) rfl, rfl, (Below.refl _ _).alloc (Nat.le_refl _) _⟩
  case round =>
    obtain ⟨k, bg, g, c, D, hk, hbk, rfl, rfl, rfl, hsc, hown1, hall, hb⟩ := hrel
    have hlen := scan_len ((ext s).take k) k (List.length_take_le _ _)
    rw [hsc] at hlen
    simp only at hlen
    obtain ⟨hl1, _⟩ := hlen
    have HS := Lib.hid hsc
    have HA := Lib.hid hall
    have hbs := hb.size
    clear hsc hall
    by_cases hle : k ≤ s.size
    · have hst : (scan ((ext s).take k ++ [32])) = (flush D (((ext s).take k).drop bg), []) := by rw [scan_snoc, HS.out]; rfl
      have hdl : (((ext s).take k).drop bg).length = k - bg := by rw [List.length_drop, ext_take_len s k hk]
      have hpart := ext_part s bg k hle
      have HST := Lib.hid hst
      have HPT := Lib.hid hpart
      have hd0 : bg < k → ((ext s).take k).drop bg ≠ [] := fun h h0 => by rw [h0] at hdl; simp at hdl; omega
      have hd1 : ¬ bg < k → ((ext s).take k).drop bg = [] := fun h => List.eq_nil_of_length_eq_zero (by omega)
      have HD0 := Lib.hid hd0
      have HD1 := Lib.hid hd1
      clear hst hpart hdl hd0 hd1
      by_cases hlt : k < s.size
      · have hi0' : (0 : Int) ≤ (k : Int) := Int.natCast_nonneg _
        have hi1 : (k : Int) < (s.size : Int) := by omega
        have hb1 := s[k].toNat_lt
        by_cases hbad : s[k].toNat < 32 ∨ 126 < s[k].toNat
        · obtain ⟨ho1, ho2⟩ := ans_bad s k hlt (by unfold okByte; simp; omega)
          have HO1 := Lib.hid ho1
          have HO2 := Lib.hid ho2
          clear ho1 ho2
          rcases hbad with hbad | hbad
          · go_wp2
            go_ret2
            rw [HO1.out, HO2.out]
            exact ⟨some ⟨wr.heap.size, 0, none⟩, 0, rfl, World.ownsRow_made wr #[] 0 hbs (Nat.zero_le _) rfl, hb.alloc hbs _⟩
          · have hbad2 : ¬ s[k].toNat < 32 := by omega
            go_wp2
            go_ret2
            rw [HO1.out, HO2.out]
            exact ⟨some ⟨wr.heap.size, 0, none⟩, 0, rfl, World.ownsRow_made wr #[] 0 hbs (Nat.zero_le _) rfl, hb.alloc hbs _⟩
        · have hok1 : ¬ s[k].toNat < 32 := by omega
          have hok2 : ¬ 126 < s[k].toNat := by omega
          have hall' : Hid ((s.data.toList.take (k + 1)).all okByte = true) := by
            apply Lib.hid
            rw [take_snoc s k hlt, List.all_append, HA.out]
            simp [okByte]; omega
          by_cases hsp : s[k].toNat = 32
          · have hsp1 : ((s[k].toNat : Int) == 32) = true := by simp; omega
            have hsp2 : ((s[k].toNat : Int) != 32) = false := by simp; omega
            have hsb : s[k] = 32 := UInt8.toNat_inj.1 hsp
            have hsn : Hid (scan ((ext s).take (k + 1)) = (flush D (((ext s).take k).drop bg), ((ext s).take (k + 1)).drop (k + 1))) := by
              apply Lib.hid
              rw [ext_drop s (k + 1) (by omega), ext_lt s k hlt, hsb, HST.out]
            clear hsp hsb
            by_cases hbg : bg < k
            · go_wp2_with (at_builtin; refine wpList_append_lies _ rfl _ _ 25 rfl w.heap.size 9 i0 _ 1 16 Try.underlying25 hi0 hz0 hz1 hz2 rfl (by omega) (.slice (some ⟨g, 0, none⟩) D.length c) D.length _ rfl (hown1.alloc _) ⟨wr.heap.size, 0, none⟩ 1 1 [.string (s.extract bg k)] rfl rfl (World.news_of_block (heap_alloc_new wr _)) (by simp [Value.oneCell']) (by omega) (by simp only [maxLen]; omega) (by omega) (by simp; omega) (wr.heap.size + 1) (by simp) ?_; intro g' cap w1 hown3 hgrow hat hg1)
              have hp1 := row_flush hown3 HPT.out (HD0.out hbg)
              have hfl : Hid ((flush D (((ext s).take k).drop bg)).length = D.length + 1) := by
                apply Lib.hid
                rw [flush_cons _ _ (HD0.out hbg), List.length_append]; rfl
              have hbw : Below w.heap.size w w1 := (hb.alloc hbs _).grown hgrow (by simp; omega) (fun j hj => (hown1.lt j hj).1)
              go_roundw
              case rel => exact ⟨k + 1, k + 1, g', cap, flush D (((ext s).take k).drop bg), by omega, Nat.le_refl _, by go_num, by go_num, by rw [hfl.out], hsn.out, hp1, hall'.out, hbw⟩
              case measure => simp [intOf]; omega
            · go_wp2
              have hfl : flush D (((ext s).take k).drop bg) = D := by rw [HD1.out hbg, flush_nil]
              have hsn2 := hsn.out
              rw [hfl] at hsn2
              go_roundw
              case rel => exact ⟨k + 1, k + 1, g, c, D, by omega, Nat.le_refl _, by go_num, by go_num, rfl, hsn2, hown1, hall'.out, hb⟩
              case measure => simp [intOf]; omega
          · have hsp1 : ((s[k].toNat : Int) == 32) = false := by simp; omega
            have hsp2 : ((s[k].toNat : Int) != 32) = true := by simp; omega
            have hsn : Hid (scan ((ext s).take (k + 1)) = (D, ((ext s).take (k + 1)).drop bg)) := by
              apply Lib.hid
              rw [ext_lt s k hlt, scan_snoc, HS.out, List.drop_append_of_le_length (by rw [ext_take_len s k (by omega)]; exact hbk)]
              have : s[k] ≠ 32 := fun h => hsp (by rw [h]; rfl)
              simp [stepP, this]
            go_wp2
            go_roundw
            case rel => exact ⟨k + 1, bg, g, c, D, by omega, by omega, by go_num, rfl, rfl, hsn.out, hown1, hall'.out, hb⟩
            case measure => simp [intOf]; omega
      · obtain rfl : k = s.size := by omega
        have hall' : Hid ((s.data.toList.take (s.size + 1)).all okByte = true) := by
          apply Lib.hid
          have := HA.out
          rw [take_all s s.size (Nat.le_refl _)] at this
          rw [take_all s (s.size + 1) (by omega)]; exact this
        have hsn : Hid (scan ((ext s).take (s.size + 1)) = (flush D (((ext s).take s.size).drop bg), ((ext s).take (s.size + 1)).drop (s.size + 1))) := by
          apply Lib.hid
          rw [ext_drop s (s.size + 1) (by omega), ext_end s, HST.out]
        by_cases hbg : bg < s.size
        · go_wp2_with (at_builtin; refine wpList_append_lies _ rfl _ _ 25 rfl w.heap.size 9 i0 _ 1 16 Try.underlying25 hi0 hz0 hz1 hz2 rfl (by omega) (.slice (some ⟨g, 0, none⟩) D.length c) D.length _ rfl (hown1.alloc _) ⟨wr.heap.size, 0, none⟩ 1 1 [.string (s.extract bg s.size)] rfl rfl (World.news_of_block (heap_alloc_new wr _)) (by simp [Value.oneCell']) (by omega) (by simp only [maxLen]; omega) (by omega) (by simp; omega) (wr.heap.size + 1) (by simp) ?_; intro g' cap w1 hown3 hgrow hat hg1)
          have hp1 := row_flush hown3 HPT.out (HD0.out hbg)
          have hfl : Hid ((flush D (((ext s).take s.size).drop bg)).length = D.length + 1) := by
            apply Lib.hid
            rw [flush_cons _ _ (HD0.out hbg), List.length_append]; rfl
          have hbw : Below w.heap.size w w1 := (hb.alloc hbs _).grown hgrow (by simp; omega) (fun j hj => (hown1.lt j hj).1)
          go_roundw
          case rel => exact ⟨s.size + 1, s.size + 1, g', cap, flush D (((ext s).take s.size).drop bg), by omega, Nat.le_refl _, by go_num, by go_num, by rw [hfl.out], hsn.out, hp1, hall'.out, hbw⟩
          case measure => simp [intOf]
        · go_wp2
          have hfl : flush D (((ext s).take s.size).drop bg) = D := by rw [HD1.out hbg, flush_nil]
          have hsn2 := hsn.out
          rw [hfl] at hsn2
          go_roundw
          case rel => exact ⟨s.size + 1, s.size + 1, g, c, D, by omega, Nat.le_refl _, by go_num, by go_num, rfl, hsn2, hown1, hall'.out, hb⟩
          case measure => simp [intOf]
    · have hke : (ext s).take k = s.data.toList ++ [32] := List.take_of_length_le (by rw [ext_len]; omega)
      have hka : s.data.toList.take k = s.data.toList := take_all s k (by omega)
      have hs1 := HS.out
      have ha1 := HA.out
      rw [hke] at hs1
      rw [hka] at ha1
      obtain ⟨D', C', hs2⟩ : ∃ D' C', scan s.data.toList = (D', C') := ⟨_, _, rfl⟩
      have hD : flush D' C' = D := by
        rw [scan_snoc, hs2] at hs1
        exact congrArg Prod.fst hs1
      subst hD
      clear hke hka hs1
      by_cases h12 : 12 < (flush D' C').length
      · obtain ⟨ho1, ho2⟩ := ans_len s D' C' hs2 h12
        have HO1 := Lib.hid ho1
        have HO2 := Lib.hid ho2
        clear ho1 ho2 hs2 ha1
        go_wp2
        go_ret2
        rw [HO1.out, HO2.out]
        exact ⟨some ⟨wr.heap.size, 0, none⟩, 0, rfl, World.ownsRow_made wr #[] 0 hbs (Nat.zero_le _) rfl, hb.alloc hbs _⟩
      · obtain ⟨ho1, ho2⟩ := ans_good s D' C' hs hs2 ha1 (by omega)
        have HO1 := Lib.hid ho1
        have HO2 := Lib.hid ho2
        clear ho1 ho2 hs2 ha1
        go_wp2
        go_ret2
        rw [HO1.out, HO2.out]
        exact ⟨some ⟨g, 0, none⟩, c, rfl, hown1, hb⟩
end Go.Proofs.Ytocnhnhklpfdgaa.fnExactPartsOf
