/-
  For every slice of bytes the law FnFigures returns true: at the numbers drawn from it Unhex gives back what Hex took, ReadDecimal what Decimal took, and Brought lies in its range and is its own clamp; the variables of strconv and math/bits that the row lists are tied to the program's text by the given card (over the pruned copy of the project that the seat holds). No other condition.
-/
import Derived.Test.YtocnhnhklpfdgaaDoorCards
import Derived.Test.YtocnhnhklpfdgaaDoorTie
import Derived.Test.YtocnhnhklpfdgaaDoorReadImpl
import Derived.Test.YtocnhnhklpfdgaaDoorPlaces
import Derived.Test.YtocnhnhklpfdgaaDoorCode
import Derived.Test.YtocnhnhklpfdgaaDoorHexImpl
import Derived.Test.YtocnhnhklpfdgaaDoorUnhexImpl
import Derived.Test.YtocnhnhklpfdgaaDoorHexBack
import Derived.Test.YtocnhnhklpfdgaaDoorBroughtImpl
import Derived.Deep.DeepHandedRow
import Derived.Deep.DeepWitnessRowRef
import Derived.Deep.RegionHeld3
import Derived.Lay
namespace Go.Proofs.YtocnhnhklpfdgaaDoor.fnFigures
open Go.ChangeShapes Go.WideShapes Go.ChangeAt Go.RowKit
open Go.Proofs.YtocnhnhklpfdgaaDoor.Base Go.Proofs.YtocnhnhklpfdgaaDoor.ReadW Go.Proofs.YtocnhnhklpfdgaaDoor.Draw
set_option linter.unusedVariables false

theorem list12 {l : List Int} (h : l.length = 12) : ∃ p0 p1 p2 p3 p4 p5 p6 p7 p8 p9 p10 p11, l = [p0, p1, p2, p3, p4, p5, p6, p7, p8, p9, p10, p11] := by
  rcases l with _ | ⟨p0, l⟩; · simp at h
  rcases l with _ | ⟨p1, l⟩; · simp at h
  rcases l with _ | ⟨p2, l⟩; · simp at h
  rcases l with _ | ⟨p3, l⟩; · simp at h
  rcases l with _ | ⟨p4, l⟩; · simp at h
  rcases l with _ | ⟨p5, l⟩; · simp at h
  rcases l with _ | ⟨p6, l⟩; · simp at h
  rcases l with _ | ⟨p7, l⟩; · simp at h
  rcases l with _ | ⟨p8, l⟩; · simp at h
  rcases l with _ | ⟨p9, l⟩; · simp at h
  rcases l with _ | ⟨p10, l⟩; · simp at h
  rcases l with _ | ⟨p11, l⟩; · simp at h
  have : l = [] := by simpa using h
  subst this
  exact ⟨p0, p1, p2, p3, p4, p5, p6, p7, p8, p9, p10, p11, rfl⟩

/-- The eight numbers that the law looks at lie in block g. -/
structure Eight (w : World) (g : Nat) (p0 p1 p2 p3 p4 p5 p6 p7 : Int) : Prop where
  lt : g < w.heap.size
  c0 : w.cell? ⟨g, 0, none⟩ = some (.int .i64 p0)
  c1 : w.cell? ⟨g, 1, none⟩ = some (.int .i64 p1)
  c2 : w.cell? ⟨g, 2, none⟩ = some (.int .i64 p2)
  c3 : w.cell? ⟨g, 3, none⟩ = some (.int .i64 p3)
  c4 : w.cell? ⟨g, 4, none⟩ = some (.int .i64 p4)
  c5 : w.cell? ⟨g, 5, none⟩ = some (.int .i64 p5)
  c6 : w.cell? ⟨g, 6, none⟩ = some (.int .i64 p6)
  c7 : w.cell? ⟨g, 7, none⟩ = some (.int .i64 p7)
theorem Eight.below {w w' : World} {g : Nat} {p0 p1 p2 p3 p4 p5 p6 p7 : Int} (h : Eight w g p0 p1 p2 p3 p4 p5 p6 p7) (hb : Below w.heap.size w w') : Eight w' g p0 p1 p2 p3 p4 p5 p6 p7 :=
  ⟨Nat.lt_of_lt_of_le h.lt hb.size, (hb.cell h.lt).trans h.c0, (hb.cell h.lt).trans h.c1, (hb.cell h.lt).trans h.c2, (hb.cell h.lt).trans h.c3, (hb.cell h.lt).trans h.c4, (hb.cell h.lt).trans h.c5, (hb.cell h.lt).trans h.c6, (hb.cell h.lt).trans h.c7⟩

theorem big_any (A : Option Addr) (n c : Nat) (w : World) (hn : n ≤ 9223372036854775807) :
    Calls Tryd.prog 6 #[.slice A n c] w fun e w' => e = .returned (.bool (decide (1048576 < n))) ∧ w = w' := by
  by_cases h : 1048576 < n
  · rw [decide_eq_true h]
    go_enter Tryd.func6, Tryd.ntmps6
    go_wp2
    go_ret
    exact ⟨by simp; omega, rfl⟩
  · rw [decide_eq_false h]
    go_enter Tryd.func6, Tryd.ntmps6
    go_wp2
    go_ret
    exact ⟨by simp; omega, rfl⟩

theorem brought_same (n l m : Int) (w : World) : Calls Tryd.prog 12 #[.int .i64 n, .int .i64 l, .int .i64 m] w fun e w' => e = .returned (.int .i64 (BroughtW.brought n l m)) ∧ w' = w :=
  (BroughtW.impl_any n l m w).mono fun _ _ ⟨he, hw⟩ => ⟨he, hw.symm⟩
theorem brought_bd (n l m : Int) (h : l ≤ m) : l ≤ BroughtW.brought n l m ∧ BroughtW.brought n l m ≤ m ∧ BroughtW.brought (BroughtW.brought n l m) l m = BroughtW.brought n l m := by
  have h1 : l ≤ BroughtW.brought n l m ∧ BroughtW.brought n l m ≤ m := by
    unfold BroughtW.brought; repeat' split
    all_goals omega
  refine ⟨h1.1, h1.2, ?_⟩
  generalize BroughtW.brought n l m = b at h1 ⊢
  unfold BroughtW.brought
  rw [if_neg (by omega), if_neg (by omega)]
theorem btr {w a b : World} (h : Below w.heap.size w a) (k : Below a.heap.size a b) : Below w.heap.size w b := h.trans (k.mono h.size)
theorem conv2 {P : Program} {w : World} {src dst e : TypeId} {g : Nat} {x y : Int} (hs : P.underlying src = some (.slice e)) (he : P.underlying e = some (.int .u8)) (hd : P.underlying dst = some .string) (hx : 0 ≤ x ∧ x < 256) (hy : 0 ≤ y ∧ y < 256)
    (h : w.heap[g]? = some (.cells #[.int .u8 x, .int .u8 y] e (0, 0))) : (convert src dst (.slice (some ⟨g, 0, none⟩) 2 2)).run P w = .ok (.string ⟨#[UInt8.ofNat x.toNat, UInt8.ofNat y.toNat]⟩) w := by
  have hb : bcells [UInt8.ofNat x.toNat, UInt8.ofNat y.toNat] = [.int .u8 x, .int .u8 y] := by
    have h1 : ((x.toNat % 256 : Nat) : Int) = x := by omega
    have h2 : ((y.toNat % 256 : Nat) : Int) = y := by omega
    simp only [bcells, List.map_cons, List.map_nil, UInt8.toNat_ofNat', h1, h2]
  refine convert_own (base := 0) (n := 2) (l := [UInt8.ofNat x.toNat, UInt8.ofNat y.toNat]) hs he hd ?_
  rw [hb]
  exact ⟨rfl, .inr ⟨g, 2, #[.int .u8 x, .int .u8 y], rfl, Nat.zero_le _, h, Nat.le_refl _, by decide, rfl, rfl⟩⟩
theorem alloc_at (w : World) (o : Obj) : (w.alloc o).heap[w.heap.size]? = some o := heap_alloc_new w o

set_option maxRecDepth 100000 in
set_option maxHeartbeats 4000000 in
theorem walk (A : Option Addr) (n c : Nat) (hn : n ≤ maxLen) {w : World} (hcode : CodeAt w A n) (hF : Facts w) :
    Calls Tryd.prog 3 #[.slice A n c] w fun e w' => e = .returned (.bool true) ∧ Below w.heap.size w w' := by
  have hn' : n ≤ 9223372036854775807 := hn
  have HF := Lib.hid hF
  have HC := Lib.hid hcode
  clear hF hcode hn
  by_cases h1 : 1048576 < n
  · have cb := fun W => big_any A n c W hn'
    rw [decide_eq_true h1] at cb
    have HB := Lib.hid cb
    clear cb
    go_enter Tryd.func3, Tryd.ntmps3
    go_wp2_with (go_at_call 6; refine (HB.out _).mono ?_; rintro e w' ⟨rfl, rfl⟩)
    go_ret
    exact ⟨rfl, Below.refl _ _⟩
  · have cb := fun W => big_any A n c W hn'
    rw [decide_eq_false h1] at cb
    have HB := Lib.hid cb
    have hn2 : n ≤ 1048576 := by omega
    clear cb h1 hn'
    go_enter Tryd.func3, Tryd.ntmps3
    go_wp2_with (go_at_call 6; refine (HB.out _).mono ?_; rintro e w' ⟨rfl, rfl⟩)
    refine (places_any A n c _ hn2 HC.out).mono ?_
    rintro e w1 ⟨g, cap, l, rfl, hl, hall, hown, hb1⟩
    obtain ⟨p0, p1, p2, p3, p4, p5, p6, p7, p8, p9, p10, p11, rfl⟩ := list12 hl
    have r0 := hall p0 (by simp)
    have r1 := hall p1 (by simp)
    have r2 := hall p2 (by simp)
    have r3 := hall p3 (by simp)
    have r4 := hall p4 (by simp)
    have r5 := hall p5 (by simp)
    have r6 := hall p6 (by simp)
    have r7 := hall p7 (by simp)
    have h8 : Eight w1 g p0 p1 p2 p3 p4 p5 p6 p7 := by
      have hx : ∀ j, j < 12 → w1.cell? ⟨g, j, none⟩ = (icells [p0, p1, p2, p3, p4, p5, p6, p7, p8, p9, p10, p11])[j]? := fun j hj => hown.cellAt j (by omega)
      exact ⟨(hown.lt g rfl).2, hx 0 (by omega), hx 1 (by omega), hx 2 (by omega), hx 3 (by omega), hx 4 (by omega), hx 5 (by omega), hx 6 (by omega), hx 7 (by omega)⟩
    clear hall hown hl HC HB
    have u6 : IntKind.u8.wrap p6 = p6 % 256 := IntKind.wrap_u8 p6
    have u7 : IntKind.u8.wrap p7 = p7 % 256 := IntKind.wrap_u8 p7
    have hx6 : 0 ≤ p6 % 256 ∧ p6 % 256 < 256 := by omega
    have hx7 : 0 ≤ p7 % 256 ∧ p7 % 256 < 256 := by omega
    have cvA : ∀ W : World, (convert 22 9 (.slice (some ⟨W.heap.size, 0, none⟩) 2 2)).run Tryd.prog (W.alloc (.cells #[.int .u8 (p6 % 256), .int .u8 (p7 % 256)] 5)) = .ok (.string ⟨#[UInt8.ofNat (p6 % 256).toNat, UInt8.ofNat (p7 % 256).toNat]⟩) (W.alloc (.cells #[.int .u8 (p6 % 256), .int .u8 (p7 % 256)] 5)) :=
      fun W => conv2 Tryd.underlying22 Tryd.underlying5 Tryd.underlying9 hx6 hx7 (alloc_at W _)
    have cvB : ∀ W : World, (convert 22 9 (.slice (some ⟨W.heap.size, 0, none⟩) 2 2)).run Tryd.prog (W.alloc (.cells #[.int .u8 (p6 % 256), .int .u8 (p7 % 256)] 5)).drew = .ok (.string ⟨#[UInt8.ofNat (p6 % 256).toNat, UInt8.ofNat (p7 % 256).toNat]⟩) (W.alloc (.cells #[.int .u8 (p6 % 256), .int .u8 (p7 % 256)] 5)).drew :=
      fun W => conv2 Tryd.underlying22 Tryd.underlying5 Tryd.underlying9 hx6 hx7 (alloc_at W _)
    have HF1 := Lib.hid (HF.out.below hb1)
    have k5 := h8.c5
    have k6 := h8.c6
    have k7 := h8.c7
    have kl := h8.lt
    generalize hds : (⟨(Lib.itoa p5).toArray⟩ : ByteArray) = ds
    have cd : ∀ W : World, Laid.Pow W → Calls Tryd.prog 8 #[.int .i64 p5] W fun e w' => e = .returned (.string ds) ∧ Below W.heap.size W w' := fun W hW => hds ▸ Laid.decimal_any p5 (by omega) (by omega) W hW
    have HD := Lib.hid cd
    have HDS := Lib.hid hds
    have hdz : ds.size ≤ 10 := by
      rw [← hds]
      obtain ⟨m, hm⟩ := Int.eq_ofNat_of_zero_le r5.1
      have h2 : Lib.itoa p5 = Lib.decDigits m := by rw [hm]; exact itoa_nat m
      have h3 := digits_len m (by omega)
      show (Lib.itoa p5).toArray.size ≤ 10
      rw [h2]; simpa using h3
    have hcat : ¬ 9223372036854775807 < ds.size + 2 := by omega
    clear cd hds
    go_wp2_with fail
    refine wp_region_noPanic ?_
    go_region_held (fun w' => w'.cell? ⟨g, 5, none⟩ = some (.int .i64 p5) ∧ w'.cell? ⟨g, 6, none⟩ = some (.int .i64 p6) ∧ w'.cell? ⟨g, 7, none⟩ = some (.int .i64 p7))
      (first | exact ⟨k5, k6, k7⟩ | go_keep | (go_split_ands; refine ⟨?_, ?_, ?_⟩ <;> (rw [hb2.cell (by simp; omega)]; first | assumption | go_keep)))
      (first | (go_at_call 8; refine (HD.out _ (by first | exact HF1.out.pow | exact Laid.pow_below HF1.out.pow (((Below.refl _ _).alloc (Nat.le_refl _) _).drew))).mono ?_; rintro e w2 ⟨rfl, hb2⟩; (try have cvC := conv2 Tryd.underlying22 Tryd.underlying5 Tryd.underlying9 hx6 hx7 ((hb2.block w1.heap.size (by simp)).trans (alloc_at w1 (.cells #[.int .u8 (p6 % 256), .int .u8 (p7 % 256)] 5))))))
    all_goals refine NoPanic.normal ?_
    all_goals
      first
        | (have hbW : Below w1.heap.size w1 (w2.alloc (.cells #[.int .u8 (p6 % 256), .int .u8 (p7 % 256)] 5)) := ((Below.refl w1.heap.size w1).drew.trans hb2).alloc hb2.size _
           generalize w2.alloc (.cells #[.int .u8 (p6 % 256), .int .u8 (p7 % 256)] 5) = W at hbW ⊢)
        | (have hbW : Below w1.heap.size w1 w2 := (((Below.refl w1.heap.size w1).alloc (Nat.le_refl _) (.cells #[.int .u8 (p6 % 256), .int .u8 (p7 % 256)] 5)).drew).trans (hb2.mono (by simp))
           generalize w2 = W at hbW ⊢)
    all_goals
      clear hb2 k5 k6 k7 kl cvA cvB u6 u7
      try clear cvC
      generalize hT : (ds ++ (⟨#[UInt8.ofNat (p6 % 256).toNat, UInt8.ofNat (p7 % 256).toNat]⟩ : ByteArray) : ByteArray) = T
      have hTz : T.size ≤ 12 := by rw [← hT, ByteArray.size_append]; show ds.size + 2 ≤ 12; omega
      clear hT
      have h8W := h8.below hbW
      have HFW := Lib.hid (HF1.out.below hbW)
      generalize hHX : (⟨(HexW.hexOf T.data.toList).toArray⟩ : ByteArray) = HX
      have ch := fun V : World => HexW.impl_short T V (by omega)
      rw [hHX] at ch
      have hXz : HX.size = 2 * T.size := by rw [← hHX]; show (HexW.hexOf T.data.toList).toArray.size = _; rw [List.size_toArray, HexW.hexOf_len]; simp
      have hans : UnhexW.answer HX = .tuple #[.string T, .bool true] := by rw [← hHX, Back.answer_hex _ (by simp; omega)]
      have cu := fun V : World => UnhexW.impl_short HX V (by omega) (by omega)
      rw [hans] at cu
      have HH := Lib.hid ch
      have HU := Lib.hid cu
      have HZ := Lib.hid hXz
      clear hans ch cu hXz hHX
      go_wp2_with fail
      refine (HH.out _).mono ?_
      rintro e w3 ⟨rfl, hb3⟩
      go_wp2_with fail
      refine (HU.out _).mono ?_
      rintro e w4 ⟨rfl, hb4⟩
      have h84 := (h8W.below hb3).below hb4
      have HF4 := Lib.hid ((HFW.out.below hb3).below hb4)
      have k0 := h84.c0
      have k1 := h84.c1
      have e1 : IntKind.i64.wrap (p0 * 10000) = p0 * 10000 := IntWalk.i64_in _ (by omega)
      have e2 : IntKind.i64.wrap (p0 * 10000 + p1) = p0 * 10000 + p1 := IntWalk.i64_in _ (by omega)
      go_wp2_with fail
      go_quiet (fail)
      clear e1 e2 k0 k1
      generalize hN : p0 * 10000 + p1 = N
      have hN0 : 0 ≤ N := by omega
      have hN1 : N ≤ 1000000000 := by omega
      clear hN
      obtain ⟨M, rfl⟩ := Int.eq_ofNat_of_zero_le hN0
      have hM : M ≤ 1000000000 := by omega
      generalize hs : (⟨(Lib.itoa (M : Int)).toArray⟩ : ByteArray) = S
      have cdec := fun V (hV : Laid.Pow V) => Laid.decimal_any (M : Int) (by omega) (by omega) V hV
      rw [hs] at cdec
      have hSl : S.data.toList = Lib.itoa (M : Int) := by rw [← hs]
      have hSz : S.size ≤ 1048576 := by
        have h1 : S.data.toList.length ≤ 10 := by rw [hSl, itoa_nat]; exact digits_len M hM
        simp at h1; omega
      have hnum := some_V (numOf_of hM hSl.symm)
      have crd := fun V (hV : Facts V) => impl_any S hSz V hV
      rw [hnum.1, hnum.2] at crd
      have HCD := Lib.hid cdec
      have HCR := Lib.hid crd
      clear cdec crd hs hSl hnum
      go_wp2_with fail
      refine (HCD.out _ (Laid.pow_below HF4.out.pow (below_drewN (Below.refl _ _) _))).mono ?_
      rintro e w5 ⟨rfl, hb5⟩
      have HF5 := Lib.hid ((HF4.out.below (below_drewN (Below.refl _ _) _)).below hb5)
      have h85 := (h84.below (below_drewN (Below.refl _ _) _)).below hb5
      go_wp2_with fail
      refine (HCR.out _ HF5.out).mono ?_
      rintro e w6 ⟨rfl, hb6⟩
      have h86 := h85.below hb6
      have k2 := h86.c2
      have k3 := h86.c3
      have k4 := h86.c4
      have e3 : IntKind.i64.wrap (p2 - 5000) = p2 - 5000 := IntWalk.i64_in _ (by omega)
      have e4 : IntKind.i64.wrap (-p3) = -p3 := IntWalk.i64_in _ (by omega)
      go_wp2_with fail
      go_quiet ((go_at_call 12; exact Calls.quiet_of_same (brought_same _ _ _ _)))
      have hbb := brought_bd (p2 - 5000) (-p3) p4 (by omega)
      generalize BroughtW.brought (p2 - 5000) (-p3) p4 = bv at hbb ⊢
      obtain ⟨hbv0, hbv1, hbv2⟩ := hbb
      have cb2 := fun V : World => brought_same bv (-p3) p4 V
      rw [hbv2] at cb2
      have HCB := Lib.hid cb2
      have hb7 : Below w6.heap.size w6 (w6.drewN nq) := below_drewN (Below.refl _ _) _
      generalize w6.drewN nq = w7 at hb7 ⊢
      have h87 := h86.below hb7
      clear k2 k3 k4 e3 hbv2 cb2
      have k3 := h87.c3
      have k4 := h87.c4
      have hz1 := HZ.out
      have g1 : ((HX.size : Int) == 2 * (T.size : Int)) = true := by rw [beq_iff_eq]; omega
      have g2 : decide (-p3 ≤ bv) = true := decide_eq_true hbv0
      have g3 : decide (bv ≤ p4) = true := decide_eq_true hbv1
      have e5 : IntKind.i64.wrap (2 * (T.size : Int)) = 2 * (T.size : Int) := IntWalk.i64_in _ (by omega)
      clear hz1
      go_wp2_with fail
      go_quiet ((go_at_call 12; exact Calls.quiet_of_same (HCB.out _)))
      go_wp2_with fail
      go_ret
      exact ⟨rfl, btr (btr (btr (btr (btr (btr (btr (btr hb1 hbW) hb3) hb4) (below_drewN (Below.refl _ _) _)) hb5) hb6) hb7) (below_drewN (Below.refl _ _) _)⟩

theorem gSyn : Tryd.prog.globalNamed "strconv.ErrSyntax" = some 1 := by kernel_rfl
theorem gSynType : (Tryd.prog.globals[1]?).map (·.type) = some 39 := by kernel_rfl
theorem gRan : Tryd.prog.globalNamed "strconv.ErrRange" = some 2 := by kernel_rfl
theorem gRanType : (Tryd.prog.globals[2]?).map (·.type) = some 39 := by kernel_rfl
theorem star : "*" ++ "errors.errorString" = "*errors.errorString" := by decide
theorem errType (u : TypeId) (h : Tryd.prog.typeName? 3 u = some "*errors.errorString") : u = 75 :=
  typeName_ptr_named (nm := "errors.errorString") (by rw [star]; kernel_rfl) (by kernel_rfl) (by decide) u (by rw [star]; exact h)
theorem cellsErr : Tryd.prog.cellsOf 77 = 1 := by kernel_rfl
theorem cellsStr : Tryd.prog.cellsOf 9 = 1 := by kernel_rfl
theorem facts {W : World} (h : laidMetH Tryd.prog Rows.fnFiguresRow.laid W) : Facts W := by
  have h' : laidMet Tryd.prog Rows.fnFiguresRow.laid W := h
  have h3 := h'.tail.tail
  have h4 := h3.tail
  have h5 := h4.tail
  refine ⟨Laid.pow_of_head h3, ?_, ?_⟩
  · obtain ⟨a, _, hv, _⟩ := laid_sentinel h5 gSyn gSynType Tryd.underlying39 errType Tryd.underlying75 Tryd.underlying77 rfl rfl Tryd.underlying9 cellsErr cellsStr
    exact ⟨_, _, hv⟩
  · obtain ⟨a, _, hv, _⟩ := laid_sentinel h4 gRan gRanType Tryd.underlying39 errType Tryd.underlying75 Tryd.underlying77 rfl rfl Tryd.underlying9 cellsErr cellsStr
    exact ⟨_, _, hv⟩

/-! ### The row's step, and the card -/
theorem contract (H : Type) (enc : TypeId × Value → H) (W : World) (base : Nat) (args : Array Value) (ds gs : List (DataW H)) (before : List MemPlace)
    (hval : ∀ (j : Nat) t v, Tryd.f3.params[j]? = some t → args[j]? = some v → Value.okWide Tryd.prog W .any base t v)
    (hW : DataW.Whole enc Tryd.prog Tryd.f3.params.toList Rows.fnFiguresSpec.vars false W args.toList ds gs before) (hL : laidMetH Tryd.prog Rows.fnFiguresRow.laid W) :
    Calls Tryd.prog 3 args W fun e W' => ∃ v, e = .returned v ∧ Rows.fnFiguresSpec.post enc Tryd.prog Tryd.f3 false true false false W args v W' := by
  have hF := facts hL
  have hW' := hW
  obtain ⟨p, q, hA0, hV, rfl, hfz, hnd⟩ := hW
  have hA : DataW.TrodAll enc Tryd.prog W 0 (fun _ => true) true Tryd.f3.params.toList args.toList ds p := hA0
  rw [Tryd.params3] at hA hval
  obtain ⟨v0, vs0, d0, ds0, p0, q0, hargs, rfl, rfl, h0, r0⟩ := trodAll_cons hA
  obtain ⟨rfl, rfl, rfl⟩ := trodAll_nil r0
  obtain rfl : args = #[v0] := by cases args; simp_all
  obtain ⟨rfl, rfl⟩ := trodVars_none hV
  obtain ⟨A0, n0, c0, rfl, hn0, hcode0, back0⟩ := Draw.open_code (hval 0 22 v0 rfl rfl) h0
  clear hA0
  simp only [List.append_nil] at hW'
  refine (walk A0 n0 c0 hn0 hcode0 hF).mono fun e W' ⟨he, hg⟩ => ?_
  subst he
  exact ⟨_, rfl, Base.post_kept rfl rfl hW' hg (fun _ _ _ => (trodAll_cons_mk (shut_bool Tryd.underlying4 _) trodAll_mk0)) (fun sp hsp => by have hx := (trodAll_cons_mk (back0 W' hg sp (fun q hq => hsp q (by simp [hq]))) trodAll_mk0); simp only [List.append_nil] at hx; exact hx) (ok_one (by kernel_rfl) rfl (okWide_bool_mk Tryd.underlying4 _))⟩

theorem laid_met (os : Os) : laidMet Tryd.prog Rows.fnFiguresRow.laid ((World.laidAll Tryd.prog os Rows.fnFiguresRow.laid).forCall (fun _ _ => 0) ⟨#[], #[.slice none 0 0], []⟩).memory :=
  laidMet_laidAll _ (by kernel_rfl) (by kernel_rfl)
theorem reads (os : Os) {H : Type} (enc : TypeId × Value → H) : ∃ places, DataW.whole enc Tryd.prog ((World.laidAll Tryd.prog os Rows.fnFiguresRow.laid).forCall (fun _ _ => 0) ⟨#[], #[.slice none 0 0], []⟩).memory Tryd.f3.params.toList Rows.fnFiguresSpec.vars false #[.slice none 0 0].toList 8 = some ([.nil], [], places) :=
  ⟨[], by kernel_rfl⟩

set_option maxRecDepth 100000 in
theorem lifted (os : Os) (started : os.Started) (H : Type) (enc : TypeId × Value → H) (F : Stop.Interp) :
    ReturnsInHanded {} Tryd.checked os 3 .any ((OpenSpec.ofChange Rows.fnFiguresSpec).preRow enc Tryd.prog Tryd.f3 Rows.fnFiguresRow.domain false Rows.fnFiguresRow.laid) (((OpenSpec.ofChange Rows.fnFiguresSpec).at F).post enc Tryd.prog Tryd.f3 false true false false) := by
  obtain ⟨places, hx⟩ := reads os enc
  refine returnsInHanded_of_row (C := Tryd.checked) (s := OpenSpec.ofChange Rows.fnFiguresSpec) Base.own started (by kernel_rfl) Tryd.func3
    (witness_row_atRef (enc := enc) (C := Tryd.checked) false (World.laidAll Tryd.prog os Rows.fnFiguresRow.laid) #[.slice none 0 0] (World.laidAll_os _ _ _) (by kernel_rfl) (by kernel_rfl) (by kernel_rfl)
      (OpenSpec.preRow_of_cond 8 hx (by kernel_rfl) (fun k hk => by cases hk) (by kernel_rfl) (laid_met os))) ?_
  intro W base args ds gs before hval hW _ _ _ hL _ _
  exact contract H enc W base args ds gs before hval hW hL

theorem said : Rows.FnFiguresSaid :=
  OpenClaim.holds_of_cond 3 Tryd.f3 rfl rfl rfl rfl rfl rfl rfl ⟨rfl, rfl, rfl, rfl, rfl⟩ rfl rfl rfl rfl rfl (by kernel_rfl) Tryd.func3 (by kernel_rfl)
    (of_decide_eq_true (by kernel_rfl)) (by unfold Func.isWrapper; first | (rw [if_pos (by decide +kernel)]; kernel_rfl) | (rw [if_neg (by decide +kernel)]; exact ⟨rfl, rfl⟩))
    (fun os started H enc _ F => by rw [OpenClaim.pre_eq_preRow]; exact lifted os started H enc F)

theorem plain (f : FuncId) (fn : Func) (hf : Tryd.pinned.checked.prog.funcNamed "loop.example/g00975/laws.FnFigures" = some f) (hfn : Tryd.pinned.checked.prog.funcs[f]? = some fn) :
    true = Tryd.pinned.checked.prog.looks [] ∧ ∀ (j : Nat) t, fn.params[j]? = some t → Tryd.pinned.checked.prog.wantsStandIn t = false := by
  obtain rfl : f = 3 := Option.some.inj ((show Tryd.prog.funcNamed "loop.example/g00975/laws.FnFigures" = some 3 by kernel_rfl).symm.trans hf) |>.symm
  obtain rfl : fn = Tryd.f3 := (Option.some.inj (Tryd.func3.symm.trans hfn)).symm
  refine ⟨by kernel_rfl, fun j t ht => ?_⟩
  rw [Tryd.params3] at ht
  obtain rfl : t = 22 := by simpa using Array.mem_of_getElem? ht
  exact (show Tryd.prog.wantsStandIn 22 = false by kernel_rfl)

/-- The given statement: the card. -/
theorem proved : Rows.FnFiguresCardSaid :=
  Claim7.holds_tied_plain_at .later [] _ _ _ _ said (fun _ h => by cases h) (by kernel_rfl) (fun _ h => by cases h) fnFigures_row_tie rfl ⟨rfl, rfl⟩ (by kernel_rfl) rfl plain (by kernel_rfl)
#print axioms proved
end Go.Proofs.YtocnhnhklpfdgaaDoor.fnFigures
