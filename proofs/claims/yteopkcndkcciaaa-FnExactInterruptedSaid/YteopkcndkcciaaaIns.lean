/-
  The instruction set: what chapter 10 computes, and the given model's InsOk, ProgOk, InsAt, OpName and Touches; no statement about the project's code stands here. No condition beyond a program's length and an int's range.
-/
import Derived.Test.YteopkcndkcciaaaInsH
import Derived.Test.YteopkcndkcciaaaIn
import Derived.Test.YteopkcndkcciaaaAddrs
import Derived.Test.YteopkcndkcciaaaRights
namespace Go.Proofs.Yteopkcndkcciaaa.Inss
set_option maxRecDepth 100000
open Go.ChangeShapes Go.WideShapes Go.ChangeAt Go.RowKit
open Go.Proofs.Yteopkcndkcciaaa.Base Go.Proofs.Yteopkcndkcciaaa.Mem Go.Proofs.Yteopkcndkcciaaa.Data Go.Proofs.Yteopkcndkcciaaa.Addrs Go.Proofs.Yteopkcndkcciaaa.Rights
set_option linter.unusedVariables false
set_option linter.unusedSimpArgs false

def insOk (s : JT) : Bool :=
  if s.1 = 1 ∨ s.1 = 2 ∨ s.1 = 5 ∨ s.1 = 6 then inB s.2 0 99
  else if s.1 = 3 ∨ s.1 = 4 then inB s.2 0 15
  else if s.1 = 7 then s.2 == 0
  else if s.1 = 8 then inB s.2 0 11
  else false
def progOk (l : List JT) : Bool := l.all insOk && inB l.length 1 12
def haltJ : JT := (7, 0)
def insAt (l : List JT) (pc : Int) : JT := if inB pc 0 ((l.length : Int) - 1) then l.getD pc.toNat haltJ else haltJ
def opNames : List ByteArray := [⟨#[]⟩, ⟨#[115, 101, 116]⟩, ⟨#[97, 100, 100]⟩, ⟨#[108, 111, 97, 100]⟩, ⟨#[115, 116, 111, 114, 101]⟩, ⟨#[111, 117, 116]⟩, ⟨#[99, 97, 108, 108]⟩, ⟨#[104, 97, 108, 116]⟩, ⟨#[106, 117, 109, 112]⟩]
def opName (o : Int) : ByteArray := if inB o 1 8 then opNames.getD o.toNat ⟨#[]⟩ else ⟨#[63]⟩
def touches (s : JT) : Int × Int := if s.1 = 3 then (addrP s.2, need false) else if s.1 = 4 then (addrP s.2, need true) else (-1, 0)
theorem op_cases (o : Int) : o = 1 ∨ o = 2 ∨ o = 5 ∨ o = 6 ∨ o = 3 ∨ o = 4 ∨ o = 7 ∨ o = 8 ∨ ((o == 1) = false ∧ (o == 2) = false ∧ (o == 3) = false ∧ (o == 4) = false ∧ (o == 5) = false ∧ (o == 6) = false ∧ (o == 7) = false ∧ (o == 8) = false) := by
  simp only [beq_eq_false_iff_ne, ne_eq]
  omega
theorem insOk_else {o x : Int} (h : (o == 1) = false ∧ (o == 2) = false ∧ (o == 3) = false ∧ (o == 4) = false ∧ (o == 5) = false ∧ (o == 6) = false ∧ (o == 7) = false ∧ (o == 8) = false) : insOk (o, x) = false := by
  simp only [beq_eq_false_iff_ne, ne_eq] at h
  simp [insOk, h]
theorem touches_else {o x : Int} (h3 : (o == 3) = false) (h4 : (o == 4) = false) : touches (o, x) = (-1, 0) := by
  simp only [beq_eq_false_iff_ne, ne_eq] at h3 h4
  simp [touches, h3, h4]

set_option maxHeartbeats 4000000 in
theorem spec_insOk (o x : Int) (w : World) :
    Calls Try.prog 94 #[.agg #[.int .i64 o, .int .i64 x]] w fun e w' => e = .returned (.bool (insOk (o, x))) ∧ Below w.heap.size w w' := by
  have K1 := Lib.hid (fun V : World => spec_in x 0 99 V)
  have K2 := Lib.hid (fun V : World => spec_in x 0 15 V)
  have K3 := Lib.hid (fun V : World => spec_in x 0 11 V)
  have HB := Lib.hid ((Below.refl w.heap.size w).alloc (Nat.le_refl _) (.cells #[.int .i64 o, .int .i64 x] 64))
  rcases op_cases o with rfl | rfl | rfl | rfl | rfl | rfl | rfl | rfl | h
  iterate 4
    · first | rw [show insOk (1, x) = inB x 0 99 from rfl] | rw [show insOk (2, x) = inB x 0 99 from rfl] | rw [show insOk (5, x) = inB x 0 99 from rfl] | rw [show insOk (6, x) = inB x 0 99 from rfl]
      go_enter Try.func94, Try.ntmps94
      go_wp2_with fail
      refine (K1.out _).mono ?_
      rintro e w' ⟨rfl, rfl⟩
      go_wp2_with fail
      go_ret
      exact ⟨rfl, HB.out⟩
  iterate 2
    · first | rw [show insOk (3, x) = inB x 0 15 from rfl] | rw [show insOk (4, x) = inB x 0 15 from rfl]
      go_enter Try.func94, Try.ntmps94
      go_wp2_with fail
      refine (K2.out _).mono ?_
      rintro e w' ⟨rfl, rfl⟩
      go_wp2_with fail
      go_ret
      exact ⟨rfl, HB.out⟩
  · have HV := Lib.hid (show insOk (7, x) = (x == 0) from rfl)
    go_enter Try.func94, Try.ntmps94
    go_wp2_with fail
    go_ret
    exact ⟨by rw [HV.out]; rfl, HB.out⟩
  · have HV := Lib.hid (show insOk (8, x) = inB x 0 11 from rfl)
    go_enter Try.func94, Try.ntmps94
    go_wp2_with fail
    refine (K3.out _).mono ?_
    rintro e w' ⟨rfl, rfl⟩
    go_wp2_with fail
    go_ret
    exact ⟨by rw [HV.out]; rfl, HB.out⟩
  · have HV := Lib.hid (insOk_else (x := x) h)
    obtain ⟨h1, h2, h3, h4, h5, h6, h7, h8⟩ := h
    go_enter Try.func94, Try.ntmps94
    go_wp2_with fail
    go_ret
    exact ⟨by rw [HV.out]; rfl, HB.out⟩

theorem progOk_yes {l : List JT} (h : ∀ (j : Nat) (hj : j < l.length), insOk l[j] = true) : progOk l = inB l.length 1 12 := by
  unfold progOk
  rw [show l.all insOk = true from List.all_eq_true.2 (fun s hs => by obtain ⟨j, hj, rfl⟩ := List.getElem_of_mem hs; exact h j hj), Bool.true_and]
theorem progOk_no {l : List JT} {k : Nat} (hk : k < l.length) (h : insOk l[k] = false) : progOk l = false := by
  unfold progOk
  rw [show l.all insOk = false from List.all_eq_false.2 ⟨l[k], List.getElem_mem hk, by simp [h]⟩, Bool.false_and]

set_option maxHeartbeats 2000000 in
theorem spec_progOk (A : Option Addr) (n c lo : Nat) (l : List JT) (w : World) (hn : n ≤ 1048576) (hl : l.length = n) (h1 : Lies w lo w.heap.size A (jcells l)) :
    Calls Try.prog 61 #[.slice A n c] w fun e w' => e = .returned (.bool (progOk l)) ∧ Below w.heap.size w w' := by
  have H1 := Lib.hid h1
  have HL := Lib.hid hl
  clear h1 hl
  go_enter Try.func61, Try.ntmps61
  go_wp2
  go_loopw [3] (fun i wr => ∃ (k : Nat), k ≤ n ∧ i = .int .i64 k ∧ (∀ (j : Nat) (hj : j < l.length), j < k → insOk l[j] = true) ∧ Below w.heap.size w wr) (fun i _ => n - (intOf i).toNat)
  case atStart => exact ⟨0, Nat.zero_le _, rfl, fun j hj h => absurd h (Nat.not_lt_zero _), Below.refl _ _⟩
  case round =>
    obtain ⟨k, hk, rfl, hall, hb⟩ := hrel
    have HA := Lib.hid hall
    have HB := Lib.hid hb
    clear hall
    by_cases hlt : k < n
    · have hkl : k < l.length := by have := HL.out; omega
      obtain ⟨b, off, rfl, _, hbw, c0, c1⟩ := j_at H1.out k hkl
      have d0 := (hb.cell (p := ⟨b, off + k * 2, none⟩) hbw).trans c0
      have d1 := (hb.cell (p := ⟨b, off + k * 2 + 1, none⟩) hbw).trans c1
      have hj0 : (0 : Int) ≤ (k : Int) := Int.natCast_nonneg _
      have hj1 : (k : Int) < (n : Int) := by omega
      have hcall := spec_insOk l[k].1 l[k].2 wr
      obtain ⟨v, hv⟩ : ∃ v, insOk l[k] = v := ⟨_, rfl⟩
      rw [show insOk (l[k].1, l[k].2) = v from hv] at hcall
      have HCALL := Lib.hid hcall
      have HV := Lib.hid hv
      clear hcall hv c0 c1 hb
      generalize l[k].1 = o at d0 HCALL
      generalize l[k].2 = x at d1 HCALL
      cases v
      · go_wp2_with fail
        refine HCALL.out.mono ?_
        rintro e w1 ⟨rfl, hb1⟩
        have HB1 := Lib.hid (btr HB.out hb1)
        clear hb1
        go_wp2_with fail
        go_ret
        exact ⟨by rw [progOk_no hkl HV.out]; rfl, HB1.out⟩
      · go_wp2_with fail
        refine HCALL.out.mono ?_
        rintro e w1 ⟨rfl, hb1⟩
        have HB1 := Lib.hid (btr HB.out hb1)
        clear hb1
        go_wp2_with fail
        go_roundw
        case rel =>
          refine ⟨k + 1, by omega, by go_num, fun j hj h => ?_, HB1.out⟩
          rcases Nat.lt_succ_iff_lt_or_eq.1 h with h2 | rfl
          · exact HA.out j hj h2
          · exact HV.out
        case measure => simp [intOf]; omega
    · obtain rfl : k = n := by omega
      have hv := progOk_yes (l := l) (fun j hj => HA.out j hj (by have := HL.out; omega))
      rw [HL.out] at hv
      have HV := Lib.hid hv
      have hcall := fun V : World => spec_in (k : Int) 1 12 V
      have HCALL := Lib.hid hcall
      clear hv hb hcall
      go_wp2_with fail
      refine (HCALL.out _).mono ?_
      rintro e w' ⟨rfl, rfl⟩
      go_wp2_with fail
      go_ret
      exact ⟨by rw [HV.out]; rfl, HB.out⟩

def OneIns (w : World) (s : JT) (e : Ending) (w' : World) : Prop := e = .returned (.agg #[.int .i64 s.1, .int .i64 s.2]) ∧ Below w.heap.size w w'
theorem insAt_in {l : List JT} {pc : Int} (h0 : 0 ≤ pc) (h1 : pc.toNat < l.length) : insAt l pc = l[pc.toNat] := by
  unfold insAt
  rw [if_pos (inB_iff.2 ⟨h0, by omega⟩), List.getD_eq_getElem?_getD, List.getElem?_eq_getElem h1]
  rfl
theorem insAt_out {l : List JT} {pc : Int} (h : pc < 0 ∨ (l.length : Int) - 1 < pc) : insAt l pc = haltJ := by
  unfold insAt
  rw [inB_false.2 h]; rfl

theorem opName_out {o : Int} (h : inB o 1 8 = false) : opName o = ⟨#[63]⟩ := by unfold opName; rw [h]; rfl

def TwoI (w : World) (s : Int × Int) (e : Ending) (w' : World) : Prop := e = .returned (.tuple #[.int .i64 s.1, .int .i64 s.2]) ∧ Below w.heap.size w w'

end Go.Proofs.Yteopkcndkcciaaa.Inss
