/-
  The instruction set: what chapter 10 computes, and the given model's InsOk, ProgOk, InsAt, OpName and Touches; no statement about the project's code stands here. No condition beyond a program's length and an int's range.
-/
import Derived.Test.YtdbhfadiinmgiaaInsH
import Derived.Test.YtdbhfadiinmgiaaIn
import Derived.Test.YtdbhfadiinmgiaaAddrs
import Derived.Test.YtdbhfadiinmgiaaRights
namespace Go.Proofs.Ytdbhfadiinmgiaa.Inss
set_option maxRecDepth 100000
open Go.ChangeShapes Go.WideShapes Go.ChangeAt Go.RowKit
open Go.Proofs.Ytdbhfadiinmgiaa.Base Go.Proofs.Ytdbhfadiinmgiaa.Mem Go.Proofs.Ytdbhfadiinmgiaa.Data Go.Proofs.Ytdbhfadiinmgiaa.Addrs Go.Proofs.Ytdbhfadiinmgiaa.Rights
set_option linter.unusedVariables false
set_option linter.unusedSimpArgs false

def insOk (s : JT) : Bool :=
  if s.1 = 1 ∨ s.1 = 2 ∨ s.1 = 5 ∨ s.1 = 6 then inB s.2 0 99
  else if s.1 = 3 ∨ s.1 = 4 then inB s.2 0 15
  else if s.1 = 7 then s.2 == 0
  else if s.1 = 8 then inB s.2 0 11
  else false
def progOk (l : List JT) : Bool := l.all insOk && inB l.length 1 12
def haltJ : JT := (7, 0)
def insAt (l : List JT) (pc : Int) : JT := if inB pc 0 ((l.length : Int) - 1) then l.getD pc.toNat haltJ else haltJ
def opNames : List ByteArray := [⟨#[]⟩, ⟨#[115, 101, 116]⟩, ⟨#[97, 100, 100]⟩, ⟨#[108, 111, 97, 100]⟩, ⟨#[115, 116, 111, 114, 101]⟩, ⟨#[111, 117, 116]⟩, ⟨#[99, 97, 108, 108]⟩, ⟨#[104, 97, 108, 116]⟩, ⟨#[106, 117, 109, 112]⟩]
def opName (o : Int) : ByteArray := if inB o 1 8 then opNames.getD o.toNat ⟨#[]⟩ else ⟨#[63]⟩
def touches (s : JT) : Int × Int := if s.1 = 3 then (addrP s.2, need false) else if s.1 = 4 then (addrP s.2, need true) else (-1, 0)
theorem op_cases (o : Int) : o = 1 ∨ o = 2 ∨ o = 5 ∨ o = 6 ∨ o = 3 ∨ o = 4 ∨ o = 7 ∨ o = 8 ∨ ((o == 1) = false ∧ (o == 2) = false ∧ (o == 3) = false ∧ (o == 4) = false ∧ (o == 5) = false ∧ (o == 6) = false ∧ (o == 7) = false ∧ (o == 8) = false) := by
  simp only [beq_eq_false_iff_ne, ne_eq]
  omega
theorem insOk_else {o x : Int} (h : (o == 1) = false ∧ (o == 2) = false ∧ (o == 3) = false ∧ (o == 4) = false ∧ (o == 5) = false ∧ (o == 6) = false ∧ (o == 7) = false ∧ (o == 8) = false) : insOk (o, x) = false := by
  simp only [beq_eq_false_iff_ne, ne_eq] at h
  simp [insOk, h]
theorem touches_else {o x : Int} (h3 : (o == 3) = false) (h4 : (o == 4) = false) : touches (o, x) = (-1, 0) := by
  simp only [beq_eq_false_iff_ne, ne_eq] at h3 h4
  simp [touches, h3, h4]

theorem progOk_yes {l : List JT} (h : ∀ (j : Nat) (hj : j < l.length), insOk l[j] = true) : progOk l = inB l.length 1 12 := by
  unfold progOk
  rw [show l.all insOk = true from List.all_eq_true.2 (fun s hs => by obtain ⟨j, hj, rfl⟩ := List.getElem_of_mem hs; exact h j hj), Bool.true_and]
theorem progOk_no {l : List JT} {k : Nat} (hk : k < l.length) (h : insOk l[k] = false) : progOk l = false := by
  unfold progOk
  rw [show l.all insOk = false from List.all_eq_false.2 ⟨l[k], List.getElem_mem hk, by simp [h]⟩, Bool.false_and]

def OneIns (w : World) (s : JT) (e : Ending) (w' : World) : Prop := e = .returned (.agg #[.int .i64 s.1, .int .i64 s.2]) ∧ Below w.heap.size w w'
theorem insAt_in {l : List JT} {pc : Int} (h0 : 0 ≤ pc) (h1 : pc.toNat < l.length) : insAt l pc = l[pc.toNat] := by
  unfold insAt
  rw [if_pos (inB_iff.2 ⟨h0, by omega⟩), List.getD_eq_getElem?_getD, List.getElem?_eq_getElem h1]
  rfl
theorem insAt_out {l : List JT} {pc : Int} (h : pc < 0 ∨ (l.length : Int) - 1 < pc) : insAt l pc = haltJ := by
  unfold insAt
  rw [inB_false.2 h]; rfl

set_option maxHeartbeats 2000000 in
theorem spec_insAt (A : Option Addr) (n c lo : Nat) (pc : Int) (l : List JT) (w : World) (hn : n ≤ 1048576) (hl : l.length = n) (h1 : Lies w lo w.heap.size A (jcells l)) :
    Calls Try.prog 52 #[.slice A n c, .int .i64 pc] w (OneIns w (insAt l pc)) := by
  have H1 := Lib.hid h1
  have HL := Lib.hid hl
  clear h1 hl
  by_cases h : 0 ≤ pc ∧ pc < n
  · obtain ⟨h0, h1⟩ := h
    obtain ⟨k, rfl⟩ := Int.eq_ofNat_of_zero_le h0
    have hkl : k < l.length := by have := HL.out; omega
    rw [show insAt l (k : Int) = l[k] from insAt_in (pc := (k : Int)) h0 (by simpa using hkl), show l[k] = (l[k].1, l[k].2) from rfl]
    obtain ⟨b, off, rfl, _, hbw, c1, c2⟩ := j_at H1.out k hkl
    have hne : b ≠ w.heap.size := by omega
    have hK := fun V : World => spec_in (k : Int) 0 ((n : Int) - 1) V
    rw [show inB (k : Int) 0 ((n : Int) - 1) = true from inB_iff.2 ⟨by omega, by omega⟩] at hK
    have HK := Lib.hid hK
    clear hK
    generalize l[k].1 = x at c1 ⊢
    generalize l[k].2 = y at c2 ⊢
    go_enter Try.func52, Try.ntmps52
    go_wp2_with (go_at_call 53; refine (HK.out _).mono ?_; rintro e w' ⟨rfl, rfl⟩)
    exact bodyPost_ret (v := .agg #[.int .i64 x, .int .i64 y]) (by simp [results, Try.results52, go_sem]) rfl ⟨rfl, (Below.refl _ _).alloc (Nat.le_refl _) _⟩
  · have hK := fun V : World => spec_in pc 0 ((n : Int) - 1) V
    rw [show inB pc 0 ((n : Int) - 1) = false from inB_false.2 (by omega)] at hK
    have HK := Lib.hid hK
    clear hK
    have HA := Lib.hid (insAt_out (l := l) (pc := pc) (by rw [HL.out]; omega))
    go_enter Try.func52, Try.ntmps52
    go_wp2_with (go_at_call 53; refine (HK.out _).mono ?_; rintro e w' ⟨rfl, rfl⟩)
    exact bodyPost_ret (v := .agg #[.int .i64 7, .int .i64 0]) (by simp [results, Try.results52, go_sem]) rfl ⟨by rw [HA.out]; rfl, (Below.refl _ _).alloc (Nat.le_refl _) _⟩

theorem opName_out {o : Int} (h : inB o 1 8 = false) : opName o = ⟨#[63]⟩ := by unfold opName; rw [h]; rfl

def TwoI (w : World) (s : Int × Int) (e : Ending) (w' : World) : Prop := e = .returned (.tuple #[.int .i64 s.1, .int .i64 s.2]) ∧ Below w.heap.size w w'

end Go.Proofs.Ytdbhfadiinmgiaa.Inss
