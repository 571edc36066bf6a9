/-
  Unhex's answer at the hexadecimal text of a list of bytes is that list; no statement about the program stands here. No condition.
-/
import Derived.Test.YtocnhnhklpfdgaaDoorHexMath
import Derived.Test.YtocnhnhklpfdgaaDoorUnhexMath
namespace Go.Proofs.YtocnhnhklpfdgaaDoor.Back
open Go.Proofs.YtocnhnhklpfdgaaDoor.HexW Go.Proofs.YtocnhnhklpfdgaaDoor.UnhexW

theorem val_fin : ∀ x : Fin 16, val (fig x.val) = (x.val : Int) := by decide +kernel
theorem val_fig (x : Nat) (h : x < 16) : val (fig x) = x := val_fin ⟨x, h⟩
theorem hex_at (l : List UInt8) : ∀ k, k < l.length → (hexOf l).getD (2 * k) 0 = fig ((l.getD k 0).toNat / 16) ∧ (hexOf l).getD (2 * k + 1) 0 = fig ((l.getD k 0).toNat % 16) := by
  induction l with
  | nil => intro k h; simp at h
  | cons b l ih =>
    intro k h
    have e : hexOf (b :: l) = fig (b.toNat / 16) :: fig (b.toNat % 16) :: hexOf l := by simp [hexOf]
    rw [e]
    cases k with
    | zero => exact ⟨rfl, rfl⟩
    | succ k =>
      have := ih k (by simpa using h)
      rw [show 2 * (k + 1) = 2 * k + 1 + 1 by omega]
      simpa using this
theorem byte_join (b : UInt8) : UInt8.ofNat (16 * ((b.toNat / 16 : Nat) : Int) + ((b.toNat % 16 : Nat) : Int)).toNat = b := by
  have h : (16 * ((b.toNat / 16 : Nat) : Int) + ((b.toNat % 16 : Nat) : Int)).toNat = b.toNat := by omega
  rw [h]; simp
theorem answer_hex (l : List UInt8) (hl : l.length ≤ 20000) : answer ⟨(hexOf l).toArray⟩ = .tuple #[.string ⟨l.toArray⟩, .bool true] := by
  have hsz : (⟨(hexOf l).toArray⟩ : ByteArray).size = 2 * l.length := by rw [← hexOf_len l]; rfl
  have hv : ∀ k, k < l.length → val (byteAt ⟨(hexOf l).toArray⟩ (2 * k)) = (((l.getD k 0).toNat / 16 : Nat) : Int) ∧ val (byteAt ⟨(hexOf l).toArray⟩ (2 * k + 1)) = (((l.getD k 0).toNat % 16 : Nat) : Int) := fun k hk => by
    have h := hex_at l k hk
    have hb := (l.getD k 0).toNat_lt
    unfold byteAt
    simp only
    rw [h.1, h.2, val_fig _ (by omega), val_fig _ (by omega)]
    exact ⟨rfl, rfl⟩
  rw [answer_good _ (by omega) (by omega) (fun j hj => by
    rw [hsz] at hj
    have := hv j (by omega)
    rw [this.1, this.2]
    omega)]
  have ho : outTo ⟨(hexOf l).toArray⟩ ((⟨(hexOf l).toArray⟩ : ByteArray).size / 2) = l := by
    rw [hsz, show 2 * l.length / 2 = l.length by omega]
    apply List.ext_getElem
    · rw [outTo_len]
    · intro k h1 h2
      have := hv k h2
      simp only [outTo, List.getElem_map, List.getElem_range, pairAt]
      rw [this.1, this.2, byte_join]
      simp [List.getD_eq_getElem?_getD, List.getElem?_eq_getElem h2]
  rw [ho]
end Go.Proofs.YtocnhnhklpfdgaaDoor.Back
