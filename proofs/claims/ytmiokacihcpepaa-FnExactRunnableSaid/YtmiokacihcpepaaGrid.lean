/-
  Words for slices of slices of ints (a memory of pages) in memory: what they read as, and that no two pages share a block; no statement about the program stands here. No condition.
-/
import Derived.Test.YtmiokacihcpepaaIntH
namespace Go.Proofs.Ytmiokacihcpepaa.Grid
set_option maxRecDepth 100000
open Go.ChangeShapes Go.WideShapes Go.ChangeAt Go.RowKit
open Go.Proofs.Ytmiokacihcpepaa.Base Go.Proofs.Ytmiokacihcpepaa.Mem Go.Proofs.Ytmiokacihcpepaa.Ints

abbrev Hd := Option Addr × Nat
/-- A page's header as the outer slice holds it. -/
def hcell (r : List Int) (h : Hd) : Value := .slice h.1 r.length h.2
def hcells (M : List (List Int)) (hs : List Hd) : List Value := List.zipWith hcell M hs
def blk (A : Option Addr) : Option Nat := A.map Addr.block

theorem hcells_len {M : List (List Int)} {hs : List Hd} (h : hs.length = M.length) : (hcells M hs).length = M.length := by simp [hcells, h]
theorem hcells_at {M : List (List Int)} {hs : List Hd} {i : Nat} {r : List Int} {h : Hd} (h1 : M[i]? = some r) (h2 : hs[i]? = some h) : (hcells M hs)[i]? = some (.slice h.1 r.length h.2) := by
  simp [hcells, List.getElem?_zipWith, h1, h2, hcell]
theorem hcells_snoc {M : List (List Int)} {hs : List Hd} (r : List Int) (h : Hd) (hl : hs.length = M.length) : hcells (M ++ [r]) (hs ++ [h]) = hcells M hs ++ [.slice h.1 r.length h.2] := by
  unfold hcells
  rw [List.zipWith_append (by rw [hl])]
  rfl
theorem hcells_one (M : List (List Int)) (hs : List Hd) : ∀ u ∈ hcells M hs, u.oneCell' = true := by
  intro u hu
  obtain ⟨i, hi⟩ := List.getElem?_of_mem hu
  simp only [hcells, List.getElem?_zipWith] at hi
  split at hi
  · cases hi; rfl
  · cases hi

/-- The pages, each in memory of its own. -/
def Pages (w : World) (lo hi : Nat) (M : List (List Int)) (hs : List Hd) : Prop :=
  hs.length = M.length ∧ (∀ (i : Nat) (r : List Int) (h : Hd), M[i]? = some r → hs[i]? = some h → Owned w lo hi h.1 (ncells r)) ∧
  (∀ (i j : Nat) (r r' : List Int) (h h' : Hd), i ≠ j → M[i]? = some r → hs[i]? = some h → M[j]? = some r' → hs[j]? = some h' → r ≠ [] → r' ≠ [] → blk h.1 ≠ blk h'.1)
/-- No page lies in the block. -/
def Avoids (g : Option Nat) (M : List (List Int)) (hs : List Hd) : Prop := ∀ (i : Nat) (r : List Int) (h : Hd), M[i]? = some r → hs[i]? = some h → r ≠ [] → blk h.1 ≠ g
/-- The same, read only: pages may share. -/
def Reads (w : World) (lo hi : Nat) (M : List (List Int)) (hs : List Hd) : Prop :=
  hs.length = M.length ∧ ∀ (i : Nat) (r : List Int) (h : Hd), M[i]? = some r → hs[i]? = some h → Lies w lo hi h.1 (ncells r)

section
variable {w w' : World} {lo hi lo' hi' : Nat} {M : List (List Int)} {hs : List Hd}
theorem Pages.reads (h : Pages w lo hi M hs) : Reads w lo hi M hs := ⟨h.1, fun i r k h1 h2 => (h.2.1 i r k h1 h2).1⟩
theorem Pages.nil : Pages w lo hi [] [] := ⟨rfl, fun i r h h1 => by simp at h1, fun i j r r' h h' _ h1 => by simp at h1⟩
theorem Avoids.nil {g : Option Nat} : Avoids g [] [] := fun i r h h1 => by simp at h1
theorem Pages.kept (h : Pages w lo hi M hs) (hb : ∀ k, lo ≤ k → k < hi → w'.heap[k]? = w.heap[k]?) : Pages w' lo hi M hs := ⟨h.1, fun i r k h1 h2 => (h.2.1 i r k h1 h2).kept hb, h.2.2⟩
theorem Pages.below {B : Nat} (h : Pages w lo hi M hs) (hb : Below B w w') (hB : hi ≤ B) : Pages w' lo hi M hs := h.kept fun k _ h2 => hb.block k (by omega)
theorem Pages.wide (h : Pages w lo hi M hs) (h1 : lo' ≤ lo) (h2 : hi ≤ hi') : Pages w lo' hi' M hs := ⟨h.1, fun i r k a b => (h.2.1 i r k a b).wide h1 h2, h.2.2⟩
theorem Reads.kept (h : Reads w lo hi M hs) (hb : ∀ k, lo ≤ k → k < hi → w'.heap[k]? = w.heap[k]?) : Reads w' lo hi M hs := ⟨h.1, fun i r k h1 h2 => (h.2 i r k h1 h2).kept hb⟩
theorem Reads.below {B : Nat} (h : Reads w lo hi M hs) (hb : Below B w w') (hB : hi ≤ B) : Reads w' lo hi M hs := h.kept fun k _ h2 => hb.block k (by omega)
theorem Reads.wide (h : Reads w lo hi M hs) (h1 : lo' ≤ lo) (h2 : hi ≤ hi') : Reads w lo' hi' M hs := ⟨h.1, fun i r k a b => (h.2 i r k a b).wide h1 h2⟩
/-- A page's block lies in the interval. -/
theorem Pages.block (h : Pages w lo hi M hs) {i : Nat} {r : List Int} {k : Hd} (h1 : M[i]? = some r) (h2 : hs[i]? = some k) (hr : r ≠ []) : ∃ b off, k.1 = some ⟨b, off, none⟩ ∧ lo ≤ b ∧ b < hi := by
  obtain ⟨b, off, e, x, y, _⟩ := (h.2.1 i r k h1 h2).1.at_ (by rw [ncells_len]; exact List.length_pos_iff.2 hr)
  exact ⟨b, off, e, x, y⟩
/-- One page more, in later memory. -/
theorem Pages.snoc (h : Pages w lo hi M hs) {r : List Int} {k : Hd} (ho : Owned w lo' hi' k.1 (ncells r)) (h1 : hi ≤ lo') (h2 : lo ≤ lo') (h3 : hi ≤ hi') : Pages w lo hi' (M ++ [r]) (hs ++ [k]) := by
  have hlen := h.1
  have old : ∀ (i : Nat) (r' : List Int) (k' : Hd), (M ++ [r])[i]? = some r' → (hs ++ [k])[i]? = some k' → (M[i]? = some r' ∧ hs[i]? = some k') ∨ (i = M.length ∧ r' = r ∧ k' = k) := fun i r' k' a b => by
    rcases Nat.lt_trichotomy i M.length with hi | hi | hi
    · left
      rw [List.getElem?_append_left hi] at a
      rw [List.getElem?_append_left (by omega)] at b
      exact ⟨a, b⟩
    · right
      subst hi
      rw [List.getElem?_append_right (Nat.le_refl _), Nat.sub_self] at a
      rw [List.getElem?_append_right (by omega), hlen, Nat.sub_self] at b
      simp at a b
      exact ⟨rfl, a.symm, b.symm⟩
    · rw [List.getElem?_eq_none (by simp; omega)] at a
      cases a
  have far : ∀ (i : Nat) (r' : List Int) (k' : Hd), M[i]? = some r' → hs[i]? = some k' → r' ≠ [] → r ≠ [] → blk k'.1 ≠ blk k.1 := fun i r' k' a b c d e => by
    obtain ⟨x, ox, ex, _, hx⟩ := h.block a b c
    obtain ⟨y, oy, ey, hy, _, _⟩ := ho.1.at_ (by rw [ncells_len]; exact List.length_pos_iff.2 d)
    rw [ex, ey] at e
    simp [blk] at e
    omega
  refine ⟨by simp [hlen], fun i r' k' a b => ?_, fun i j r1 r2 k1 k2 hij a b c d e f => ?_⟩
  · rcases old i r' k' a b with ⟨a', b'⟩ | ⟨_, rfl, rfl⟩
    · exact (h.2.1 i r' k' a' b').wide (Nat.le_refl _) h3
    · exact ho.wide h2 (Nat.le_refl _)
  · rcases old i r1 k1 a b with ⟨a', b'⟩ | ⟨ei, rfl, rfl⟩
    · rcases old j r2 k2 c d with ⟨c', d'⟩ | ⟨ej, rfl, rfl⟩
      · exact h.2.2 i j r1 r2 k1 k2 hij a' b' c' d' e f
      · exact far i r1 k1 a' b' e f
    · rcases old j r2 k2 c d with ⟨c', d'⟩ | ⟨ej, rfl, rfl⟩
      · exact (far j r2 k2 c' d' f e).symm
      · exact absurd (ei.trans ej.symm) hij
/-- One page is written anew at its own length: the others are as they were. -/
theorem Pages.turn (h : Pages w lo hi M hs) {i : Nat} {r r' : List Int} {k : Hd} (h1 : M[i]? = some r) (h2 : hs[i]? = some k) (hr : r.length = r'.length) {b off : Nat} (hk : k.1 = some ⟨b, off, none⟩) (hne : r ≠ [])
    (ho : Owned w' lo hi k.1 (ncells r')) (ht : ∀ q, lo ≤ q → q < hi → q ≠ b → w'.heap[q]? = w.heap[q]?) : Pages w' lo hi (M.set i r') hs := by
  have hi' : i < M.length := (List.getElem?_eq_some_iff.1 h1).1
  have old : ∀ (j : Nat) (x : List Int), (M.set i r')[j]? = some x → (j = i ∧ x = r') ∨ (j ≠ i ∧ M[j]? = some x) := fun j x a => by
    by_cases e : j = i
    · subst e
      rw [List.getElem?_set_self hi'] at a
      exact .inl ⟨rfl, by simpa using a.symm⟩
    · rw [List.getElem?_set_ne (fun e' => e e'.symm)] at a
      exact .inr ⟨e, a⟩
  have hne' : r' ≠ [] := fun e => hne (List.length_eq_zero_iff.1 (by rw [hr, e]; rfl))
  refine ⟨by rw [List.length_set]; exact h.1, fun j x q a c => ?_, fun j m x y q q' hjm a c d e f g => ?_⟩
  · rcases old j x a with ⟨rfl, rfl⟩ | ⟨hji, a'⟩
    · rw [h2] at c
      cases c
      exact ho
    · by_cases hx : x = []
      · subst hx
        exact ⟨Lies.nil, fun _ _ _ hn => absurd hn (by simp [ncells])⟩
      · obtain ⟨b', off', e', x1, x2⟩ := h.block a' c hx
        have hbb : b' ≠ b := fun e2 => h.2.2 j i x r q k hji a' c h1 h2 hx hne (by rw [e', hk, e2]; rfl)
        have hoj := h.2.1 j x q a' c
        rw [e'] at hoj ⊢
        have tight : Owned w b' (b' + 1) (some ⟨b', off', none⟩) (ncells x) := ⟨fun j' u hu => by
          obtain ⟨b2, o2, e2, _, _, z⟩ := hoj.1 j' u hu
          cases e2
          exact ⟨b', off', rfl, Nat.le_refl _, Nat.lt_succ_self _, z⟩, hoj.2⟩
        exact (tight.kept fun q2 q3 q4 => ht q2 (by omega) (by omega) (by omega)).wide x1 (by omega)
  · rcases old j x a with ⟨rfl, rfl⟩ | ⟨hji, a'⟩
    · rcases old m y d with ⟨rfl, rfl⟩ | ⟨hmi, d'⟩
      · exact absurd rfl hjm
      · exact h.2.2 j m r y q q' hjm h1 c d' e hne g
    · rcases old m y d with ⟨rfl, rfl⟩ | ⟨hmi, d'⟩
      · exact h.2.2 j m x r q q' hjm a' c h1 e f hne
      · exact h.2.2 j m x y q q' hjm a' c d' e f g
end
end Go.Proofs.Ytmiokacihcpepaa.Grid
