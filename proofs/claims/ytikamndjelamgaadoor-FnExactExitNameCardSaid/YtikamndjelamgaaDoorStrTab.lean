/-
  A package-level table of strings that a row lists: what its datum says of the variable's cells, the variable read again in every world that agrees below, and the row's last step where variables are named. No statement about the project's functions; no condition.
-/
import Derived.Test.YtikamndjelamgaaDoorSlotArgs
import Derived.Lib.LaidTab
import Derived.LaidSub
import Derived.Stop.JoinedAt
namespace Go.Proofs.YtikamndjelamgaaDoor.StrTab
set_option maxRecDepth 100000
open Go.ChangeShapes Go.WideShapes Go.ChangeAt Go.RowKit
open Go.Proofs.YtikamndjelamgaaDoor.Base Go.Proofs.YtikamndjelamgaaDoor.Mem Go.Proofs.YtikamndjelamgaaDoor.Slots
set_option linter.unusedVariables false

/-- The cells of a table of strings. -/
def scol (bs : List (List UInt8)) : List Value := bs.map fun b => Value.string ⟨b.toArray⟩
/-- .. and its datum. -/
def sdat {H : Type} (bs : List (List UInt8)) : DataW H := .agg (bs.map fun b => .lit (.string b))

/-- What reads as the datum holds the strings. -/
theorem col_of_dat {H : Type} {enc : TypeId × Value → H} {P : Program} {w : World} {base : Nat} {sp : Nat → Bool} {held : Bool} {fuel : Nat} {t e : TypeId} {m : Nat} {cs : List Value} {bs : List (List UInt8)} {p : List MemPlace}
    (ht : P.underlying t = some (.array m e)) (he : P.underlying e = some .string) (hce : P.cellsOf e = 1) (hct : P.cellsOf t = m)
    (h : DataW.trod enc P w base sp held fuel t cs = some (sdat bs, p)) : cs = scol bs := by
  cases fuel with
  | zero => simp [DataW.trod] at h
  | succ f =>
    simp only [DataW.trod, ht, hce, hct, Nat.mul_one] at h
    by_cases hl : cs.length = m
    · rw [if_pos hl, Option.map_eq_some_iff] at h
      obtain ⟨ys, hys, hpair⟩ := h
      have hfst : ys.map (·.1) = bs.map fun b => (DataW.lit (.string b) : DataW H) := by
        injection hpair with h1 h2
        unfold sdat at h1
        injection h1
      have hyl : ys.length = m := by simpa using Lib.mapM_length hys
      have hbl : bs.length = m := by
        have hh := congrArg List.length hfst
        rw [List.length_map, List.length_map] at hh
        omega
      unfold scol
      refine List.ext_getElem (by rw [hl, List.length_map, hbl]) fun i hi1 hi2 => ?_
      obtain ⟨y, hy, hf⟩ := Lib.mapM_at (l := List.range m) hys i i (by rw [List.getElem?_range (by omega)])
      obtain ⟨s, hone, hyv, _⟩ := DataW.trod_string he hf
      have e1 : cs[i] = .string s := by
        have hh : (List.take 1 (cs.drop i))[0]? = [Value.string s][0]? := by rw [hone]
        rw [List.getElem?_take, if_pos (by decide), List.getElem?_drop, Nat.add_zero] at hh
        obtain ⟨_, hh⟩ := List.getElem?_eq_some_iff.1 hh
        exact hh
      have e2 : (ys.map (·.1))[i]? = some (DataW.lit (.string s.data.toList)) := by rw [List.getElem?_map, hy, hyv]; rfl
      rw [hfst, List.getElem?_map, List.getElem?_eq_getElem (by omega)] at e2
      simp only [Option.map_some, Option.some.injEq, DataW.lit.injEq, Lit.string.injEq] at e2
      rw [e1, List.getElem_map, e2]
    · rw [if_neg hl] at h; cases h

/-- The variable's cells, from the row's condition. -/
theorem var_of_laid {P : Program} {W : World} {n : String} {bs : List (List UInt8)} {rest : List (String × DataW Unit)} {g m : Nat} {t e : TypeId}
    (hg : P.globalNamed n = some g) (hgt : (P.globals[g]?).map (·.type) = some t) (ht : P.underlying t = some (.array m e)) (he : P.underlying e = some .string) (hce : P.cellsOf e = 1) (hct : P.cellsOf t = m)
    (h : laidMet P ((n, sdat bs) :: rest) W) : W.var? P n = some (scol bs).toArray := by
  obtain ⟨ps, ⟨g', t', cs, fuel, p, q, h1, h2, hv, hd, _⟩, _⟩ := h
  rw [hg] at h1; injection h1 with h1; subst h1
  rw [hgt] at h2; injection h2 with h2; subst h2
  rw [hv, ← col_of_dat ht he hce hct hd]

/-- A variable as it was, in a world that agrees below. -/
theorem var_below {P : Program} {W w' : World} {n : String} {cs : Array Value} (h : W.var? P n = some cs) (hb : Below W.heap.size W w') : w'.var? P n = some cs := by
  unfold World.var? at h ⊢
  cases hg : P.globalNamed n with
  | none => simp [hg] at h
  | some g =>
    simp only [hg, Option.bind_some] at h ⊢
    have hlt : g < W.heap.size := by
      rcases Nat.lt_or_ge g W.heap.size with h' | h'
      · exact h'
      · simp [Array.getElem?_eq_none h'] at h
    rw [hb.block g hlt]
    exact h

section
variable {H : Type} {enc : TypeId × Value → H} {P : Program}
/-- The row's last step where of the world behind the call 'Below' alone is known, whatever arguments, with named variables that are read again. -/
theorem post_named {f : Func} {s : ChangeSpec} {fresh handsOn again : Bool} {W W' : World} {args : Array Value} {v : Value} {ds gs : List (DataW H)} {p q : List MemPlace}
    (hl : laidOutB P = true) (hread : f.params.toList.all (fun t => P.readableRec t && decide (t < P.types.size)) = true)
    (hvr : (s.fn H (ds ++ gs)).vars = gs) (har : (s.fn H (ds ++ gs)).args = ds)
    (hW : DataW.Whole enc P f.params.toList s.vars false W args.toList ds gs (p ++ q)) (hA : DataW.TrodAll enc P W 0 (fun _ => true) true f.params.toList args.toList ds p) (hb : Below W.heap.size W W')
    (hv : ∀ sp : Nat → Bool, DataW.TrodVars enc P W' sp s.vars gs q)
    (hr : ∀ (b : Nat) (sp : Nat → Bool) (hd : Bool), DataW.TrodAll enc P W' b sp hd f.resultTypes.toList (v.resultList f.resultTypes.size) (s.fn H (ds ++ gs)).results [])
    (hok : ∀ (j : Nat) (t : TypeId) (r : Value), f.resultTypes[j]? = some t → (v.resultList f.resultTypes.size)[j]? = some r → Value.okWide P W' .any 0 t r) :
    s.post enc P f false fresh handsOn again W args v W' := by
  have lt := hW.lt
  have fz : W'.noneFrozen (p ++ q) := by
    obtain ⟨_, _, _, _, _, h, _⟩ := hW
    intro b off hm
    exact (hb.frozen (lt _ hm)).trans (h b off hm)
  have ha : ∀ sp : Nat → Bool, (∀ x ∈ p, sp x.block = true) → DataW.TrodAll enc P W' 0 sp true f.params.toList args.toList (s.fn H (ds ++ gs)).args p := fun sp hsp => by
    rw [har]
    refine trodAll_stays hl hb _ _ _ _ (fun t ht => ?_) hA (fun x hx => lt x (by simp [hx])) hsp
    have := List.all_eq_true.1 hread t ht
    simpa using this
  have tv : ∀ sp : Nat → Bool, DataW.TrodVars enc P W' sp s.vars (s.fn H (ds ++ gs)).vars q := fun sp => by rw [hvr]; exact hv sp
  have two := trodAll_append (ha (fun _ => true) (fun _ _ => rfl)) (hr 0 (fun _ => true) true)
  rw [List.nil_append] at two
  exact ⟨ds, gs, p ++ q, [], p, q, hW, hr _ _ _, ha _ (fun x hx => decide_eq_true (lt x (by simp [hx]))), tv _,
    World.keptBut_mono (fun x hx => ⟨hx, Or.inr (List.mem_append.1 hx)⟩) (hb.frame (· ∈ p ++ q)),
    fun _ => ⟨hok, _, _, p ++ q, ⟨p, q, two, tv _, rfl, fz, fun h => by cases h⟩, fun _ hx _ => hx⟩⟩
end
end Go.Proofs.YtikamndjelamgaaDoor.StrTab
