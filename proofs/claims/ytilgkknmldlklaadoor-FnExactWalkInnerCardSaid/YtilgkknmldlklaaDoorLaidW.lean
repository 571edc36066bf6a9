/-
  The project's two sentinels as the rows list them: two different pointers to cells of their own, read again in every world that agrees on what was there; and the row's last step where variables are named. No condition.
-/
import Derived.Test.YtilgkknmldlklaaDoorWalk
import Derived.Stop.LaidTwo
import Derived.LaidSub
import Derived.Stop.JoinedAt
namespace Go.Proofs.YtilgkknmldlklaaDoor.LaidW
set_option maxRecDepth 100000
open Go.ChangeShapes Go.WideShapes Go.ChangeAt Go.RowKit
open Go.Proofs.YtilgkknmldlklaaDoor.Base Go.Proofs.YtilgkknmldlklaaDoor.Mem Go.Proofs.YtilgkknmldlklaaDoor.Slots
set_option linter.unusedVariables false

theorem star : "*" ++ "errors.errorString" = "*errors.errorString" := by decide
theorem rowE (u : TypeId) (h : Tryd.prog.typeName? 3 u = some "*errors.errorString") : u = 100 :=
  typeName_ptr_named (nm := "errors.errorString") (by rw [star]; kernel_rfl) (by kernel_rfl) (by decide) u (by rw [star]; exact h)
theorem gI : Tryd.prog.globalNamed "loop.example/g00975/impl.errInner" = some 0 := by kernel_rfl
theorem gO : Tryd.prog.globalNamed "loop.example/g00975/impl.errOuter" = some 1 := by kernel_rfl
theorem gIT : (Tryd.prog.globals[0]?).map (·.type) = some 59 := by kernel_rfl
theorem gOT : (Tryd.prog.globals[1]?).map (·.type) = some 59 := by kernel_rfl
theorem cE : Tryd.prog.cellsOf 126 = 1 := by kernel_rfl
theorem cS : Tryd.prog.cellsOf 9 = 1 := by kernel_rfl
def nI : String := "loop.example/g00975/impl.errInner"
def nO : String := "loop.example/g00975/impl.errOuter"

/-- A variable as it was, in a world that agrees below. -/
theorem var_below {W w' : World} {n : String} {cs : Array Value} (h : W.var? Tryd.prog n = some cs) (hb : Below W.heap.size W w') : w'.var? Tryd.prog n = some cs := by
  unfold World.var? at h ⊢
  cases hg : Tryd.prog.globalNamed n with
  | none => simp [hg] at h
  | some g =>
    simp only [hg, Option.bind_some] at h ⊢
    have hlt : g < W.heap.size := by
      rcases Nat.lt_or_ge g W.heap.size with h' | h'
      · exact h'
      · simp [Array.getElem?_eq_none h'] at h
    rw [hb.block g hlt]
    exact h

/-- What both listed variables give. -/
theorem both {W : World} (h : laidMetH Tryd.prog [("loop.example/g00975/impl.errInner", Rows.laid_loop_example_g00975_impl_errInner), ("loop.example/g00975/impl.errOuter", Rows.laid_loop_example_g00975_impl_errOuter)] W) :
    ∃ a b, Sent W a b ∧ W.var? Tryd.prog nI = some #[.iface 100 (.pointer (some a))] ∧ W.var? Tryd.prog nO = some #[.iface 100 (.pointer (some b))] := by
  have h' : laidMet Tryd.prog [("loop.example/g00975/impl.errInner", Rows.laid_loop_example_g00975_impl_errInner), ("loop.example/g00975/impl.errOuter", Rows.laid_loop_example_g00975_impl_errOuter)] W := h
  obtain ⟨a0, a1, s0, s1, c0, c1, t0, t1, hv0, hv1, hc0, hs0, hz0, hc1, hs1, hz1, hne, hb0, hb1⟩ := laid_sentinels2 h' gI gIT gO gOT Tryd.underlying59 rowE Tryd.underlying100 Tryd.underlying126 rfl rfl Tryd.underlying9 cE cS
  exact ⟨a0, a1, ⟨by unfold Sent1; simpa using World.var?_cell gI hv0 0, by simpa using World.var?_cell gO hv1 0, hne.symm, ⟨_, _, hb0⟩, _, _, hb1⟩, hv0, hv1⟩
/-- .. and the first alone. -/
theorem one {W : World} (h : laidMetH Tryd.prog [("loop.example/g00975/impl.errInner", Rows.laid_loop_example_g00975_impl_errInner)] W) :
    ∃ a, Sent1 W a ∧ W.var? Tryd.prog nI = some #[.iface 100 (.pointer (some a))] := by
  have h' : laidMet Tryd.prog [("loop.example/g00975/impl.errInner", Rows.laid_loop_example_g00975_impl_errInner)] W := h
  obtain ⟨a0, s0, hv0, _⟩ := laid_sentinel h' gI gIT Tryd.underlying59 rowE Tryd.underlying100 Tryd.underlying126 rfl rfl Tryd.underlying9 cE cS
  exact ⟨a0, by unfold Sent1; simpa using World.var?_cell gI hv0 0, hv0⟩

section
variable {H : Type} (enc : TypeId × Value → H)
theorem read1 {X : World} {a : Addr} (h : X.var? Tryd.prog nI = some #[.iface 100 (.pointer (some a))]) (sp : Nat → Bool) :
    DataW.TrodVars enc Tryd.prog X sp [nI] [tok enc (.iface 100 (.pointer (some a)))] [.cell 0 0] :=
  vars_read1 enc gI gIT Tryd.underlying59 h trivial sp
theorem read2 {X : World} {a b : Addr} (h : X.var? Tryd.prog nI = some #[.iface 100 (.pointer (some a))]) (h' : X.var? Tryd.prog nO = some #[.iface 100 (.pointer (some b))]) (sp : Nat → Bool) :
    DataW.TrodVars enc Tryd.prog X sp [nI, nO] [tok enc (.iface 100 (.pointer (some a))), tok enc (.iface 100 (.pointer (some b)))] [.cell 0 0, .cell 1 0] :=
  vars_read2 enc gI gIT Tryd.underlying59 h trivial gO gOT Tryd.underlying59 h' trivial sp
end

section
variable {H : Type} {enc : TypeId × Value → H} {P : Program}
/-- The row's last step where of the world behind the call 'Below' alone is known, whatever arguments, with named variables that are read again. -/
theorem post_vars {f : Func} {s : ChangeSpec} {fresh handsOn again : Bool} {W W' : World} {args : Array Value} {v : Value} {ds gs : List (DataW H)} {p q : List MemPlace}
    (hl : laidOutB P = true) (hread : f.params.toList.all (fun t => P.readableRec t && decide (t < P.types.size)) = true)
    (hvr : (s.fn H (ds ++ gs)).vars = gs) (har : (s.fn H (ds ++ gs)).args = ds)
    (hW : DataW.Whole enc P f.params.toList s.vars false W args.toList ds gs (p ++ q)) (hA : DataW.TrodAll enc P W 0 (fun _ => true) true f.params.toList args.toList ds p) (hb : Below W.heap.size W W')
    (hv : ∀ sp : Nat → Bool, DataW.TrodVars enc P W' sp s.vars gs q)
    (hr : ∀ (b : Nat) (sp : Nat → Bool) (hd : Bool), DataW.TrodAll enc P W' b sp hd f.resultTypes.toList (v.resultList f.resultTypes.size) (s.fn H (ds ++ gs)).results [])
    (hok : ∀ (j : Nat) (t : TypeId) (r : Value), f.resultTypes[j]? = some t → (v.resultList f.resultTypes.size)[j]? = some r → Value.okWide P W' .any 0 t r) :
    s.post enc P f false fresh handsOn again W args v W' := by
  have lt := hW.lt
  have fz : W'.noneFrozen (p ++ q) := by
    obtain ⟨_, _, _, _, _, h, _⟩ := hW
    intro b off hm
    exact (hb.frozen (lt _ hm)).trans (h b off hm)
  have ha : ∀ sp : Nat → Bool, (∀ x ∈ p, sp x.block = true) → DataW.TrodAll enc P W' 0 sp true f.params.toList args.toList (s.fn H (ds ++ gs)).args p := fun sp hsp => by
    rw [har]
    refine trodAll_stays hl hb _ _ _ _ (fun t ht => ?_) hA (fun x hx => lt x (by simp [hx])) hsp
    have := List.all_eq_true.1 hread t ht
    simpa using this
  have tv : ∀ sp : Nat → Bool, DataW.TrodVars enc P W' sp s.vars (s.fn H (ds ++ gs)).vars q := fun sp => by rw [hvr]; exact hv sp
  have two := trodAll_append (ha (fun _ => true) (fun _ _ => rfl)) (hr 0 (fun _ => true) true)
  rw [List.nil_append] at two
  exact ⟨ds, gs, p ++ q, [], p, q, hW, hr _ _ _, ha _ (fun x hx => decide_eq_true (lt x (by simp [hx]))), tv _,
    World.keptBut_mono (fun x hx => ⟨hx, Or.inr (List.mem_append.1 hx)⟩) (hb.frame (· ∈ p ++ q)),
    fun _ => ⟨hok, _, _, p ++ q, ⟨p, q, two, tv _, rfl, fz, fun h => by cases h⟩, fun _ hx _ => hx⟩⟩
end
end Go.Proofs.YtilgkknmldlklaaDoor.LaidW
