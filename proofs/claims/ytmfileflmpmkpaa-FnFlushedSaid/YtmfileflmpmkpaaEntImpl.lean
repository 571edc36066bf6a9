/-
  The buffer of entries: the project's functions of chapter 8, in the words of the laws. No condition beyond a buffer's length and its numbers being of an int's range.
-/
import Derived.Test.YtmfileflmpmkpaaEntNew
import Derived.Test.YtmfileflmpmkpaaEntSort
namespace Go.Proofs.Ytmfileflmpmkpaa.Ents
set_option maxRecDepth 100000
open Go.ChangeShapes Go.WideShapes Go.ChangeAt Go.RowKit
open Go.Proofs.Ytmfileflmpmkpaa.Base Go.Proofs.Ytmfileflmpmkpaa.Mem Go.Proofs.Ytmfileflmpmkpaa.Data
set_option linter.unusedVariables false
section
variable (A : Option Addr) (n c : Nat) (l : List ET) (w : World)
theorem impl_find (t p : Int) (hn : n ≤ 1048576) (hl : l.length = n) (h1 : Lies w 0 w.heap.size A (ecells l)) (wl : wfEL l) (wt : (Lit.int .i64 t).wf = true) (wp : (Lit.int .i64 p).wf = true) :
    Calls Try.prog 21 #[.slice A n c, .int .i64 t, .int .i64 p] w (EntP w (findE l t p)) := impl_findE A n c l w t p hn hl h1
theorem impl_put (e0 e1 e2 e3 : Int) (hn : n ≤ 1048576) (hl : l.length = n) (h1 : Lies w 0 w.heap.size A (ecells l)) (wl : wfEL l) (we : wfE (e0, e1, e2, e3)) :
    Calls Try.prog 15 #[.slice A n c, .agg #[.int .i64 e0, .int .i64 e1, .int .i64 e2, .int .i64 e3]] w (EntsP w (putE l (e0, e1, e2, e3))) := (impl_putC A n c l w e0 e1 e2 e3 hn hl h1).mono EntsPC.ents
theorem impl_flushP (t p : Int) (hn : n ≤ 1048576) (hl : l.length = n) (h1 : Lies w 0 w.heap.size A (ecells l)) (wl : wfEL l) (wt : (Lit.int .i64 t).wf = true) (wp : (Lit.int .i64 p).wf = true) :
    Calls Try.prog 27 #[.slice A n c, .int .i64 t, .int .i64 p] w (EntsP w (flushP l t p)) := (impl_flushPr A n c l w t p hn hl h1).mono EntRow.ents
theorem impl_flushT (t : Int) (hn : n ≤ 1048576) (hl : l.length = n) (h1 : Lies w 0 w.heap.size A (ecells l)) (wl : wfEL l) (wt : (Lit.int .i64 t).wf = true) :
    Calls Try.prog 28 #[.slice A n c, .int .i64 t] w (EntsP w (flushT l t)) := (impl_flushTr A n c l w t hn hl h1).mono EntRow.ents
theorem impl_flushH (t : Int) (hn : n ≤ 1048576) (hl : l.length = n) (h1 : Lies w 0 w.heap.size A (ecells l)) (wl : wfEL l) (wt : (Lit.int .i64 t).wf = true) :
    Calls Try.prog 30 #[.slice A n c, .int .i64 t] w (EntsP w (flushH l t)) := (impl_flushHr A n c l w t hn hl h1).mono EntRow.ents
theorem impl_tags (hn : n ≤ 1048576) (hl : l.length = n) (h1 : Lies w 0 w.heap.size A (ecells l)) (wl : wfEL l) :
    Calls Try.prog 24 #[.slice A n c] w (Slots.UsesPost w (tagsL l)) := impl_tagsE A n c l w hn hl h1
end
end Go.Proofs.Ytmfileflmpmkpaa.Ents
