/-
  The buffer of entries: the project's three functions that flush, and entriesWithout at the closures that they hand it. No condition beyond a buffer's length.
-/
import Derived.Test.YteoddppeajlekaaEntFind
import Derived.Test.YteoddppeajlekaaEntTags
namespace Go.Proofs.Yteoddppeajlekaa.Ents
set_option maxRecDepth 100000
open Go.ChangeShapes Go.WideShapes Go.ChangeAt Go.RowKit
open Go.Proofs.Yteoddppeajlekaa.Base Go.Proofs.Yteoddppeajlekaa.Mem Go.Proofs.Yteoddppeajlekaa.Data
set_option linter.unusedVariables false
set_option linter.unusedSimpArgs false

end Go.Proofs.Yteoddppeajlekaa.Ents
