/-
  How many tables mappings need: the document's own count.
-/
import Derived.Test.YtjdiaebgidgmaafGreatWalkI
import Derived.Test.YtjdiaebgidgmaafGreatPlainTI
import Derived.Test.YtjdiaebgidgmaafGreatTabCp
import Derived.Deep.AppendLies
namespace Go.Proofs.YtjdiaebgidgmaafGreat
open Go.RowKit Go.Sort
set_option linter.unusedVariables false
set_option maxRecDepth 100000

end Go.Proofs.YtjdiaebgidgmaafGreat

namespace Go.Proofs.YtjdiaebgidgmaafGreat
open Go.RowKit Go.Sort
set_option linter.unusedVariables false
set_option linter.unusedSimpArgs false
set_option maxRecDepth 100000

end Go.Proofs.YtjdiaebgidgmaafGreat
