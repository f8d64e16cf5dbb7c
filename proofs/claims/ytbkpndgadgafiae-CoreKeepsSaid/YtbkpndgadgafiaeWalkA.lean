/-
  The developers' search through tables: what reading a place comes to, and what a search tells, whatever it is handed where to look and whom to tell.
-/
import Derived.Test.YtbkpndgadgafiaeFrames
import Derived.Test.YtbkpndgadgafiaePageB
import Derived.Test.YtbkpndgadgafiaeEntry
import Derived.Test.YtbkpndgadgafiaeEntryB
import Derived.Test.YtbkpndgadgafiaePlainW
namespace Go.Proofs.Ytbkpndgadgafiae
open Go.RowKit Go.Sort
set_option linter.unusedVariables false
set_option maxRecDepth 100000

end Go.Proofs.Ytbkpndgadgafiae
