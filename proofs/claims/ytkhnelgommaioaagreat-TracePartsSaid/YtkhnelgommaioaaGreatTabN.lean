import Derived.Test.YtkhnelgommaioaaGreatWalkI
import Derived.Test.YtkhnelgommaioaaGreatPlainTI
import Derived.Test.YtkhnelgommaioaaGreatTabCp
import Derived.Deep.AppendLies
namespace Go.Proofs.YtkhnelgommaioaaGreat
open Go.RowKit Go.Sort
set_option linter.unusedVariables false
set_option maxRecDepth 100000
set_option linter.unusedSimpArgs false
theorem wrap64_in {n:Int} (h0: -9223372036854775808<=n) (h1:n<=9223372036854775807):wrap64 n=n:=by
 unfold wrap64
 omega
end Go.Proofs.YtkhnelgommaioaaGreat
