import Derived.Test.YtdphiompijbelaaGreatDoorRows
import Derived.JoinedOf
import Derived.KernelRfl
set_option maxRecDepth 100000
namespace Go.Proofs.YtdphiompijbelaaGreatDoor
open Go.WideShapes
theorem deskJoins_and {a b:Bool} (h:a=true) (k:b=true):(a&&b)=true:=by rw[h,k];rfl
set_option maxHeartbeats 8000000 in
theorem deskJoins_closed:joinedFacts Tryz.pinned.checked.prog 4 Tryz.f4 Rows.deskJoinsSpec Rows.deskJoinsRow=true:=by
 delta joinedFacts
 repeat' (with_reducible refine deskJoins_and ?_ ?_)
 all_goals as_aux_lemma=>kernel_rfl
end Go.Proofs.YtdphiompijbelaaGreatDoor
