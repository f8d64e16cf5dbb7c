import Derived.Test.YtkhnelgommaioaaGreatDvFace
import Derived.Test.YtkhnelgommaioaaGreatFrameB
import Derived.Test.YtkhnelgommaioaaGreatTabN
import Derived.Test.YtkhnelgommaioaaGreatLooseT
import Derived.Deep.Quiet
namespace Go.Proofs.YtkhnelgommaioaaGreat
open Go.RowKit Go.Sort
set_option linter.unusedVariables false
set_option linter.unusedSimpArgs false
set_option maxRecDepth 100000
attribute [local go_sem] Loose.gent
theorem greatSteps_any (ad:Option Addr) (len cap:Nat) (k:Int) (w:World):Calls Tryz.prog 9 #[.slice ad len cap,.int .i64 k] w fun e w'=>e= .returned (.bool (decide (k<(len:Int))))/\w'=w:=by
 go_enter Tryz.func9,Tryz.ntmps9
 go_wp2_with fail
 go_ret
 exact⟨rfl,rfl⟩
def Bst.sx (x:Bst):Pg.Sx:=⟨x.kind,x.core,x.m,x.q,x.k,x.u⟩
section
variable {P:World->Nat->Pg.Spc->(Nat->Prop)->Prop}
end
end Go.Proofs.YtkhnelgommaioaaGreat
