import Derived.Test.YtdphiompijbelaaGreatChecked
import Derived.ChangeKeysEq
import Derived.WalkSmall
set_option maxRecDepth 100000
open Go.Value renaming int->J
open Go.IntKind renaming u64->I
namespace Go.Proofs.YtdphiompijbelaaGreat
open Go.RowKit
theorem ye9:(Tryz.prog.info? 64).map (fun i=>(i.zero,i.size,i.bytes))=some (some (J I 0),1,8):=by kernel_rfl
def yeW (x0 x1 x2 x3 x4 x5 x6 x7:Int):Bool:=x0==0&&(x1==0&&(x2==0&&(x3==0&&(x4==0&&(x5==0&&(x6==0&&x7==0))))))
theorem ydb (x0 x1 x2 x3 x4 x5 x6 x7:Int) (w:World):Sem.run Tryz.prog (Op.equalIn 10000 164 (.agg #[J I x0,J I x1,J I x2,J I x3,J I x4,J I x5,J I x6,J I x7]) (.agg #[J I 0,J I 0,J I 0,J I 0,J I 0,J I 0,J I 0,J I 0])) w= .ok (yeW x0 x1 x2 x3 x4 x5 x6 x7) w:=by
 obtain⟨q0,hq,hz0,hz1,hz2⟩:=info_parts ye9
 have hu:Tryz.prog.underlying 164=some (.array 8 64):=by kernel_rfl
 have hu2:Tryz.prog.underlying 64=some (.int I):=by kernel_rfl
 have hp:Tryz.prog.plainKey 64=true:=by kernel_rfl
 have hc:Tryz.prog.cellsOf 64=1:=by kernel_rfl
 have hi:∀(a b:Int) (w:World),(Op.equalIn 9999 64 (J I a) (J I b)).run Tryz.prog w= .ok (a==b) w:=fun a b w=>run_equalIn_int w 9998 _ _ _ _ _ hu2
 have step:∀(xs ys:Array Value) (i:Nat) (a b:Int) (is:List Nat) (w:World),xs[i*1]?=some (J I a)->ys[i*1]?=some (J I b)->
  (Op.eqItems 9999 64 1 xs ys (i::is)).run Tryz.prog w=bif a==b then(Op.eqItems 9999 64 1 xs ys is).run Tryz.prog w else .ok false w:=by
  intro xs ys i a b is w h1 h2;simp only[Op.eqItems,Sem.run_bind,run_part_plain w hp h1,run_part_plain w hp h2,hi,Result.andThen_ok]
  cases a==b<;>rfl
 rw[show(10000:Nat)=9999+1 from rfl,run_equalIn_array w 9999 _ _ hu hq,hc];have hr:List.range 8=[0,1,2,3,4,5,6,7]:=rfl;rw[hr,step _ _ 0 x0 0 _ _ rfl rfl,step _ _ 1 x1 0 _ _ rfl rfl,step _ _ 2 x2 0 _ _ rfl rfl,step _ _ 3 x3 0 _ _ rfl rfl,step _ _ 4 x4 0 _ _ rfl rfl,step _ _ 5 x5 0 _ _ rfl rfl,step _ _ 6 x6 0 _ _ rfl rfl,step _ _ 7 x7 0 _ _ rfl rfl];unfold yeW;generalize (x0==0)=b0;generalize (x1==0)=b1;generalize (x2==0)=b2;generalize (x3==0)=b3;generalize (x4==0)=b4;generalize (x5==0)=b5;generalize (x6==0)=b6;generalize (x7==0)=b7;cases b0
 ·rfl
 cases b1
 ·rfl
 cases b2
 ·rfl
 cases b3
 ·rfl
 cases b4
 ·rfl
 cases b5
 ·rfl
 cases b6
 ·rfl
 cases b7<;>rfl
end Go.Proofs.YtdphiompijbelaaGreat
