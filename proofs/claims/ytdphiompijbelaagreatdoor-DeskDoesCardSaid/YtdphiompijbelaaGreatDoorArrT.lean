import Derived.Test.YtdphiompijbelaaGreatDoorChecked
import Derived.ChangeKeysEq
import Derived.WalkSmall
set_option maxRecDepth 100000
open Go.Value renaming int->J
open Go.IntKind renaming u64->I
namespace Go.Proofs.YtdphiompijbelaaGreatDoor
open Go.RowKit
theorem yic:(Tryz.prog.info? 93).map (λi=>(i.zero,i.size,i.bytes))=some (some (J I 0),1,8):=by kernel_rfl
def yhS(h k w a b c d e:Int):Bool:=h==0&&(k==0&&(w==0&&(a==0&&(b==0&&(c==0&&(d==0&&e==0))))))
theorem yfr(k c d e f g j l:Int)(w:World):Sem.run Tryz.prog (Op.equalIn 10000 167 (.agg #[J I k,J I c,J I d,J I e,J I f,J I g,J I j,J I l]) (.agg #[J I 0,J I 0,J I 0,J I 0,J I 0,J I 0,J I 0,J I 0])) w= .ok (yhS k c d e f g j l) w:=by obtain⟨K,F,T,rT,rP⟩:=info_parts yic;have L:Tryz.prog.underlying 167=some (.array 8 93):=by{kernel_rfl};have p:Tryz.prog.underlying 93=some (.int I):=by{kernel_rfl};have o:Tryz.prog.plainKey 93=true:=by{kernel_rfl};have S:Tryz.prog.cellsOf 93=1:=by{kernel_rfl};have D:∀(a b:Int)(w:World),(Op.equalIn 9999 93 (J I a) (J I b)).run Tryz.prog w= .ok (a==b) w:=λa b w=>run_equalIn_int w 9998 _ _ _ _ _ p;have h:∀(m n:Array Value)(i:Nat)(a b:Int)(is:List Nat)(w:World),m[i*1]?=some (J I a)->n[i*1]?=some (J I b)->(Op.eqItems 9999 93 1 m n (i::is)).run Tryz.prog w=bif a==b then(Op.eqItems 9999 93 1 m n is).run Tryz.prog w else .ok false w:=by{intro m n i a b is w z X;simp only[Op.eqItems,Sem.run_bind,run_part_plain w o z,run_part_plain w o X,D,Result.andThen_ok];cases a==b<;>rfl};rw[show(10000:Nat)=9999+1 from rfl,run_equalIn_array w 9999 _ _ L F,S];have W:List.range 8=[0,1,2,3,4,5,6,7]:=rfl;rw[W,h _ _ 0 k 0 _ _ rfl rfl,h _ _ 1 c 0 _ _ rfl rfl,h _ _ 2 d 0 _ _ rfl rfl,h _ _ 3 e 0 _ _ rfl rfl,h _ _ 4 f 0 _ _ rfl rfl,h _ _ 5 g 0 _ _ rfl rfl,h _ _ 6 j 0 _ _ rfl rfl,h _ _ 7 l 0 _ _ rfl rfl];unfold yhS;generalize (k==0)=q;generalize (c==0)=r;generalize (d==0)=s;generalize (e==0)=t;generalize (f==0)=u;generalize (g==0)=v;generalize (j==0)=x;generalize (l==0)=y;cases q;{rfl};cases r;{rfl};cases s;{rfl};cases t;{rfl};cases u;{rfl};cases v;{rfl};cases x;{rfl};cases y<;>rfl
end Go.Proofs.YtdphiompijbelaaGreatDoor
