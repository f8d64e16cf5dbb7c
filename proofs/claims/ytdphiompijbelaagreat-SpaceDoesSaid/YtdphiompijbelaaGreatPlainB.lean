import Derived.WalkKit
import Derived.WalkLawsBesides
import Derived.WalkSmall
import Derived.WalkSpells
import Derived.BigQuiet
import Derived.Lib.QuietBelow
import Derived.OwnWalk
import Derived.Laws.IdiomCopy
import Derived.Test.YtdphiompijbelaaGreatChecked
set_option linter.all false
open Array renaming getElem?_eq_some_iff->kY,getElem?_range->kZ,getElem?_map->kO
open List renaming perm_append_comm->kR,append_assoc->kK,append_nil->kH
open Go.Proofs.Tryz renaming prog->E
open Go.RowKit.Below renaming heap_setCell->O,refl->M,heap_alloc->kC
open Nat renaming le_refl->U,lt_of_lt_of_le->A,le_trans->kF,zero_le->ky,mod_lt->kz
open Bool renaming true->Z,false->z,and_eq_true->kE,eq_iff_iff->kD
open Go renaming World->V,cell_later->K,Value->D,Calls->kP,heap_alloc_new->kV,bodyPost_ret->kW
open Go.Ending renaming returned->T
open Go.IntKind renaming i64->N,u64->kT
open Go.Value renaming int->C,bool->kI,agg->kN,ownBlock->kQ,slice->kX,int->kG,bool->ki
open Option renaming none->J,some->Y
open Go.World renaming cell?_of_block->I,cell?_setCell_other->R,frozen?_of_block->Q,cell?_setCell_same->X,block_lt_of_cell?->kJ,frozen?_setCells->kS,frozen?->kU,setCells->kL
namespace Go.Proofs.YtdphiompijbelaaGreat
open Go.RowKit
section
namespace Pg
def r8 (x:Int):Nat:=(BitVec.ofInt 64 x).toNat%8
theorem and_small (n m:Nat) (h:m<8):n&&&m=(n%8)&&&m:=by
 have h7:m=7&&&m:=by
  have:m=0\/m=1\/m=2\/m=3\/m=4\/m=5\/m=6\/m=7:=by omega
  rcases this with h|h|h|h|h|h|h|h<;>subst h<;>decide
 have e:n&&&7=n%8:=Nat.and_two_pow_sub_one_eq_mod n 3;rw[<-e,Nat.and_assoc,<-h7]
theorem ofInt_small (y:Nat) (h:y<8):(BitVec.ofInt 64 (y:Int)).toNat=y:=by
 rw[BitVec.toNat_ofInt];omega
theorem wrap_i64_small (n:Nat) (h:n<8):IntKind.i64.wrap (n:Int)=n:=by
 simp[IntKind.wrap,IntKind.bits,IntKind.signed];omega
theorem and_lt8 (a m:Nat) (h:m<8):a&&&m<8:=Nat.lt_of_le_of_lt Nat.and_le_right h
theorem yg7 (x:Int) (m:Nat) (h:m<8):bits .and N x (m:Int)=((r8 x&&&m:Nat):Int):=by
 unfold bits r8
 show IntKind.i64.wrap ((BitVec.ofInt 64 x&&&BitVec.ofInt 64 (m:Int)).toNat:Int)=_
 rw[BitVec.toNat_and,ofInt_small m h,and_small _ m h];exact wrap_i64_small _ (and_lt8 _ m h)
theorem r8_lt (x:Int):r8 x<8:=kz _ (by decide)
theorem u64_of_wrap64 (n:Int) (h0:0<=n) (h1:n<18446744073709551616):IntKind.u64.wrap (wrap64 n)=n:=by
 simp only[IntKind.wrap,IntKind.bits,IntKind.signed,wrap64,Bool.false_and,Bool.false_eq_true,if_false];omega
def below (n e:Int):Bool:=decide (0<=n)&&decide (n<e)
def span (s:Int):Int:=if s=0 then 1 else if s=1 then 8 else if s=2 then 64 else 0
def isKind (k:Int):Bool:=k==0||k==1||k==2
def check (p s f r:Int):Int:=
 if span s=0 then 2
 else if (!below p 4096|| !below f 1048576|| !below r 8)=Z then 1
 else if p%span s=0/\f%span s=0 then 0 else 3
def over (mp ms p:Int):Bool:=decide (mp<=p)&&decide (p-mp<span ms)
def meet (ap az bp bz:Int):Bool:=over ap az bp||over bp bz ap
def asks (k:Int) (u:Bool):Nat:=(if k=1 then 1 else if k=2 then 4 else 0)+(if u then 2 else 0)
def may (r k:Int) (u:Bool):Bool:=(r8 r&&&asks k u)==asks k u
def zK (p k:Int):Int:=if isKind k=Z then(if below p 4096=Z then 0 else 1)else 2
def index (p l:Int):Int:=if (below p 4096&&below l 4)=Z then p/8^l.toNat%8 else-1
def aEnd (r k:Int) (u:Bool):Int:=if may r k u=Z then 0 else 2
def ygW (p f r q k:Int) (u:Bool):Int:=if may r k u=Z then wrap64 (f+wrap64 (q-p))else 0
def ygK (r k:Int) (u:Bool):Int:=if may r k u=Z then r else 0
def fits (n:Int):Prop:= -9223372036854775808<=n/\n<=9223372036854775807
theorem asks_lt (k:Int) (u:Bool):asks k u<8:=by
 unfold asks;repeat (any_goals split)
 all_goals omega
theorem ygF (s:Int):(s=0/\span s=1)\/(s=1/\span s=8)\/(s=2/\span s=64)\/(s≠0/\s≠1/\s≠2/\span s=0):=by
 unfold span;split<;>(try split)<;>(try split)<;>omega
theorem ygV (s:Int):0<=span s/\span s<=64:=by
 rcases ygF s with h|h|h|h<;>omega
theorem yhe {n:Int} (h:(Lit.int N n).wf=Z):fits n:=by
 simp only[Lit.wf,IntKind.min,IntKind.max,IntKind.signed,IntKind.bits,kE,decide_eq_true_eq,if_true]at h;unfold fits;omega
theorem over_no {p s q:Int} (h:decide (p<=q)=z):over p s q=z:=by simp[over,h]
theorem over_yes {p s q:Int} (hp:fits p) (hq:fits q) (h:p<=q):decide (IntKind.u64.wrap (wrap64 (q-p))<span s)=over p s q:=by
 unfold fits at hp hq;rw[u64_of_wrap64 _ (by omega) (by omega)];simp[over,h]
theorem may_eq (r k:Int) (u:Bool):(bits .and N r (asks k u:Int)==(asks k u:Int))=may r k u:=by
 rw[yg7 r _ (asks_lt k u)];unfold may;rw[kD];simp only[beq_iff_eq];exact Int.ofNat_inj
theorem yhL {p s f r:Int} (h:span s=0):check p s f r=2:=by simp[check,h]
theorem ygQ {p s f r:Int} (h:span s≠0) (hb:(!below p 4096|| !below f 1048576|| !below r 8)=Z):check p s f r=1:=by
 simp only[check,h,if_false,hb,if_true]
theorem ygZ {p s f r:Int} (h:span s≠0) (h1:below p 4096=Z) (h2:below f 1048576=Z) (h3:below r 8=Z):
 check p s f r=if p%span s=0/\f%span s=0 then 0 else 3:=by
 simp[check,h,h1,h2,h3]
theorem zB {n e:Int}:below n e=Z ↔ 0<=n/\n<e:=by simp[below]
theorem index_at {p:Int} (h0:0<=p) (h1:p<4096):index p 0=p%8/\index p 1=p/8%8/\index p 2=p/64%8/\index p 3=p/512:=by
 have hb:below p 4096=Z:=zB.2 ⟨h0,h1⟩
 have hi:∀l:Int,below l 4=Z->index p l=p/8^l.toNat%8:=fun l hl=>by simp[index,hb,hl]
 refine⟨?_,?_,?_,?_⟩<;>rw[hi _ (by decide)]
 ·show p/1%8=_;omega
 ·show p/8%8=_;omega
 ·show p/64%8=_;omega
 ·show p/512%8=_;omega
theorem yhk {p s f r:Int} (h:check p s f r=0):span s≠0/\0<=p/\p<4096/\0<=f/\f<1048576/\0<=r/\r<8/\p%span s=0/\f%span s=0:=by
 unfold check at h;split at h
 ·omega
 ·split at h
  ·omega
  ·split at h
   ·rename_i h1 h2 h3
    simp[below]at h2;refine⟨h1,?_⟩;obtain⟨h3a,h3b⟩:=h3;omega
   ·omega
def sameUpto (p q:Int):Nat->Bool
 | 0=>Z
 | k+1=>sameUpto p q k&&(index p (k:Int)==index q (k:Int))
def cnt (np ns mp:Int):Nat->Int
 | 0=>0
 | j+1=>cnt np ns mp j+(if over np ns (mp+(j:Int))=Z then 1 else 0)
theorem cnt_eq (np ns mp:Int) (j:Nat):cnt np ns mp j=max 0 (min (mp+j) (np+span ns)-max mp np):=by
 have hs:=(ygV ns).1
 induction j with
 | zero=>simp only[cnt];omega
 | succ j ih=>
   simp only[cnt,ih]
   have e:(over np ns (mp+(j:Int))=Z) ↔ (np<=mp+j/\mp+j-np<span ns):=by simp[over]
   by_cases h:np<=mp+(j:Int)/\mp+(j:Int)-np<span ns
   ·rw[if_pos (e.2 h)];omega
   ·rw[if_neg (fun x=>h (e.1 x))];omega
theorem yis (a s b t:Int):meet a s b t=decide ((a<=b/\b-a<span s)\/(b<=a/\a-b<span t)):=by
 rw[kD];simp[meet,over]
theorem meets {mp ms mf mr np ns nf nr:Int} (h:check mp ms mf mr=0) (h':check np ns nf nr=0):
 (cnt np ns mp (span ms).toNat=0/\meet mp ms np ns=z/\meet np ns mp ms=z)\/
 (0<cnt np ns mp (span ms).toNat/\cnt np ns mp (span ms).toNat=min (span ms) (span ns)/\meet mp ms np ns=Z/\meet np ns mp ms=Z):=by
 obtain⟨z0,z1,z2,_,_,_,_,z3,_⟩:=yhk h;obtain⟨y0,y1,y2,_,_,_,_,y3,_⟩:=yhk h';rw[cnt_eq,yis,yis];simp only[decide_eq_false_iff_not,decide_eq_true_eq]
 rcases ygF ms with ⟨_,hv⟩|⟨_,hv⟩|⟨_,hv⟩|⟨_,_,_,hv⟩<;>rcases ygF ns with ⟨_,hw⟩|⟨_,hw⟩|⟨_,hw⟩|⟨_,_,_,hw⟩
 all_goals
  rw[hv]at z0 z3;rw[hw]at y0 y3;rw[hv,hw];omega
theorem below_not {n e:Int}:below n e=z ↔ n<0\/e<=n:=by simp[below];omega
end Pg
open Go.RowKit Go.Sort
set_option linter.unusedVariables false
theorem xE {W w1:V} (hb:Below W.heap.size W w1):(∀b o,b<W.heap.size->w1.cell? ⟨b,o,J⟩=W.cell? ⟨b,o,J⟩)/\(∀b o,b<W.heap.size->w1.frozen? ⟨b,o,J⟩=W.frozen? ⟨b,o,J⟩):=
 ⟨fun b o h=>hb.cell (p:=⟨b,o,J⟩) h,fun b o h=>hb.frozen (p:=⟨b,o,J⟩) h⟩
theorem zT {w w1 w2:V} (h:Below w.heap.size w w1) (hb:Below w1.heap.size w1 w2):Below w.heap.size w w2:=h.trans (hb.mono h.size)
theorem zA {w w1:V} (h:Below w.heap.size w w1) (o:Obj):Below w.heap.size w (w1.alloc o):=h.alloc h.size o
theorem zR (w:V):Below w.heap.size w w:=M _ _
theorem zX {P:Program} {f:FuncId} {args:Array D} {w:V} {v:D}
 (h:kP P f args w fun e w'=>e=T v/\w'=w):kP P f args w fun e w'=>e=T v/\Below w.heap.size w w':=
 h.mono fun _ _ ⟨he,hw⟩=>⟨he,hw▸zR w⟩
theorem xP {w w':V} {b:Nat} {v0 v1 v2:D} (hb:Below w.heap.size w w')
 (h:w.cell? ⟨b,0,J⟩=Y v0/\w.cell? ⟨b,1,J⟩=Y v1/\w.cell? ⟨b,2,J⟩=Y v2):
 w'.cell? ⟨b,0,J⟩=Y v0/\w'.cell? ⟨b,1,J⟩=Y v1/\w'.cell? ⟨b,2,J⟩=Y v2:=
 ⟨K hb h.1,K hb h.2.1,K hb h.2.2⟩
theorem xc {w w':V} {b:Nat} {v0 v1 v2 v3:D} (hb:Below w.heap.size w w')
 (h:w.cell? ⟨b,0,J⟩=Y v0/\w.cell? ⟨b,1,J⟩=Y v1/\w.cell? ⟨b,2,J⟩=Y v2/\w.cell? ⟨b,3,J⟩=Y v3):
 w'.cell? ⟨b,0,J⟩=Y v0/\w'.cell? ⟨b,1,J⟩=Y v1/\w'.cell? ⟨b,2,J⟩=Y v2/\w'.cell? ⟨b,3,J⟩=Y v3:=
 ⟨K hb h.1,K hb h.2.1,K hb h.2.2.1,K hb h.2.2.2⟩
theorem ybh {w w':V} {a:Addr} {v:D} (hb:Below w.heap.size w w') (h:w.cell? a=Y v) (hf:w.frozen? a=z):w'.frozen? a=z:=
 (hb.frozen (kJ _ _ h)).trans hf
theorem zQ {w w':V} {b:Nat} {v0 v1 v2 v3 v4 v5:D} (hb:Below w.heap.size w w')
 (h:w.cell? ⟨b,0,J⟩=Y v0/\w.cell? ⟨b,1,J⟩=Y v1/\w.cell? ⟨b,2,J⟩=Y v2/\w.cell? ⟨b,3,J⟩=Y v3/\w.cell? ⟨b,4,J⟩=Y v4/\w.cell? ⟨b,5,J⟩=Y v5):
 w'.cell? ⟨b,0,J⟩=Y v0/\w'.cell? ⟨b,1,J⟩=Y v1/\w'.cell? ⟨b,2,J⟩=Y v2/\w'.cell? ⟨b,3,J⟩=Y v3/\w'.cell? ⟨b,4,J⟩=Y v4/\w'.cell? ⟨b,5,J⟩=Y v5:=
 ⟨K hb h.1,K hb h.2.1,K hb h.2.2.1,K hb h.2.2.2.1,K hb h.2.2.2.2.1,K hb h.2.2.2.2.2⟩
theorem vJ {w w':V} {b:Nat} {u0 u1 u2 u3 u4 u5 v0 v1 v2 v3 v4 v5:D} (hB:Below w.heap.size w w') (hbl:w.heap.size<=b) (h:w'.cell? ⟨b,0,J⟩=Y u0/\w'.cell? ⟨b,1,J⟩=Y u1/\w'.cell? ⟨b,2,J⟩=Y u2/\w'.cell? ⟨b,3,J⟩=Y u3/\w'.cell? ⟨b,4,J⟩=Y u4/\w'.cell? ⟨b,5,J⟩=Y u5):
 Below w.heap.size w ((((((w'.setCell ⟨b,0,J⟩ v0).setCell ⟨b,1,J⟩ v1).setCell ⟨b,2,J⟩ v2).setCell ⟨b,3,J⟩ v3).setCell ⟨b,4,J⟩ v4).setCell ⟨b,5,J⟩ v5)/\
 (((((((w'.setCell ⟨b,0,J⟩ v0).setCell ⟨b,1,J⟩ v1).setCell ⟨b,2,J⟩ v2).setCell ⟨b,3,J⟩ v3).setCell ⟨b,4,J⟩ v4).setCell ⟨b,5,J⟩ v5).cell? ⟨b,0,J⟩=Y v0/\((((((w'.setCell ⟨b,0,J⟩ v0).setCell ⟨b,1,J⟩ v1).setCell ⟨b,2,J⟩ v2).setCell ⟨b,3,J⟩ v3).setCell ⟨b,4,J⟩ v4).setCell ⟨b,5,J⟩ v5).cell? ⟨b,1,J⟩=Y v1/\((((((w'.setCell ⟨b,0,J⟩ v0).setCell ⟨b,1,J⟩ v1).setCell ⟨b,2,J⟩ v2).setCell ⟨b,3,J⟩ v3).setCell ⟨b,4,J⟩ v4).setCell ⟨b,5,J⟩ v5).cell? ⟨b,2,J⟩=Y v2/\((((((w'.setCell ⟨b,0,J⟩ v0).setCell ⟨b,1,J⟩ v1).setCell ⟨b,2,J⟩ v2).setCell ⟨b,3,J⟩ v3).setCell ⟨b,4,J⟩ v4).setCell ⟨b,5,J⟩ v5).cell? ⟨b,3,J⟩=Y v3/\((((((w'.setCell ⟨b,0,J⟩ v0).setCell ⟨b,1,J⟩ v1).setCell ⟨b,2,J⟩ v2).setCell ⟨b,3,J⟩ v3).setCell ⟨b,4,J⟩ v4).setCell ⟨b,5,J⟩ v5).cell? ⟨b,4,J⟩=Y v4/\((((((w'.setCell ⟨b,0,J⟩ v0).setCell ⟨b,1,J⟩ v1).setCell ⟨b,2,J⟩ v2).setCell ⟨b,3,J⟩ v3).setCell ⟨b,4,J⟩ v4).setCell ⟨b,5,J⟩ v5).cell? ⟨b,5,J⟩=Y v5)/\
 (∀c o v,c≠b->w'.cell? ⟨c,o,J⟩=Y v->((((((w'.setCell ⟨b,0,J⟩ v0).setCell ⟨b,1,J⟩ v1).setCell ⟨b,2,J⟩ v2).setCell ⟨b,3,J⟩ v3).setCell ⟨b,4,J⟩ v4).setCell ⟨b,5,J⟩ v5).cell? ⟨c,o,J⟩=Y v)/\
 (∀c o,((((((w'.setCell ⟨b,0,J⟩ v0).setCell ⟨b,1,J⟩ v1).setCell ⟨b,2,J⟩ v2).setCell ⟨b,3,J⟩ v3).setCell ⟨b,4,J⟩ v4).setCell ⟨b,5,J⟩ v5).frozen? ⟨c,o,J⟩=w'.frozen? ⟨c,o,J⟩):=by
 refine⟨(((((hB.setCell hbl _).setCell hbl _).setCell hbl _).setCell hbl _).setCell hbl _).setCell hbl _,?_,?_,?_⟩
 ·simp[go_sem,h]
 ·intro c o v _ hv
  simp[go_sem,hv]
 ·intro c o
  simp[go_sem]
theorem xJ {k:IntKind} {a b:Int} (h:a=b):Ending.returned (C k a)=T (C k b):=by rw[h]
theorem yaR {k k':IntKind} {a b c d:Int} (h:a=b) (h':c=d):Ending.returned (.tuple #[C k a,C k' c])=T (.tuple #[C k b,C k' d]):=by rw[h,h']
theorem xi {a b:Bool} (h:a=b):Ending.returned (kI a)=T (kI b):=by rw[h]
theorem qc {n:Int} (h0: -9223372036854775808<=n) (h1:n<=9223372036854775807):IntKind.i64.wrap n=n:=by
 rw[IntKind.wrap_i64];omega
theorem jO (w:V) (a b c:Obj):(((w.alloc a).alloc b).alloc c).heap[w.heap.size]?=Y a/\(((w.alloc a).alloc b).alloc c).heap[w.heap.size+1]?=Y b/\(((w.alloc a).alloc b).alloc c).heap[w.heap.size+1+1]?=Y c:=by
 have s1:(w.alloc a).heap.size=w.heap.size+1:=by simp
 have s2:((w.alloc a).alloc b).heap.size=w.heap.size+1+1:=by simp
 refine⟨?_,?_,?_⟩
 ·rw[kC _ _ _ (by omega),kC _ _ _ (by omega)]
  exact kV w a
 ·rw[kC _ _ _ (by omega),<-s1]
  exact kV (w.alloc a) b
 ·rw[<-s2]
  exact kV ((w.alloc a).alloc b) c
structure But (F:Nat->Prop) (w w':V):Prop where
 os:w'.os=w.os
 tape:w'.tape=w.tape
 output:w'.output=w.output
 size:w.heap.size<=w'.heap.size
 block:∀k,k<w.heap.size->¬F k->w'.heap[k]?=w.heap[k]?
namespace But
variable {F G:Nat->Prop} {w w1 w2:V}
theorem refl (F:Nat->Prop) (w:V):But F w w:=⟨rfl,rfl,rfl,U _,fun _ _ _=>rfl⟩
theorem trans (h:But F w w1) (k:But G w1 w2) (hG:∀i,i<w.heap.size->G i->F i):But F w w2:=
 ⟨k.os.trans h.os,k.tape.trans h.tape,k.output.trans h.output,kF h.size k.size,
  fun i hi hF=>(k.block i (A hi h.size) (fun hg=>hF (hG i hi hg))).trans (h.block i hi hF)⟩
theorem mono (h:But F w w1) (hG:∀i,i<w.heap.size->F i->G i):But G w w1:=
 ⟨h.os,h.tape,h.output,h.size,fun i hi hg=>h.block i hi (fun hf=>hg (hG i hi hf))⟩
theorem alloc (h:But F w w1) (o:Obj):But F w (w1.alloc o):=
 ⟨h.os,h.tape,h.output,kF h.size (by simp),fun i hi hF=>(kC w1 o i (A hi h.size)).trans (h.block i hi hF)⟩
theorem drew (h:But F w w1):But F w w1.drew:=⟨h.os,h.tape,h.output,h.size,h.block⟩
theorem setCell (h:But F w w1) {a:Addr} (ha:w.heap.size<=a.block\/F a.block) (v:D):But F w (w1.setCell a v):=by
 have hb:Below 0 w1 (w1.setCell a v):=(M 0 w1).setCell (ky _) v;refine⟨hb.os.trans h.os,hb.tape.trans h.tape,hb.output.trans h.output,kF h.size hb.size,fun i hi hF=> ?_⟩;refine(O w1 a v i ?_).trans (h.block i hi hF);rintro rfl;rcases ha with h'|h'
 ·omega
 ·exact hF h'
theorem grown (h:But F w w1) {row:Option Nat} (hg:w1.grownBy w2 row) (hr:∀k,row=Y k->w.heap.size<=k\/F k):But F w w2:=
 ⟨hg.os.trans h.os,hg.tape.trans h.tape,hg.output.trans h.output,kF h.size hg.size,fun i hi hF=>
  (hg.block i (A hi h.size) (fun e=>(hr i e.symm).elim (fun h'=>by omega) hF)).trans (h.block i hi hF)⟩
theorem cell (h:But F w w1) {a:Addr} (ha:a.block<w.heap.size) (hF:¬F a.block):w1.cell? a=w.cell? a:=I (h.block a.block ha hF)
theorem frozen (h:But F w w1) {a:Addr} (ha:a.block<w.heap.size) (hF:¬F a.block):w1.frozen? a=w.frozen? a:=Q (h.block a.block ha hF)
theorem below (h:But F w w1) {B:Nat} (hB:B<=w.heap.size) (hF:∀k,F k->B<=k):Below B w w1:=
 ⟨h.os,h.tape,h.output,h.size,fun k hk=>h.block k (by omega) (fun hf=>by have:=hF k hf;omega)⟩
theorem ygr (h:Below w.heap.size w w1):But F w w1:=⟨h.os,h.tape,h.output,h.size,fun k hk _=>h.block k hk⟩
end But
end
section
namespace Pg
structure Fs where
 n:Nat
 next:Nat
 used:List Nat
 back:List Nat
 word:Nat->Nat->Int
namespace Fs
def new (n:Nat):Fs:=⟨n,0,[],[],fun _ _=>0⟩
structure Ok (S:Fs):Prop where
 perm:(S.used++S.back).Perm (List.range S.next)
 top:S.next<=S.n
 small:S.n<=128
 low:∀k i,0<=S.word k i
 high:∀k i,S.word k i<18446744073709551616
def inn (S:Fs) (k:Nat):Bool:=decide (k ∈ S.used)
def has (S:Fs) (k:Int):Bool:=decide (0<=k)&&S.inn k.toNat
def pick (S:Fs):Option Nat:=match S.back.getLast? with
 | some k=>Y k
 | none=>if S.next<S.n then Y S.next else J
def put (f:Nat->Nat->Int) (k i:Nat) (v:Int):Nat->Nat->Int:=fun a b=>if a=k/\b=i then v else f a b
def clear (f:Nat->Nat->Int) (k:Nat):Nat->Nat->Int:=fun a b=>if a=k then 0 else f a b
def takeN (S:Fs):Int:=match S.pick with
 | some k=>(k:Int)
 | none=> -1
def take (S:Fs):Fs:=match S.back.getLast? with
 | some k=>{S with used:=k::S.used,back:=S.back.dropLast,word:=clear S.word k}
 | none=>if S.next<S.n then{S with used:=S.next::S.used,next:=S.next+1,word:=clear S.word S.next}else S
def give (S:Fs) (k:Int):Fs:=if S.has k=Z then{S with used:=S.used.erase k.toNat,back:=S.back++[k.toNat]}else S
def free (S:Fs):Int:=S.back.length+S.n-S.next
def at' (S:Fs) (k i:Int):Bool:=S.has k&&(decide (0<=i)&&decide (i<8))
def load (S:Fs) (k i:Int):Int:=if S.at' k i=Z then S.word k.toNat i.toNat else 0
def store (S:Fs) (k i w:Int):Fs:=if S.at' k i=Z then{S with word:=put S.word k.toNat i.toNat w}else S
def swaps (S:Fs) (k i old:Int):Bool:=S.at' k i&&decide (S.word k.toNat i.toNat=old)
def swap (S:Fs) (k i old w:Int):Fs:=if S.swaps k i old=Z then{S with word:=put S.word k.toNat i.toNat w}else S
theorem yit (n:Nat) (h:n<=128):(new n).Ok:=⟨by simp[new],ky _,h,fun _ _=>by simp[new],fun _ _=>by simp[new]⟩
section
variable {S:Fs}
theorem Ok.len (h:S.Ok):S.used.length+S.back.length=S.next:=by simpa using h.perm.length_eq
theorem Ok.lt (h:S.Ok) {k:Nat} (hk:k ∈ S.used):k<S.next:=by
 have:k ∈ List.range S.next:=h.perm.mem_iff.1 (by simp[hk])
 simpa using this
theorem Ok.yh7 (h:S.Ok) {k:Nat} (hk:k ∈ S.back):k<S.next:=by
 have:k ∈ List.range S.next:=h.perm.mem_iff.1 (by simp[hk])
 simpa using this
theorem Ok.nodup (h:S.Ok):(S.used++S.back).Nodup:=h.perm.nodup_iff.2 List.nodup_range
theorem Ok.ygG (h:S.Ok) {k:Int} (hk:S.has k=Z):0<=k/\k<S.n/\k.toNat ∈ S.used:=by
 simp[has,inn]at hk;have:=h.lt hk.2;have:=h.top;exact⟨hk.1,by omega,hk.2⟩
theorem Ok.yiE (h:S.Ok) {k i:Int} (hk:S.at' k i=Z):0<=k/\k<S.n/\0<=i/\i<8/\k.toNat ∈ S.used:=by
 simp only[at',kE,decide_eq_true_eq]at hk;obtain⟨h0,h1,h2⟩:=h.ygG hk.1;exact⟨h0,h1,hk.2.1,hk.2.2,h2⟩
theorem Ok.pick_lt (h:S.Ok) {k:Nat} (hk:S.pick=Y k):k<S.n/\k ∉ S.used:=by
 unfold pick at hk;have htop:=h.top;have hnd:=h.nodup;split at hk
 ·rename_i j hj
  cases hk;have hm:=List.mem_of_getLast? hj;have:=h.yh7 hm;rw[List.nodup_append]at hnd;exact⟨by omega,fun hu=>hnd.2.2 _ hu _ hm rfl⟩
 ·split at hk
  ·cases hk
   refine⟨by omega,fun hu=> ?_⟩;have:=h.lt hu;omega
  ·cases hk
theorem Ok.take (h:S.Ok):S.take.Ok:=by
 unfold Fs.take;have hp:=h.perm;split
 ·rename_i k hk
  refine⟨?_,h.top,h.small,fun a b=> ?_,fun a b=> ?_⟩
  ·have e:S.back=S.back.dropLast++[k]:=by
    obtain⟨l,hl⟩:=List.getLast?_eq_some_iff.1 hk;simp[hl]
   rw[e]at hp;refine List.Perm.trans ?_ hp
   show(k::S.used++S.back.dropLast).Perm (S.used++(S.back.dropLast++[k]))
   rw[<-kK];exact(kR (l₁:=[k]) (l₂:=S.used++S.back.dropLast))
  ·show 0<=clear S.word k a b
   unfold clear;split
   ·exact Int.le_refl _
   ·exact h.low a b
  ·show clear S.word k a b<_
   unfold clear;split
   ·decide
   ·exact h.high a b
 ·rename_i hb
  have hb:S.back=[]:=by simpa using hb
  split
  ·rename_i hlt
   refine⟨?_,hlt,h.small,fun a b=> ?_,fun a b=> ?_⟩
   ·rw[hb,kH]at hp
    show(S.next::S.used++S.back).Perm (List.range (S.next+1))
    rw[hb,kH,List.range_succ];exact List.Perm.trans (List.Perm.cons _ hp) (kR (l₁:=[S.next]))
   ·show 0<=clear S.word S.next a b
    unfold clear;split
    ·exact Int.le_refl _
    ·exact h.low a b
   ·show clear S.word S.next a b<_
    unfold clear;split
    ·decide
    ·exact h.high a b
  ·exact h
theorem Ok.give (h:S.Ok) (k:Int):(S.give k).Ok:=by
 unfold Fs.give;split
 ·rename_i hk
  obtain⟨_,_,hm⟩:=h.ygG hk;refine⟨?_,h.top,h.small,h.low,h.high⟩
  show(S.used.erase k.toNat++(S.back++[k.toNat])).Perm (List.range S.next)
  refine List.Perm.trans ?_ h.perm;refine List.Perm.trans ?_ (List.Perm.append_right S.back (List.perm_cons_erase hm).symm);rw[<-kK];exact(kR (l₁:=S.used.erase k.toNat++S.back) (l₂:=[k.toNat]))
 ·exact h
theorem yiD (h:S.Ok) (k i:Nat) {v:Int} (h0:0<=v) (h1:v<18446744073709551616):({S with word:=put S.word k i v}:Fs).Ok:=by
 refine⟨h.perm,h.top,h.small,fun a b=> ?_,fun a b=> ?_⟩
 ·show 0<=put S.word k i v a b
  unfold put;split
  ·exact h0
  ·exact h.low a b
 ·show put S.word k i v a b<_
  unfold put;split
  ·exact h1
  ·exact h.high a b
theorem Ok.store (h:S.Ok) (k i:Int) {v:Int} (h0:0<=v) (h1:v<18446744073709551616):(S.store k i v).Ok:=by
 unfold Fs.store;split
 ·exact yiD h _ _ h0 h1
 ·exact h
theorem Ok.swap (h:S.Ok) (k i old:Int) {v:Int} (h0:0<=v) (h1:v<18446744073709551616):(S.swap k i old v).Ok:=by
 unfold Fs.swap;split
 ·exact yiD h _ _ h0 h1
 ·exact h
theorem Ok.yio (h:S.Ok):0<=S.free/\S.free<=128:=by
 have:=h.len;have:=h.top;have:=h.small;unfold free;omega
end
end Fs
end Pg
open Go.RowKit Go.Sort
set_option linter.unusedVariables false
theorem za {w w':V} {base e size n:Nat} {v:D} {xs:List D} (h:w.ownsRow base e size v n xs) (hk:∀k,v.ownBlock=Y k->w'.heap[k]?=w.heap[k]?):w'.ownsRow base e size v n xs:=by
 refine⟨h.1,?_⟩;rcases h.2 with hn|⟨g,cap,cur,rfl,hb,hgg,rest⟩
 ·exact .inl hn
 ·exact .inr ⟨g,cap,cur,rfl,hb,by rw[hk g rfl];exact hgg,rest⟩
def yau (l:List Nat):List D:=l.map fun k:Nat=>kG N (k:Int)
structure zH (w:V) (b g0 g1:Nat) (vb:D) (S:Pg.Fs):Prop where
 c0:w.cell? ⟨b,0,J⟩=Y (kX (Y ⟨g0,0,J⟩) S.n S.n)
 c1:w.cell? ⟨b,1,J⟩=Y (kX (Y ⟨g1,0,J⟩) S.n S.n)
 c2:w.cell? ⟨b,2,J⟩=Y vb
 c3:w.cell? ⟨b,3,J⟩=Y (C N S.next)
 fb:∀o,w.frozen? ⟨b,o,J⟩=z
 f0:∀o,w.frozen? ⟨g0,o,J⟩=z
 f1:∀o,w.frozen? ⟨g1,o,J⟩=z
 cw:∀k i,k<S.n->i<8->w.cell? ⟨g0,k*8+i,J⟩=Y (C kT (S.word k i))
 ci:∀k,k<S.n->w.cell? ⟨g1,k,J⟩=Y (kI (S.inn k))
 own:w.ownsRow 0 3 1 vb S.back.length (yau S.back)
 l0:g0<w.heap.size
 l1:g1<w.heap.size
 n0:g0≠b
 n1:g1≠b
 n01:g0≠g1
 vb0:vb.ownBlock≠Y g0
 vb1:vb.ownBlock≠Y g1
 vbb:vb.ownBlock≠Y b
def zN (b g0 g1:Nat) (vb:D):Nat->Prop:=fun k=>k=b\/k=g0\/k=g1\/vb.ownBlock=Y k
theorem qt (b:Nat):∀(vs:List D) (o:Nat) (w:V) (k:Nat),k≠b->(w.setCells b o vs).heap[k]?=w.heap[k]?
 | [],_,_,_,_=>rfl
 | v::r,o,w,k,h=>by rw[kL,qt b r (o+1) _ k h,O _ _ _ _ h]
theorem qx (b:Nat):∀(vs:List D) (o:Nat) (w:V),(w.setCells b o vs).heap.size=w.heap.size
 | [],_,_=>rfl
 | v::r,o,w=>by rw[kL,qx b r (o+1)];simp
theorem But.setCells {F:Nat->Prop} {w:V} (b:Nat) (hb:w.heap.size<=b\/F b):∀(vs:List D) (o:Nat) (w1:V),But F w w1->But F w (w1.setCells b o vs)
 | [],_,_,h=>h
 | v::r,o,w1,h=>But.setCells b hb r (o+1) _ (h.setCell (a:=⟨b,o,J⟩) hb v)
namespace zH
variable {w w':V} {b g0 g1:Nat} {vb:D} {S:Pg.Fs}
theorem lb (h:zH w b g0 g1 vb S):b<w.heap.size:=kJ _ _ h.c0
theorem lt (h:zH w b g0 g1 vb S) {k:Nat} (hk:zN b g0 g1 vb k):k<w.heap.size:=by
 rcases hk with rfl|rfl|rfl|hk
 ·exact kJ _ _ h.c0
 ·exact h.l0
 ·exact h.l1
 ·exact(h.own.lt k hk).2
theorem keep (h:zH w b g0 g1 vb S) {F:Nat->Prop} (hb:But F w w') (hF:∀k,zN b g0 g1 vb k->¬F k):zH w' b g0 g1 vb S:=by
 have hk:∀k,zN b g0 g1 vb k->w'.heap[k]?=w.heap[k]?:=fun k hk=>hb.block k (h.lt hk) (hF k hk);have kb:=hk b (.inl rfl);have k0:=hk g0 (.inr (.inl rfl));have k1:=hk g1 (.inr (.inr (.inl rfl)))
 exact⟨(I kb).trans h.c0,(I kb).trans h.c1,(I kb).trans h.c2,(I kb).trans h.c3,
  fun o=>(Q kb).trans (h.fb o),fun o=>(Q k0).trans (h.f0 o),fun o=>(Q k1).trans (h.f1 o),
  fun k i a c=>(I k0).trans (h.cw k i a c),fun k a=>(I k1).trans (h.ci k a),
  za h.own fun k e=>hk k (.inr (.inr (.inr e))),A h.l0 hb.size,A h.l1 hb.size,h.n0,h.n1,h.n01,h.vb0,h.vb1,h.vbb⟩
theorem drewN (h:zH w b g0 g1 vb S) (n:Nat):zH (w.drewN n) b g0 g1 vb S:=
 h.keep (F:=fun _=>False) (But.ygr (below_drewN (zR w) n)) (fun _ _=>id)
theorem yh4 (h:zH w b g0 g1 vb S) (m:Nat):zH (w.setCell ⟨b,3,J⟩ (C N (m:Int))) b g0 g1 vb {S with next:=m}:=by
 have hh:∀k,k≠b->(w.setCell ⟨b,3,J⟩ (C N (m:Int))).heap[k]?=w.heap[k]?:=fun k hk=>O _ _ _ _ hk;have k0:=hh g0 h.n0;have k1:=hh g1 h.n1
 have hs:(w.setCell ⟨b,3,J⟩ (C N (m:Int))).heap.size=w.heap.size:=by simp
 refine⟨?_,?_,?_,X _ _ _ h.c3,fun o=>by simpa using h.fb o,fun o=>by simpa using h.f0 o,fun o=>by simpa using h.f1 o,
  fun k i a c=>(I k0).trans (h.cw k i a c),fun k a=>(I k1).trans (h.ci k a),
  za h.own fun k e=>hh k (fun e'=>h.vbb (e'▸e)),hs.symm▸h.l0,hs.symm▸h.l1,h.n0,h.n1,h.n01,h.vb0,h.vb1,h.vbb⟩
 ·exact(R _ _ _ _ (by simp)).trans h.c0
 ·exact(R _ _ _ _ (by simp)).trans h.c1
 ·exact(R _ _ _ _ (by simp)).trans h.c2
theorem yh3 (h:zH w b g0 g1 vb S) {vb':D} {l:List Nat} (ho:w.ownsRow 0 3 1 vb' l.length (yau l)) (v0:vb'.ownBlock≠Y g0) (v1:vb'.ownBlock≠Y g1) (v2:vb'.ownBlock≠Y b):
 zH (w.setCell ⟨b,2,J⟩ vb') b g0 g1 vb' {S with back:=l}:=by
 have hh:∀k,k≠b->(w.setCell ⟨b,2,J⟩ vb').heap[k]?=w.heap[k]?:=fun k hk=>O _ _ _ _ hk;have k0:=hh g0 h.n0;have k1:=hh g1 h.n1
 have hs:(w.setCell ⟨b,2,J⟩ vb').heap.size=w.heap.size:=by simp
 refine⟨?_,?_,X _ _ _ h.c2,?_,fun o=>by simpa using h.fb o,fun o=>by simpa using h.f0 o,fun o=>by simpa using h.f1 o,
  fun k i a c=>(I k0).trans (h.cw k i a c),fun k a=>(I k1).trans (h.ci k a),
  za ho fun k e=>hh k (fun e'=>v2 (e'▸e)),hs.symm▸h.l0,hs.symm▸h.l1,h.n0,h.n1,h.n01,v0,v1,v2⟩
 ·exact(R _ _ _ _ (by simp)).trans h.c0
 ·exact(R _ _ _ _ (by simp)).trans h.c1
 ·exact(R _ _ _ _ (by simp)).trans h.c3
theorem grow (h:zH w b g0 g1 vb S) (hs:w.heap.size<=w'.heap.size) (hk:∀k,k=b\/k=g0\/k=g1->w'.heap[k]?=w.heap[k]?) {vb':D} {l:List Nat} (ho:w'.ownsRow 0 3 1 vb' l.length (yau l)) (v0:vb'.ownBlock≠Y g0) (v1:vb'.ownBlock≠Y g1) (v2:vb'.ownBlock≠Y b):
 zH (w'.setCell ⟨b,2,J⟩ vb') b g0 g1 vb' {S with back:=l}:=by
 have kb:=hk b (.inl rfl);have k0:=hk g0 (.inr (.inl rfl));have k1:=hk g1 (.inr (.inr rfl));have hh:∀k,k≠b->(w'.setCell ⟨b,2,J⟩ vb').heap[k]?=w'.heap[k]?:=fun k hk=>O _ _ _ _ hk;have j0:=(hh g0 h.n0).trans k0;have j1:=(hh g1 h.n1).trans k1
 have hs':(w'.setCell ⟨b,2,J⟩ vb').heap.size=w'.heap.size:=by simp
 have l0:=h.l0;have l1:=h.l1
 refine⟨?_,?_,X _ _ _ ((I kb).trans h.c2),?_,fun o=> ?_,fun o=>(Q j0).trans (h.f0 o),fun o=>(Q j1).trans (h.f1 o),
  fun k i a c=>(I j0).trans (h.cw k i a c),fun k a=>(I j1).trans (h.ci k a),
  za ho fun k e=>hh k (fun e'=>v2 (e'▸e)),by rw[hs'];omega,by rw[hs'];omega,h.n0,h.n1,h.n01,v0,v1,v2⟩
 ·exact(R _ _ _ _ (by simp)).trans ((I kb).trans h.c0)
 ·exact(R _ _ _ _ (by simp)).trans ((I kb).trans h.c1)
 ·exact(R _ _ _ _ (by simp)).trans ((I kb).trans h.c3)
 ·rw[World.frozen?_setCell]
  exact(Q kb).trans (h.fb o)
theorem mark (h:zH w b g0 g1 vb S) {k:Nat} (hk:k<S.n) (v:Bool) (l:List Nat) (hl:∀j,decide (j ∈ l)=if j=k then v else S.inn j):
 zH (w.setCell ⟨g1,k,J⟩ (kI v)) b g0 g1 vb {S with used:=l}:=by
 have hh:∀j,j≠g1->(w.setCell ⟨g1,k,J⟩ (kI v)).heap[j]?=w.heap[j]?:=fun j hj=>O _ _ _ _ hj;have kb:=hh b (Ne.symm h.n1);have k0:=hh g0 h.n01
 have hs:(w.setCell ⟨g1,k,J⟩ (kI v)).heap.size=w.heap.size:=by simp
 refine⟨(I kb).trans h.c0,(I kb).trans h.c1,(I kb).trans h.c2,(I kb).trans h.c3,
  fun o=>by simpa using h.fb o,fun o=>by simpa using h.f0 o,fun o=>by simpa using h.f1 o,
  fun j i a c=>(I k0).trans (h.cw j i a c),fun j a=> ?_,
  za h.own fun j e=>hh j (fun e'=>h.vb1 (e'▸e)),hs.symm▸h.l0,hs.symm▸h.l1,h.n0,h.n1,h.n01,h.vb0,h.vb1,h.vbb⟩
 show _=Y (ki (decide (j ∈ l)))
 rw[hl j]
 by_cases e:j=k
 ·rw[if_pos e,e]
  exact X _ _ _ (h.ci k hk)
 ·rw[if_neg e]
  exact(R _ _ _ _ (fun he=>e (by injection he with _ he;exact he.symm))).trans (h.ci j a)
theorem clear (h:zH w b g0 g1 vb S) {k:Nat} (hk:k<S.n) (zs:List D) (hz:zs.length=8) (hv:∀(j:Nat) (hj:j<zs.length),zs[j]=C kT 0):
 zH (w.setCells g0 (k*8) zs) b g0 g1 vb {S with word:=Pg.Fs.clear S.word k}:=by
 have hh:∀j,j≠g0->(w.setCells g0 (k*8) zs).heap[j]?=w.heap[j]?:=fun j hj=>qt _ _ _ _ _ hj;have kb:=hh b (Ne.symm h.n0);have k1:=hh g1 (Ne.symm h.n01);have hs:=qx g0 zs (k*8) w
 refine⟨(I kb).trans h.c0,(I kb).trans h.c1,(I kb).trans h.c2,(I kb).trans h.c3,
  fun o=>(kS _ _ _ _ _).trans (h.fb o),fun o=>(kS _ _ _ _ _).trans (h.f0 o),fun o=>(kS _ _ _ _ _).trans (h.f1 o),
  fun j i a c=> ?_,fun j a=>(I k1).trans (h.ci j a),
  za h.own fun j e=>hh j (fun e'=>h.vb0 (e'▸e)),hs.symm▸h.l0,hs.symm▸h.l1,h.n0,h.n1,h.n01,h.vb0,h.vb1,h.vbb⟩
 show _=Y (kG kT (Pg.Fs.clear S.word k j i))
 unfold Pg.Fs.clear
 by_cases e:j=k
 ·rw[if_pos e,e]
  have:=World.cell?_setCells_in g0 zs (k*8) w (fun i hi=>by rw[h.cw k i hk (by omega)];rfl) i (by omega);rw[this,hv i (by omega)]
 ·rw[if_neg e]
  exact(World.cell?_setCells_out _ _ _ _ _ (fun _ _=>by show j*8+i<k*8\/k*8+zs.length<=j*8+i;omega)).trans (h.cw j i a c)
theorem put (h:zH w b g0 g1 vb S) {k i:Nat} (hk:k<S.n) (hi:i<8) (v:Int):
 zH (w.setCell ⟨g0,k*8+i,J⟩ (C kT v)) b g0 g1 vb {S with word:=Pg.Fs.put S.word k i v}:=by
 have hh:∀j,j≠g0->(w.setCell ⟨g0,k*8+i,J⟩ (C kT v)).heap[j]?=w.heap[j]?:=fun j hj=>O _ _ _ _ hj;have kb:=hh b (Ne.symm h.n0);have k1:=hh g1 (Ne.symm h.n01)
 have hs:(w.setCell ⟨g0,k*8+i,J⟩ (C kT v)).heap.size=w.heap.size:=by simp
 refine⟨(I kb).trans h.c0,(I kb).trans h.c1,(I kb).trans h.c2,(I kb).trans h.c3,
  fun o=>by simpa using h.fb o,fun o=>by simpa using h.f0 o,fun o=>by simpa using h.f1 o,
  fun j m a c=> ?_,fun j a=>(I k1).trans (h.ci j a),
  za h.own fun j e=>hh j (fun e'=>h.vb0 (e'▸e)),hs.symm▸h.l0,hs.symm▸h.l1,h.n0,h.n1,h.n01,h.vb0,h.vb1,h.vbb⟩
 show _=Y (kG kT (Pg.Fs.put S.word k i v j m))
 unfold Pg.Fs.put
 by_cases e:j=k/\m=i
 ·rw[if_pos e,e.1,e.2]
  exact X _ _ _ (h.cw k i hk hi)
 ·rw[if_neg e]
  exact(R _ _ _ _ (fun he=>e (by injection he with _ he;omega))).trans (h.cw j m a c)
end zH
def yeX:Array D:=#[C kT 0,C kT 0,C kT 0,C kT 0,C kT 0,C kT 0,C kT 0,C kT 0]
theorem yeY (j:Nat):yeX[j%yeX.size]! =C kT 0:=by
 have:j%8<8:=kz _ (by decide)
 show yeX[j%8]! =_
 generalize j%8=m at*
 match m,this with
 | 0,_|1,_|2,_|3,_|4,_|5,_|6,_|7,_=>rfl
theorem zH.made {w:V} {b g0 g1 n:Nat} {t0 t1 t2:TypeId} (hb:w.heap[b]?=Y (.cells #[kX (Y ⟨g0,0,J⟩) n n,kX (Y ⟨g1,0,J⟩) n n,kX J 0 0,C N 0] t2 (0,0)))
 (h0:w.heap[g0]?=Y (.cells (madeCells yeX (n*8)) t0 (0,0))) (h1:w.heap[g1]?=Y (.cells (madeCells #[kI z] n) t1 (0,0))) (n0:g0≠b) (n1:g1≠b) (n01:g0≠g1):zH w b g0 g1 (kX J 0 0) (Pg.Fs.new n):=by
 refine⟨?_,?_,?_,?_,fun o=>by simp[kU,hb],fun o=>by simp[kU,h0],fun o=>by simp[kU,h1],fun k i hk hi=> ?_,fun k hk=> ?_,World.ownsRow_nil _ _ _ _,(kY.1 h0).1,(kY.1 h1).1,n0,n1,n01,by simp[kQ],by simp[kQ],by simp[kQ]⟩
 ·rw[cell_of_row w b 0 _ _ _ hb];rfl
 ·rw[cell_of_row w b 1 _ _ _ hb];rfl
 ·rw[cell_of_row w b 2 _ _ _ hb];rfl
 ·rw[cell_of_row w b 3 _ _ _ hb];rfl
 ·have hk:k<n:=hk
  have hlt:k*8+i<n*8:=by omega
  rw[cell_of_row w g0 _ _ _ _ h0,madeCells];simp only[kO,kZ,hlt,if_true,Option.map_some,yeY];rfl
 ·have hk:k<n:=hk
  rw[cell_of_row w g1 _ _ _ _ h1,madeCells];simp only[kO,kZ,hk,if_true,Option.map_some];have:k%(#[ki z]:Array D).size=0:=Nat.mod_one k;rw[this];rfl
structure zg (w:V) (b g0 g1:Nat) (vb:D) (S:Pg.Fs):Prop where
 raw:zH w b g0 g1 vb S
 ok:S.Ok
theorem zg.keep {w w':V} {b g0 g1:Nat} {vb:D} {S:Pg.Fs} (h:zg w b g0 g1 vb S) {F:Nat->Prop} (hb:But F w w') (hF:∀k,zN b g0 g1 vb k->¬F k):zg w' b g0 g1 vb S:=⟨h.raw.keep hb hF,h.ok⟩
end
theorem zm (n e:Int) (w:V):
 kP E 173 #[C N n,C N e] w fun r w'=>r=T (kI (Pg.below n e))/\w'=w:=by
 by_cases h:0<=n
 ·have hd:decide (0<=n)=Z:=by simpa using h
  go_enter Tryz.func173,Tryz.ntmps173
  go_wp2
  go_ret
  exact⟨by simp[Pg.below,hd],rfl⟩
 ·have hd:decide (0<=n)=z:=by simpa using h
  go_enter Tryz.func173,Tryz.ntmps173
  go_wp2
  go_ret
  exact⟨by simp[Pg.below,hd],rfl⟩
theorem xz (s:Int) (w:V):
 kP E 153 #[C N s] w fun r w'=>r=T (C N (Pg.span s))/\w'=w:=by
 go_enter Tryz.func153,Tryz.ntmps153
 go_wp2
 all_goals
  go_ret
  exact⟨by simp_all[Pg.span],rfl⟩
theorem xy (n:Int) (w:V):
 kP E 172 #[C N n] w fun r w'=>r=T (kI (Pg.below n 4096))/\w'=w:=by
 go_enter Tryz.func172,Tryz.ntmps172
 go_wp2_with (go_at_call 173;refine(zm _ _ _).mono ?_;rintro e w' ⟨rfl,rfl⟩)
 go_ret
 exact⟨rfl,rfl⟩
theorem zE (n:Int) (w:V):
 kP E 174 #[C N n] w fun r w'=>r=T (kI (Pg.below n 8))/\w'=w:=by
 go_enter Tryz.func174,Tryz.ntmps174
 go_wp2_with (go_at_call 173;refine(zm _ _ _).mono ?_;rintro e w' ⟨rfl,rfl⟩)
 go_ret
 exact⟨rfl,rfl⟩
theorem ycZ (k:Int) (w:V):
 kP E 175 #[C N k] w fun r w'=>r=T (kI (Pg.isKind k))/\w'=w:=by
 by_cases h0:(k==0)=Z
 ·go_enter Tryz.func175,Tryz.ntmps175
  go_wp2
  go_ret
  exact⟨by simp[Pg.isKind,h0],rfl⟩
 ·have h0:(k==0)=z:=by simpa using h0
  by_cases h1:(k==1)=Z
  ·go_enter Tryz.func175,Tryz.ntmps175
   go_wp2
   go_ret
   exact⟨by simp[Pg.isKind,h1],rfl⟩
  ·have h1:(k==1)=z:=by simpa using h1
   go_enter Tryz.func175,Tryz.ntmps175
   go_wp2
   go_ret
   exact⟨by simp[Pg.isKind,h0,h1],rfl⟩
theorem yeo (p k:Int) (u:Bool) (w:V):
 kP E 202 #[kN #[C N p,C N k,kI u]] w fun r w'=>r=T (C N (Pg.asks k u:Int))/\Below w.heap.size w w':=by
 cases u
 all_goals
  go_enter Tryz.func202,Tryz.ntmps202
  go_wp2
  all_goals
   go_ret
   exact⟨by simp_all[Pg.asks]<;>rfl,(M _ _).alloc (U _) _⟩
theorem j8 (p s f r q:Int) (hp:Pg.fits p) (hq:Pg.fits q) (w:V):
 kP E 178 #[kN #[C N p,C N s,C N f,C N r],C N q] w fun e w'=>e=T (kI (Pg.over p s q))/\Below w.heap.size w w':=by
 have hs:=Pg.ygV s
 by_cases h:p<=q
 ·have hd:decide (p<=q)=Z:=by simpa using h
  go_enter Tryz.func178,Tryz.ntmps178
  go_wp2
  go_quiet ((go_at_call 153;exact Calls.quiet_of_same (xz _ _)))
  go_wp2
  go_ret
  exact⟨by rw[<-Pg.over_yes hp hq h];rfl,below_drewN ((M _ _).alloc (U _) _) _⟩
 ·have hd:decide (p<=q)=z:=by simpa using h
  go_enter Tryz.func178,Tryz.ntmps178
  go_wp2
  go_quiet ((go_at_call 153;exact Calls.quiet_of_same (xz _ _)))
  go_wp2
  go_ret
  exact⟨by rw[Pg.over_no hd];rfl,below_drewN ((M _ _).alloc (U _) _) _⟩
theorem xO (p s f r:Int) (w:V):
 kP E 139 #[kN #[C N p,C N s,C N f,C N r]] w fun e w'=>e=T (C N (Pg.check p s f r))/\Below w.heap.size w w':=by
 have hs:=Pg.ygV s
 by_cases h0:Pg.span s=0
 ·have hb:(Pg.span s==0)=Z:=by simpa using h0
  have H:Hid (Pg.span s=0):=h0;clear h0
  go_enter Tryz.func139,Tryz.ntmps139
  go_wp2_with (first
   | (go_at_call 153;refine(xz _ _).mono ?_;rintro e w' ⟨rfl,rfl⟩)
   | (go_at_call 172;refine(xy _ _).mono ?_;rintro e w' ⟨rfl,rfl⟩)
   | (go_at_call 173;refine(zm _ _ _).mono ?_;rintro e w' ⟨rfl,rfl⟩)
   | (go_at_call 174;refine(zE _ _).mono ?_;rintro e w' ⟨rfl,rfl⟩))
  go_ret
  exact⟨by rw[Pg.yhL H.out];rfl,(M _ _).alloc (U _) _⟩
 ·have hb:(Pg.span s==0)=z:=by simpa using h0
  have H:Hid (Pg.span s≠0):=h0
  have h1:1<=Pg.span s:=by omega
  clear h0
  by_cases hr:(!Pg.below p 4096|| !Pg.below f 1048576|| !Pg.below r 8)=Z
  ·have HR:Hid ((!Pg.below p 4096|| !Pg.below f 1048576|| !Pg.below r 8)=Z):=hr
   clear hr;cases b1:Pg.below p 4096
   ·go_enter Tryz.func139,Tryz.ntmps139
    go_wp2_with (first
     | (go_at_call 153;refine(xz _ _).mono ?_;rintro e w' ⟨rfl,rfl⟩)
     | (go_at_call 172;refine(xy _ _).mono ?_;rintro e w' ⟨rfl,rfl⟩)
     | (go_at_call 173;refine(zm _ _ _).mono ?_;rintro e w' ⟨rfl,rfl⟩)
     | (go_at_call 174;refine(zE _ _).mono ?_;rintro e w' ⟨rfl,rfl⟩))
    go_ret
    exact⟨by rw[Pg.ygQ H.out HR.out];rfl,(M _ _).alloc (U _) _⟩
   ·cases b2:Pg.below f 1048576
    ·go_enter Tryz.func139,Tryz.ntmps139
     go_wp2_with (first
      | (go_at_call 153;refine(xz _ _).mono ?_;rintro e w' ⟨rfl,rfl⟩)
      | (go_at_call 172;refine(xy _ _).mono ?_;rintro e w' ⟨rfl,rfl⟩)
      | (go_at_call 173;refine(zm _ _ _).mono ?_;rintro e w' ⟨rfl,rfl⟩)
      | (go_at_call 174;refine(zE _ _).mono ?_;rintro e w' ⟨rfl,rfl⟩))
     go_ret
     exact⟨by rw[Pg.ygQ H.out HR.out];rfl,(M _ _).alloc (U _) _⟩
    ·cases b3:Pg.below r 8
     ·go_enter Tryz.func139,Tryz.ntmps139
      go_wp2_with (first
       | (go_at_call 153;refine(xz _ _).mono ?_;rintro e w' ⟨rfl,rfl⟩)
       | (go_at_call 172;refine(xy _ _).mono ?_;rintro e w' ⟨rfl,rfl⟩)
       | (go_at_call 173;refine(zm _ _ _).mono ?_;rintro e w' ⟨rfl,rfl⟩)
       | (go_at_call 174;refine(zE _ _).mono ?_;rintro e w' ⟨rfl,rfl⟩))
      go_ret
      exact⟨by rw[Pg.ygQ H.out HR.out];rfl,(M _ _).alloc (U _) _⟩
     ·exact absurd HR.out (by simp[b1,b2,b3])
  ·have b1:Pg.below p 4096=Z:=by cases h:Pg.below p 4096<;>simp_all
   have b2:Pg.below f 1048576=Z:=by cases h:Pg.below f 1048576<;>simp_all
   have b3:Pg.below r 8=Z:=by cases h:Pg.below r 8<;>simp_all
   clear hr;have c1:=Pg.zB.1 b1;have c2:=Pg.zB.1 b2;have HA:Hid (Pg.check p s f r=if p%Pg.span s=0/\f%Pg.span s=0 then 0 else 3):=Pg.ygZ H.out b1 b2 b3
   by_cases d1:p%Pg.span s=0
   ·have e1:(p%Pg.span s !=0)=z:=by simp[d1]
    have D1:Hid (p%Pg.span s=0):=d1;clear d1
    by_cases d2:f%Pg.span s=0
    ·have e2:(f%Pg.span s !=0)=z:=by simp[d2]
     have D2:Hid (f%Pg.span s=0):=d2;clear d2
     go_enter Tryz.func139,Tryz.ntmps139
     go_wp2_with (first
      | (go_at_call 153;refine(xz _ _).mono ?_;rintro e w' ⟨rfl,rfl⟩)
      | (go_at_call 172;refine(xy _ _).mono ?_;rintro e w' ⟨rfl,rfl⟩)
      | (go_at_call 173;refine(zm _ _ _).mono ?_;rintro e w' ⟨rfl,rfl⟩)
      | (go_at_call 174;refine(zE _ _).mono ?_;rintro e w' ⟨rfl,rfl⟩))
     go_ret
     exact⟨by rw[HA.out,if_pos ⟨D1.out,D2.out⟩];rfl,(M _ _).alloc (U _) _⟩
    ·have e2:(f%Pg.span s !=0)=Z:=by simp[d2]
     have D2:Hid (¬f%Pg.span s=0):=d2;clear d2
     go_enter Tryz.func139,Tryz.ntmps139
     go_wp2_with (first
      | (go_at_call 153;refine(xz _ _).mono ?_;rintro e w' ⟨rfl,rfl⟩)
      | (go_at_call 172;refine(xy _ _).mono ?_;rintro e w' ⟨rfl,rfl⟩)
      | (go_at_call 173;refine(zm _ _ _).mono ?_;rintro e w' ⟨rfl,rfl⟩)
      | (go_at_call 174;refine(zE _ _).mono ?_;rintro e w' ⟨rfl,rfl⟩))
     go_ret
     exact⟨by rw[HA.out,if_neg (fun h=>D2.out h.2)];rfl,(M _ _).alloc (U _) _⟩
   ·have e1:(p%Pg.span s !=0)=Z:=by simp[d1]
    have D1:Hid (¬p%Pg.span s=0):=d1;clear d1
    go_enter Tryz.func139,Tryz.ntmps139
    go_wp2_with (first
     | (go_at_call 153;refine(xz _ _).mono ?_;rintro e w' ⟨rfl,rfl⟩)
     | (go_at_call 172;refine(xy _ _).mono ?_;rintro e w' ⟨rfl,rfl⟩)
     | (go_at_call 173;refine(zm _ _ _).mono ?_;rintro e w' ⟨rfl,rfl⟩)
     | (go_at_call 174;refine(zE _ _).mono ?_;rintro e w' ⟨rfl,rfl⟩))
    go_ret
    exact⟨by rw[HA.out,if_neg (fun h=>D1.out h.1)];rfl,(M _ _).alloc (U _) _⟩
theorem yeC (p s f r p' s' f' r':Int) (hp:Pg.fits p) (hq:Pg.fits p') (w:V):
 kP E 212 #[kN #[C N p,C N s,C N f,C N r],kN #[C N p',C N s',C N f',C N r']] w fun e w'=>e=T (kI (Pg.meet p s p' s'))/\Below w.heap.size w w':=by
 cases h:Pg.over p s p'
 ·have HM:Hid (Pg.meet p s p' s'=Pg.over p' s' p):=by simp[Hid,Pg.meet,h]
  go_enter Tryz.func212,Tryz.ntmps212
  go_wp2_with fail
  refine(j8 _ _ _ _ _ hp hq _).mono ?_;rintro e w1 ⟨rfl,hb1⟩;obtain⟨hc1,hf1⟩:=xE hb1
  go_wp2_with fail
  refine(j8 _ _ _ _ _ hq hp _).mono ?_;rintro e w2 ⟨rfl,hb2⟩
  go_wp2_with fail
  go_ret
  exact⟨by rw[HM.out];rfl,zT (zT (zA (zA (zR _) _) _) hb1) hb2⟩
 ·have HM:Hid (Pg.meet p s p' s'=Z):=by simp[Hid,Pg.meet,h]
  go_enter Tryz.func212,Tryz.ntmps212
  go_wp2_with fail
  refine(j8 _ _ _ _ _ hp hq _).mono ?_;rintro e w1 ⟨rfl,hb1⟩;obtain⟨hc1,hf1⟩:=xE hb1
  go_wp2_with fail
  go_ret
  exact⟨by rw[HM.out];rfl,zT (zA (zA (zR _) _) _) hb1⟩
theorem yaO (r p k:Int) (u:Bool) (w:V):
 kP E 179 #[C N r,kN #[C N p,C N k,kI u]] w fun e w'=>e=T (kI (Pg.may r k u))/\Below w.heap.size w w':=by
 have HM:Hid _:=Pg.may_eq r k u
 go_enter Tryz.func179,Tryz.ntmps179
 go_wp2_with fail
 refine(yeo _ _ _ _).mono ?_;rintro e w1 ⟨rfl,hb1⟩;generalize ha:Pg.asks k u=a at*;have HA:=ha;clear ha
 go_wp2_with fail
 go_ret
 exact⟨by rw[<-HM.out];rfl,zT (zA (zR _) _) hb1⟩
theorem zv (p k:Int) (u:Bool) (w:V):
 kP E 140 #[kN #[C N p,C N k,kI u]] w fun e w'=>e=T (C N (Pg.zK p k))/\Below w.heap.size w w':=by
 cases h1:Pg.isKind k<;>cases h2:Pg.below p 4096
 all_goals
  go_enter Tryz.func140,Tryz.ntmps140
  go_wp2_with (first
   | (go_at_call 175;refine(ycZ _ _).mono ?_;rintro e w' ⟨rfl,rfl⟩)
   | (go_at_call 172;refine(xy _ _).mono ?_;rintro e w' ⟨rfl,rfl⟩))
  go_ret
  exact⟨by simp[Pg.zK,h1,h2],(M _ _).alloc (U _) _⟩
theorem ybL (p s f r q k:Int) (u:Bool) (w:V):
 kP E 143 #[kN #[C N p,C N s,C N f,C N r],kN #[C N q,C N k,kI u]] w fun e w'=>
  e=T (if Pg.may r k u=Z then kN #[C N 0,C N (wrap64 (f+wrap64 (q-p))),C N r]else kN #[C N 2,C N 0,C N 0])/\Below w.heap.size w w':=by
 cases h:Pg.may r k u
 ·go_enter Tryz.func143,Tryz.ntmps143
  go_wp2_with fail
  refine(yaO _ _ _ _ _).mono ?_;rintro e w1 ⟨rfl,hb1⟩;obtain⟨hc1,hf1⟩:=xE hb1
  have hz:w.heap.size+2<w1.heap.size:=by have:=hb1.size;simp at this;omega
  go_wp2_with fail
  refine kW (v:=kN #[C N 2,C N 0,C N 0]) ?_ rfl ⟨by simp,?_⟩
  ·simp[results,Tryz.results143,go_sem,hc1]
  ·exact(((zT (zA (zA (zA (zR _) _) _) _) hb1).setCell (by simp;omega) _).setCell (by simp;omega) _).setCell (by simp;omega) _
 ·go_enter Tryz.func143,Tryz.ntmps143
  go_wp2_with fail
  refine(yaO _ _ _ _ _).mono ?_;rintro e w1 ⟨rfl,hb1⟩;obtain⟨hc1,hf1⟩:=xE hb1
  have hz:w.heap.size+2<w1.heap.size:=by have:=hb1.size;simp at this;omega
  go_wp2_with fail
  refine kW (v:=kN #[C N 0,C N (wrap64 (f+wrap64 (q-p))),C N r]) ?_ rfl ⟨by simp,?_⟩
  ·simp[results,Tryz.results143,go_sem,hc1]
  ·exact(((zT (zA (zA (zA (zR _) _) _) _) hb1).setCell (by simp;omega) _).setCell (by simp;omega) _).setCell (by simp;omega) _
theorem vY (p s f r q k:Int) (u:Bool) (w:V):
 kP E 143 #[kN #[C N p,C N s,C N f,C N r],kN #[C N q,C N k,kI u]] w fun e w'=>
  e=T (kN #[C N (Pg.aEnd r k u),C N (Pg.ygW p f r q k u),C N (Pg.ygK r k u)])/\Below w.heap.size w w':=by
 refine(ybL p s f r q k u w).mono ?_;rintro e w' ⟨rfl,hb⟩;refine⟨?_,hb⟩;unfold Pg.aEnd Pg.ygW Pg.ygK
 split<;>rfl
theorem vq (p l:Int) (w:V):
 kP E 196 #[C N p,C N l] w fun e w'=>e=T (C N (Pg.index p l))/\w'=w:=by
 cases h1:Pg.below p 4096
 ·have HI:Hid (Pg.index p l= -1):=by simp[Hid,Pg.index,h1]
  go_enter Tryz.func196,Tryz.ntmps196
  go_wp2_with (first
   | (go_at_call 173;refine(zm _ _ _).mono ?_;rintro e w' ⟨rfl,rfl⟩)
   | (go_at_call 172;refine(xy _ _).mono ?_;rintro e w' ⟨rfl,rfl⟩))
  go_ret
  exact⟨by rw[HI.out];rfl,rfl⟩
 ·cases h2:Pg.below l 4
  ·have HI:Hid (Pg.index p l= -1):=by simp[Hid,Pg.index,h2]
   go_enter Tryz.func196,Tryz.ntmps196
   go_wp2_with (first
    | (go_at_call 173;refine(zm _ _ _).mono ?_;rintro e w' ⟨rfl,rfl⟩)
    | (go_at_call 172;refine(xy _ _).mono ?_;rintro e w' ⟨rfl,rfl⟩))
   go_ret
   exact⟨by rw[HI.out];rfl,rfl⟩
  ·have HI:Hid (Pg.index p l=p/8^l.toNat%8):=by simp[Hid,Pg.index,h1,h2]
   have c1:=Pg.zB.1 h1;have c2:=Pg.zB.1 h2
   go_enter Tryz.func196,Tryz.ntmps196
   go_wp2_with (first
    | (go_at_call 173;refine(zm _ _ _).mono ?_;rintro e w' ⟨rfl,rfl⟩)
    | (go_at_call 172;refine(xy _ _).mono ?_;rintro e w' ⟨rfl,rfl⟩))
   go_loop [0,14] (fun a i=>∃(k:Nat) (q:Int),(k:Int)<=l/\i=C N k/\a=C N q/\0<=q/\q<4096/\Hid (q=p/8^k)) (fun _ i=>(l-intOf i).toNat)
   case atStart=>exact⟨0,p,by omega,rfl,rfl,by omega,by omega,by simp[Hid]⟩
   case round=>
    obtain⟨k,q,hk,rfl,rfl,q0,q1,HQ⟩:=hrel
    by_cases hlt:(k:Int)<l
    ·go_wp2
     go_round
     case rel=>exact⟨k+1,q/8,by omega,by go_num,rfl,by omega,by omega,by simp only[Hid];rw[HQ.out,Int.ediv_ediv_of_nonneg (Int.pow_nonneg (by decide)),<-Int.pow_succ]⟩
     case measure=>simp[intOf];omega
    ·go_wp2
     go_ret
     have hkl:l.toNat=k:=by omega
     exact⟨by rw[HI.out,hkl,<-HQ.out];rfl,rfl⟩
namespace Pg
structure Mp where
 p:Int
 s:Int
 f:Int
 r:Int
def Mp.zz:Mp:=⟨0,0,0,0⟩
namespace Mp
def code (m:Mp):Int:=check m.p m.s m.f m.r
def has (m:Mp) (q:Int):Bool:=over m.p m.s q
def meets (a b:Mp):Bool:=meet a.p a.s b.p b.s
def rts (m:Mp) (r:Int):Mp:=⟨m.p,m.s,m.f,r⟩
def val (m:Mp):D:=kN #[C N m.p,C N m.s,C N m.f,C N m.r]
end Mp
theorem ok_fits {m:Mp} (h:m.code=0):0<=m.p/\m.p<4096/\fits m.p/\fits m.s/\fits m.f/\fits m.r:=by
 obtain⟨h0,h1,h2,h3,h4,h5,h6,_,_⟩:=yhk h
 have hs:m.s=0\/m.s=1\/m.s=2:=by
  rcases ygF m.s with ⟨e,_⟩|⟨e,_⟩|⟨e,_⟩|⟨_,_,_,e⟩
  ·exact .inl e
  ·exact .inr (.inl e)
  ·exact .inr (.inr e)
  ·exact absurd e h0
 refine⟨h1,h2,?_,?_,?_,?_⟩<;>unfold fits<;>omega
def fnd (L:List Mp) (q:Int):Option Nat:=L.findIdx? fun m=>m.has q
def fndN (L:List Mp) (q:Int):Int:=match fnd L q with
 | some k=>(k:Int)
 | none=> -1
def at' (L:List Mp) (q:Int):Mp:=match fnd L q with
 | some k=>L.getD k .zz
 | none=> .zz
end Pg
end Go.Proofs.YtdphiompijbelaaGreat
