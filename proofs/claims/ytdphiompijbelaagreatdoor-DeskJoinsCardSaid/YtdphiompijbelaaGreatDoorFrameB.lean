import Derived.WalkKit
import Derived.WalkLawsBesides
import Derived.WalkSmall
import Derived.WalkSpells
import Derived.BigQuiet
import Derived.Lib.QuietBelow
import Derived.OwnWalk
import Derived.Laws.IdiomCopy
import Derived.Deep.AppendLies
import Derived.Test.YtdphiompijbelaaGreatDoorChecked
import Derived.Lib.AppendStr
import Derived.Lib.Builder
import Derived.Lib.UnsafeStr
import Derived.Lib.SmallJoins
import Derived.Test.YtdphiompijbelaaGreatDoorRows
import Derived.ProofKit
import Derived.OpenShut
import Derived.Deep.Slices
import Derived.Laws.LoneSync
set_option linter.all false
set_option maxRecDepth 100000
open Go.Obj renaming cells->kY
open Go.World renaming cell?->kP,frozen?->kN,setCells->kM
open Nat renaming lt_of_lt_of_le->z,le_trans->kI,zero_le->kR,le_refl->kZ
open Go.Ending renaming returned->D
open Go.RowKit.Below renaming heap_alloc->E,heap_setCell->kC,refl->kG
open Go.Proofs.Tryz renaming prog->X
open Bool renaming true->Z,false->M,and_eq_true->kQ,eq_iff_iff->kO
open Go.IntKind renaming i64->V,u64->kA
open List renaming pairwise_cons->T,findIdx?_eq_some_iff_getElem->kJ,perm_append_comm->kB,getElem_mem->kT,eraseIdx_cons_succ->kF,append_assoc->kV,append_nil->kK,mem_cons->kH
open Go.Value renaming int->Y,pointer->O,ownBlock->kX,slice->kE,tuple->kD,slice->kL
open Array renaming getElem?_eq_some_iff->N
open Go renaming World->C,Value->R,cell_later->U,heap_alloc_new->kS,Calls->kU
open Option renaming none->I,some->J
set_option maxHeartbeats 1000000
namespace Go.Proofs.YtdphiompijbelaaGreatDoor
open Go.RowKit
section
namespace Pg
def r8 (x:Int):Nat:=(BitVec.ofInt 64 x).toNat%8
theorem and_small (n m:Nat) (h:m<8):n&&&m=(n%8)&&&m:=by
 have h7:m=7&&&m:=by
  have:m=0\/m=1\/m=2\/m=3\/m=4\/m=5\/m=6\/m=7:=by omega
  rcases this with h|h|h|h|h|h|h|h<;>subst h<;>decide
 have e:n&&&7=n%8:=Nat.and_two_pow_sub_one_eq_mod n 3;rw[<-e,Nat.and_assoc,<-h7]
theorem ofInt_small (y:Nat) (h:y<8):(BitVec.ofInt 64 (y:Int)).toNat=y:=by
 rw[BitVec.toNat_ofInt];omega
theorem wrap_i64_small (n:Nat) (h:n<8):IntKind.i64.wrap (n:Int)=n:=by
 simp[IntKind.wrap,IntKind.bits,IntKind.signed];omega
theorem and_lt8 (a m:Nat) (h:m<8):a&&&m<8:=Nat.lt_of_le_of_lt Nat.and_le_right h
theorem band_small (x:Int) (m:Nat) (h:m<8):bits .and V x (m:Int)=((r8 x&&&m:Nat):Int):=by
 unfold bits r8
 show IntKind.i64.wrap ((BitVec.ofInt 64 x&&&BitVec.ofInt 64 (m:Int)).toNat:Int)=_
 rw[BitVec.toNat_and,ofInt_small m h,and_small _ m h];exact wrap_i64_small _ (and_lt8 _ m h)
theorem u64_of_wrap64 (n:Int) (h0:0<=n) (h1:n<18446744073709551616):IntKind.u64.wrap (wrap64 n)=n:=by
 simp only[IntKind.wrap,IntKind.bits,IntKind.signed,wrap64,Bool.false_and,Bool.false_eq_true,if_false];omega
def below (n e:Int):Bool:=decide (0<=n)&&decide (n<e)
def span (s:Int):Int:=if s=0 then 1 else if s=1 then 8 else if s=2 then 64 else 0
def isKind (k:Int):Bool:=k==0||k==1||k==2
def check (p s f r:Int):Int:=
 if span s=0 then 2
 else if (!below p 4096|| !below f 1048576|| !below r 8)=Z then 1
 else if p%span s=0/\f%span s=0 then 0 else 3
def over (mp ms p:Int):Bool:=decide (mp<=p)&&decide (p-mp<span ms)
def meet (ap az bp bz:Int):Bool:=over ap az bp||over bp bz ap
def asks (k:Int) (u:Bool):Nat:=(if k=1 then 1 else if k=2 then 4 else 0)+(if u then 2 else 0)
def may (r k:Int) (u:Bool):Bool:=(r8 r&&&asks k u)==asks k u
def zK (p k:Int):Int:=if isKind k=Z then(if below p 4096=Z then 0 else 1)else 2
def index (p l:Int):Int:=if (below p 4096&&below l 4)=Z then p/8^l.toNat%8 else-1
def aEnd (r k:Int) (u:Bool):Int:=if may r k u=Z then 0 else 2
def yij (p f r q k:Int) (u:Bool):Int:=if may r k u=Z then wrap64 (f+wrap64 (q-p))else 0
def yhV (r k:Int) (u:Bool):Int:=if may r k u=Z then r else 0
def fits (n:Int):Prop:= -9223372036854775808<=n/\n<=9223372036854775807
theorem asks_lt (k:Int) (u:Bool):asks k u<8:=by
 unfold asks;repeat (any_goals split)
 all_goals omega
theorem yhG (s:Int):(s=0/\span s=1)\/(s=1/\span s=8)\/(s=2/\span s=64)\/(s≠0/\s≠1/\s≠2/\span s=0):=by
 unfold span;split<;>(try split)<;>(try split)<;>omega
theorem yhP (s:Int):0<=span s/\span s<=64:=by
 rcases yhG s with h|h|h|h<;>omega
theorem fits_wf {n:Int} (h:(Lit.int V n).wf=Z):fits n:=by
 simp only[Lit.wf,IntKind.min,IntKind.max,IntKind.signed,IntKind.bits,kQ,decide_eq_true_eq,if_true]at h;unfold fits;omega
theorem over_no {p s q:Int} (h:decide (p<=q)=M):over p s q=M:=by simp[over,h]
theorem over_yes {p s q:Int} (hp:fits p) (hq:fits q) (h:p<=q):decide (IntKind.u64.wrap (wrap64 (q-p))<span s)=over p s q:=by
 unfold fits at hp hq;rw[u64_of_wrap64 _ (by omega) (by omega)];simp[over,h]
theorem may_eq (r k:Int) (u:Bool):(bits .and V r (asks k u:Int)==(asks k u:Int))=may r k u:=by
 rw[band_small r _ (asks_lt k u)];unfold may;rw[kO];simp only[beq_iff_eq];exact Int.ofNat_inj
theorem check_kind {p s f r:Int} (h:span s=0):check p s f r=2:=by simp[check,h]
theorem yiw {p s f r:Int} (h:span s≠0) (hb:(!below p 4096|| !below f 1048576|| !below r 8)=Z):check p s f r=1:=by
 simp only[check,h,if_false,hb,if_true]
theorem yie {p s f r:Int} (h:span s≠0) (h1:below p 4096=Z) (h2:below f 1048576=Z) (h3:below r 8=Z):
 check p s f r=if p%span s=0/\f%span s=0 then 0 else 3:=by
 simp[check,h,h1,h2,h3]
theorem zB {n e:Int}:below n e=Z ↔ 0<=n/\n<e:=by simp[below]
theorem yhy {p s f r:Int} (h:check p s f r=0):span s≠0/\0<=p/\p<4096/\0<=f/\f<1048576/\0<=r/\r<8/\p%span s=0/\f%span s=0:=by
 unfold check at h;split at h
 ·omega
 ·split at h
  ·omega
  ·split at h
   ·rename_i h1 h2 h3
    simp[below]at h2;refine⟨h1,?_⟩;obtain⟨h3a,h3b⟩:=h3;omega
   ·omega
def sameUpto (p q:Int):Nat->Bool
 | 0=>Z
 | k+1=>sameUpto p q k&&(index p (k:Int)==index q (k:Int))
def cnt (np ns mp:Int):Nat->Int
 | 0=>0
 | j+1=>cnt np ns mp j+(if over np ns (mp+(j:Int))=Z then 1 else 0)
theorem cnt_eq (np ns mp:Int) (j:Nat):cnt np ns mp j=max 0 (min (mp+j) (np+span ns)-max mp np):=by
 have hs:=(yhP ns).1
 induction j with
 | zero=>simp only[cnt];omega
 | succ j ih=>
   simp only[cnt,ih]
   have e:(over np ns (mp+(j:Int))=Z) ↔ (np<=mp+j/\mp+j-np<span ns):=by simp[over]
   by_cases h:np<=mp+(j:Int)/\mp+(j:Int)-np<span ns
   ·rw[if_pos (e.2 h)];omega
   ·rw[if_neg (fun x=>h (e.1 x))];omega
theorem yki (a s b t:Int):meet a s b t=decide ((a<=b/\b-a<span s)\/(b<=a/\a-b<span t)):=by
 rw[kO];simp[meet,over]
theorem meets {mp ms mf mr np ns nf nr:Int} (h:check mp ms mf mr=0) (h':check np ns nf nr=0):
 (cnt np ns mp (span ms).toNat=0/\meet mp ms np ns=M/\meet np ns mp ms=M)\/
 (0<cnt np ns mp (span ms).toNat/\cnt np ns mp (span ms).toNat=min (span ms) (span ns)/\meet mp ms np ns=Z/\meet np ns mp ms=Z):=by
 obtain⟨z0,z1,z2,_,_,_,_,z3,_⟩:=yhy h;obtain⟨y0,y1,y2,_,_,_,_,y3,_⟩:=yhy h';rw[cnt_eq,yki,yki];simp only[decide_eq_false_iff_not,decide_eq_true_eq]
 rcases yhG ms with ⟨_,hv⟩|⟨_,hv⟩|⟨_,hv⟩|⟨_,_,_,hv⟩<;>rcases yhG ns with ⟨_,hw⟩|⟨_,hw⟩|⟨_,hw⟩|⟨_,_,_,hw⟩
 all_goals
  rw[hv]at z0 z3;rw[hw]at y0 y3;rw[hv,hw];omega
theorem below_not {n e:Int}:below n e=M ↔ n<0\/e<=n:=by simp[below];omega
end Pg
open Go.RowKit Go.Sort
set_option linter.unusedVariables false
theorem qD {W w1:C} (hb:Below W.heap.size W w1):(∀b o,b<W.heap.size->w1.cell? ⟨b,o,I⟩=W.cell? ⟨b,o,I⟩)/\(∀b o,b<W.heap.size->w1.frozen? ⟨b,o,I⟩=W.frozen? ⟨b,o,I⟩):=
 ⟨fun b o h=>hb.cell (p:=⟨b,o,I⟩) h,fun b o h=>hb.frozen (p:=⟨b,o,I⟩) h⟩
theorem zT {w w1 w2:C} (h:Below w.heap.size w w1) (hb:Below w1.heap.size w1 w2):Below w.heap.size w w2:=h.trans (hb.mono h.size)
theorem zA {w w1:C} (h:Below w.heap.size w w1) (o:Obj):Below w.heap.size w (w1.alloc o):=h.alloc h.size o
theorem zR (w:C):Below w.heap.size w w:=kG _ _
theorem zV {P:Program} {f:FuncId} {args:Array R} {w:C} {v:R}
 (h:kU P f args w fun e w'=>e=D v/\w'=w):kU P f args w fun e w'=>e=D v/\Below w.heap.size w w':=
 h.mono fun _ _ ⟨he,hw⟩=>⟨he,hw▸zR w⟩
theorem vu {w w':C} {b:Nat} {v0 v1 v2:R} (hb:Below w.heap.size w w')
 (h:w.cell? ⟨b,0,I⟩=J v0/\w.cell? ⟨b,1,I⟩=J v1/\w.cell? ⟨b,2,I⟩=J v2):
 w'.cell? ⟨b,0,I⟩=J v0/\w'.cell? ⟨b,1,I⟩=J v1/\w'.cell? ⟨b,2,I⟩=J v2:=
 ⟨U hb h.1,U hb h.2.1,U hb h.2.2⟩
theorem qH {w w':C} {b:Nat} {v0 v1 v2 v3:R} (hb:Below w.heap.size w w')
 (h:w.cell? ⟨b,0,I⟩=J v0/\w.cell? ⟨b,1,I⟩=J v1/\w.cell? ⟨b,2,I⟩=J v2/\w.cell? ⟨b,3,I⟩=J v3):
 w'.cell? ⟨b,0,I⟩=J v0/\w'.cell? ⟨b,1,I⟩=J v1/\w'.cell? ⟨b,2,I⟩=J v2/\w'.cell? ⟨b,3,I⟩=J v3:=
 ⟨U hb h.1,U hb h.2.1,U hb h.2.2.1,U hb h.2.2.2⟩
theorem ybn {w w':C} {a:Addr} {v:R} (hb:Below w.heap.size w w') (h:w.cell? a=J v) (hf:w.frozen? a=M):w'.frozen? a=M:=
 (hb.frozen (World.block_lt_of_cell? _ _ h)).trans hf
theorem qy {w w':C} {b:Nat} {v0 v1 v2 v3 v4 v5:R} (hb:Below w.heap.size w w')
 (h:w.cell? ⟨b,0,I⟩=J v0/\w.cell? ⟨b,1,I⟩=J v1/\w.cell? ⟨b,2,I⟩=J v2/\w.cell? ⟨b,3,I⟩=J v3/\w.cell? ⟨b,4,I⟩=J v4/\w.cell? ⟨b,5,I⟩=J v5):
 w'.cell? ⟨b,0,I⟩=J v0/\w'.cell? ⟨b,1,I⟩=J v1/\w'.cell? ⟨b,2,I⟩=J v2/\w'.cell? ⟨b,3,I⟩=J v3/\w'.cell? ⟨b,4,I⟩=J v4/\w'.cell? ⟨b,5,I⟩=J v5:=
 ⟨U hb h.1,U hb h.2.1,U hb h.2.2.1,U hb h.2.2.2.1,U hb h.2.2.2.2.1,U hb h.2.2.2.2.2⟩
theorem yfM {w w':C} {b:Nat} {u0 u1 u2 u3 u4 u5 v0 v1 v2 v3 v4 v5:R} (hB:Below w.heap.size w w') (hbl:w.heap.size<=b) (h:w'.cell? ⟨b,0,I⟩=J u0/\w'.cell? ⟨b,1,I⟩=J u1/\w'.cell? ⟨b,2,I⟩=J u2/\w'.cell? ⟨b,3,I⟩=J u3/\w'.cell? ⟨b,4,I⟩=J u4/\w'.cell? ⟨b,5,I⟩=J u5):
 Below w.heap.size w ((((((w'.setCell ⟨b,0,I⟩ v0).setCell ⟨b,1,I⟩ v1).setCell ⟨b,2,I⟩ v2).setCell ⟨b,3,I⟩ v3).setCell ⟨b,4,I⟩ v4).setCell ⟨b,5,I⟩ v5)/\
 (((((((w'.setCell ⟨b,0,I⟩ v0).setCell ⟨b,1,I⟩ v1).setCell ⟨b,2,I⟩ v2).setCell ⟨b,3,I⟩ v3).setCell ⟨b,4,I⟩ v4).setCell ⟨b,5,I⟩ v5).cell? ⟨b,0,I⟩=J v0/\((((((w'.setCell ⟨b,0,I⟩ v0).setCell ⟨b,1,I⟩ v1).setCell ⟨b,2,I⟩ v2).setCell ⟨b,3,I⟩ v3).setCell ⟨b,4,I⟩ v4).setCell ⟨b,5,I⟩ v5).cell? ⟨b,1,I⟩=J v1/\((((((w'.setCell ⟨b,0,I⟩ v0).setCell ⟨b,1,I⟩ v1).setCell ⟨b,2,I⟩ v2).setCell ⟨b,3,I⟩ v3).setCell ⟨b,4,I⟩ v4).setCell ⟨b,5,I⟩ v5).cell? ⟨b,2,I⟩=J v2/\((((((w'.setCell ⟨b,0,I⟩ v0).setCell ⟨b,1,I⟩ v1).setCell ⟨b,2,I⟩ v2).setCell ⟨b,3,I⟩ v3).setCell ⟨b,4,I⟩ v4).setCell ⟨b,5,I⟩ v5).cell? ⟨b,3,I⟩=J v3/\((((((w'.setCell ⟨b,0,I⟩ v0).setCell ⟨b,1,I⟩ v1).setCell ⟨b,2,I⟩ v2).setCell ⟨b,3,I⟩ v3).setCell ⟨b,4,I⟩ v4).setCell ⟨b,5,I⟩ v5).cell? ⟨b,4,I⟩=J v4/\((((((w'.setCell ⟨b,0,I⟩ v0).setCell ⟨b,1,I⟩ v1).setCell ⟨b,2,I⟩ v2).setCell ⟨b,3,I⟩ v3).setCell ⟨b,4,I⟩ v4).setCell ⟨b,5,I⟩ v5).cell? ⟨b,5,I⟩=J v5)/\
 (∀c o v,c≠b->w'.cell? ⟨c,o,I⟩=J v->((((((w'.setCell ⟨b,0,I⟩ v0).setCell ⟨b,1,I⟩ v1).setCell ⟨b,2,I⟩ v2).setCell ⟨b,3,I⟩ v3).setCell ⟨b,4,I⟩ v4).setCell ⟨b,5,I⟩ v5).cell? ⟨c,o,I⟩=J v)/\
 (∀c o,((((((w'.setCell ⟨b,0,I⟩ v0).setCell ⟨b,1,I⟩ v1).setCell ⟨b,2,I⟩ v2).setCell ⟨b,3,I⟩ v3).setCell ⟨b,4,I⟩ v4).setCell ⟨b,5,I⟩ v5).frozen? ⟨c,o,I⟩=w'.frozen? ⟨c,o,I⟩):=by
 refine⟨(((((hB.setCell hbl _).setCell hbl _).setCell hbl _).setCell hbl _).setCell hbl _).setCell hbl _,?_,?_,?_⟩
 ·simp[go_sem,h]
 ·intro c o v _ hv
  simp[go_sem,hv]
 ·intro c o
  simp[go_sem]
theorem xm {k:IntKind} {a b:Int} (h:a=b):Ending.returned (Y k a)=D (Y k b):=by rw[h]
theorem xJ {a b:Bool} (h:a=b):Ending.returned (.bool a)=D (.bool b):=by rw[h]
theorem vK {n:Int} (h0: -9223372036854775808<=n) (h1:n<=9223372036854775807):IntKind.i64.wrap n=n:=by
 rw[IntKind.wrap_i64];omega
theorem ycB (w:C) (a b c:Obj):(((w.alloc a).alloc b).alloc c).heap[w.heap.size]?=J a/\(((w.alloc a).alloc b).alloc c).heap[w.heap.size+1]?=J b/\(((w.alloc a).alloc b).alloc c).heap[w.heap.size+1+1]?=J c:=by
 have s1:(w.alloc a).heap.size=w.heap.size+1:=by simp
 have s2:((w.alloc a).alloc b).heap.size=w.heap.size+1+1:=by simp
 refine⟨?_,?_,?_⟩
 ·rw[E _ _ _ (by omega),E _ _ _ (by omega)]
  exact kS w a
 ·rw[E _ _ _ (by omega),<-s1]
  exact kS (w.alloc a) b
 ·rw[<-s2]
  exact kS ((w.alloc a).alloc b) c
structure But (F:Nat->Prop) (w w':C):Prop where
 os:w'.os=w.os
 tape:w'.tape=w.tape
 output:w'.output=w.output
 size:w.heap.size<=w'.heap.size
 block:∀k,k<w.heap.size->¬F k->w'.heap[k]?=w.heap[k]?
namespace But
variable {F G:Nat->Prop} {w w1 w2:C}
theorem refl (F:Nat->Prop) (w:C):But F w w:=⟨rfl,rfl,rfl,kZ _,fun _ _ _=>rfl⟩
theorem trans (h:But F w w1) (k:But G w1 w2) (hG:∀i,i<w.heap.size->G i->F i):But F w w2:=
 ⟨k.os.trans h.os,k.tape.trans h.tape,k.output.trans h.output,kI h.size k.size,
  fun i hi hF=>(k.block i (z hi h.size) (fun hg=>hF (hG i hi hg))).trans (h.block i hi hF)⟩
theorem mono (h:But F w w1) (hG:∀i,i<w.heap.size->F i->G i):But G w w1:=
 ⟨h.os,h.tape,h.output,h.size,fun i hi hg=>h.block i hi (fun hf=>hg (hG i hi hf))⟩
theorem alloc (h:But F w w1) (o:Obj):But F w (w1.alloc o):=
 ⟨h.os,h.tape,h.output,kI h.size (by simp),fun i hi hF=>(E w1 o i (z hi h.size)).trans (h.block i hi hF)⟩
theorem drew (h:But F w w1):But F w w1.drew:=⟨h.os,h.tape,h.output,h.size,h.block⟩
theorem setCell (h:But F w w1) {a:Addr} (ha:w.heap.size<=a.block\/F a.block) (v:R):But F w (w1.setCell a v):=by
 have hb:Below 0 w1 (w1.setCell a v):=(kG 0 w1).setCell (kR _) v;refine⟨hb.os.trans h.os,hb.tape.trans h.tape,hb.output.trans h.output,kI h.size hb.size,fun i hi hF=> ?_⟩;refine(kC w1 a v i ?_).trans (h.block i hi hF);rintro rfl;rcases ha with h'|h'
 ·omega
 ·exact hF h'
theorem grown (h:But F w w1) {row:Option Nat} (hg:w1.grownBy w2 row) (hr:∀k,row=J k->w.heap.size<=k\/F k):But F w w2:=
 ⟨hg.os.trans h.os,hg.tape.trans h.tape,hg.output.trans h.output,kI h.size hg.size,fun i hi hF=>
  (hg.block i (z hi h.size) (fun e=>(hr i e.symm).elim (fun h'=>by omega) hF)).trans (h.block i hi hF)⟩
theorem cell (h:But F w w1) {a:Addr} (ha:a.block<w.heap.size) (hF:¬F a.block):w1.cell? a=w.cell? a:=World.cell?_of_block (h.block a.block ha hF)
theorem frozen (h:But F w w1) {a:Addr} (ha:a.block<w.heap.size) (hF:¬F a.block):w1.frozen? a=w.frozen? a:=World.frozen?_of_block (h.block a.block ha hF)
theorem below (h:But F w w1) {B:Nat} (hB:B<=w.heap.size) (hF:∀k,F k->B<=k):Below B w w1:=
 ⟨h.os,h.tape,h.output,h.size,fun k hk=>h.block k (by omega) (fun hf=>by have:=hF k hf;omega)⟩
theorem yhl (h:Below w.heap.size w w1):But F w w1:=⟨h.os,h.tape,h.output,h.size,fun k hk _=>h.block k hk⟩
end But
end
section
namespace Pg
structure Fs where
 n:Nat
 next:Nat
 used:List Nat
 back:List Nat
 word:Nat->Nat->Int
namespace Fs
def new (n:Nat):Fs:=⟨n,0,[],[],fun _ _=>0⟩
structure Ok (S:Fs):Prop where
 perm:(S.used++S.back).Perm (List.range S.next)
 top:S.next<=S.n
 small:S.n<=128
 low:∀k i,0<=S.word k i
 high:∀k i,S.word k i<18446744073709551616
def inn (S:Fs) (k:Nat):Bool:=decide (k ∈ S.used)
def has (S:Fs) (k:Int):Bool:=decide (0<=k)&&S.inn k.toNat
def pick (S:Fs):Option Nat:=match S.back.getLast? with
 | some k=>J k
 | none=>if S.next<S.n then J S.next else I
def put (f:Nat->Nat->Int) (k i:Nat) (v:Int):Nat->Nat->Int:=fun a b=>if a=k/\b=i then v else f a b
def clear (f:Nat->Nat->Int) (k:Nat):Nat->Nat->Int:=fun a b=>if a=k then 0 else f a b
def takeN (S:Fs):Int:=match S.pick with
 | some k=>(k:Int)
 | none=> -1
def take (S:Fs):Fs:=match S.back.getLast? with
 | some k=>{S with used:=k::S.used,back:=S.back.dropLast,word:=clear S.word k}
 | none=>if S.next<S.n then{S with used:=S.next::S.used,next:=S.next+1,word:=clear S.word S.next}else S
def give (S:Fs) (k:Int):Fs:=if S.has k=Z then{S with used:=S.used.erase k.toNat,back:=S.back++[k.toNat]}else S
def free (S:Fs):Int:=S.back.length+S.n-S.next
def at' (S:Fs) (k i:Int):Bool:=S.has k&&(decide (0<=i)&&decide (i<8))
def load (S:Fs) (k i:Int):Int:=if S.at' k i=Z then S.word k.toNat i.toNat else 0
def store (S:Fs) (k i w:Int):Fs:=if S.at' k i=Z then{S with word:=put S.word k.toNat i.toNat w}else S
def swaps (S:Fs) (k i old:Int):Bool:=S.at' k i&&decide (S.word k.toNat i.toNat=old)
def swap (S:Fs) (k i old w:Int):Fs:=if S.swaps k i old=Z then{S with word:=put S.word k.toNat i.toNat w}else S
theorem ylW (n:Nat) (h:n<=128):(new n).Ok:=⟨by simp[new],kR _,h,fun _ _=>by simp[new],fun _ _=>by simp[new]⟩
section
variable {S:Fs}
theorem Ok.len (h:S.Ok):S.used.length+S.back.length=S.next:=by simpa using h.perm.length_eq
theorem Ok.lt (h:S.Ok) {k:Nat} (hk:k ∈ S.used):k<S.next:=by
 have:k ∈ List.range S.next:=h.perm.mem_iff.1 (by simp[hk])
 simpa using this
theorem Ok.ylm (h:S.Ok) {k:Nat} (hk:k ∈ S.back):k<S.next:=by
 have:k ∈ List.range S.next:=h.perm.mem_iff.1 (by simp[hk])
 simpa using this
theorem Ok.nodup (h:S.Ok):(S.used++S.back).Nodup:=h.perm.nodup_iff.2 List.nodup_range
theorem Ok.yiX (h:S.Ok) {k:Int} (hk:S.has k=Z):0<=k/\k<S.n/\k.toNat ∈ S.used:=by
 simp[has,inn]at hk;have:=h.lt hk.2;have:=h.top;exact⟨hk.1,by omega,hk.2⟩
theorem Ok.yl0 (h:S.Ok) {k i:Int} (hk:S.at' k i=Z):0<=k/\k<S.n/\0<=i/\i<8/\k.toNat ∈ S.used:=by
 simp only[at',kQ,decide_eq_true_eq]at hk;obtain⟨h0,h1,h2⟩:=h.yiX hk.1;exact⟨h0,h1,hk.2.1,hk.2.2,h2⟩
theorem Ok.ylD (h:S.Ok) {k:Nat} (hk:S.pick=J k):k<S.n/\k ∉ S.used:=by
 unfold pick at hk;have htop:=h.top;have hnd:=h.nodup;split at hk
 ·rename_i j hj
  cases hk;have hm:=List.mem_of_getLast? hj;have:=h.ylm hm;rw[List.nodup_append]at hnd;exact⟨by omega,fun hu=>hnd.2.2 _ hu _ hm rfl⟩
 ·split at hk
  ·cases hk
   refine⟨by omega,fun hu=> ?_⟩;have:=h.lt hu;omega
  ·cases hk
theorem Ok.take (h:S.Ok):S.take.Ok:=by
 unfold Fs.take;have hp:=h.perm;split
 ·rename_i k hk
  refine⟨?_,h.top,h.small,fun a b=> ?_,fun a b=> ?_⟩
  ·have e:S.back=S.back.dropLast++[k]:=by
    obtain⟨l,hl⟩:=List.getLast?_eq_some_iff.1 hk;simp[hl]
   rw[e]at hp;refine List.Perm.trans ?_ hp
   show(k::S.used++S.back.dropLast).Perm (S.used++(S.back.dropLast++[k]))
   rw[<-kV];exact(kB (l₁:=[k]) (l₂:=S.used++S.back.dropLast))
  ·show 0<=clear S.word k a b
   unfold clear;split
   ·exact Int.le_refl _
   ·exact h.low a b
  ·show clear S.word k a b<_
   unfold clear;split
   ·decide
   ·exact h.high a b
 ·rename_i hb
  have hb:S.back=[]:=by simpa using hb
  split
  ·rename_i hlt
   refine⟨?_,hlt,h.small,fun a b=> ?_,fun a b=> ?_⟩
   ·rw[hb,kK]at hp
    show(S.next::S.used++S.back).Perm (List.range (S.next+1))
    rw[hb,kK,List.range_succ];exact List.Perm.trans (List.Perm.cons _ hp) (kB (l₁:=[S.next]))
   ·show 0<=clear S.word S.next a b
    unfold clear;split
    ·exact Int.le_refl _
    ·exact h.low a b
   ·show clear S.word S.next a b<_
    unfold clear;split
    ·decide
    ·exact h.high a b
  ·exact h
theorem Ok.give (h:S.Ok) (k:Int):(S.give k).Ok:=by
 unfold Fs.give;split
 ·rename_i hk
  obtain⟨_,_,hm⟩:=h.yiX hk;refine⟨?_,h.top,h.small,h.low,h.high⟩
  show(S.used.erase k.toNat++(S.back++[k.toNat])).Perm (List.range S.next)
  refine List.Perm.trans ?_ h.perm;refine List.Perm.trans ?_ (List.Perm.append_right S.back (List.perm_cons_erase hm).symm);rw[<-kV];exact(kB (l₁:=S.used.erase k.toNat++S.back) (l₂:=[k.toNat]))
 ·exact h
theorem ylY (h:S.Ok) (k i:Nat) {v:Int} (h0:0<=v) (h1:v<18446744073709551616):({S with word:=put S.word k i v}:Fs).Ok:=by
 refine⟨h.perm,h.top,h.small,fun a b=> ?_,fun a b=> ?_⟩
 ·show 0<=put S.word k i v a b
  unfold put;split
  ·exact h0
  ·exact h.low a b
 ·show put S.word k i v a b<_
  unfold put;split
  ·exact h1
  ·exact h.high a b
theorem Ok.store (h:S.Ok) (k i:Int) {v:Int} (h0:0<=v) (h1:v<18446744073709551616):(S.store k i v).Ok:=by
 unfold Fs.store;split
 ·exact ylY h _ _ h0 h1
 ·exact h
theorem Ok.swap (h:S.Ok) (k i old:Int) {v:Int} (h0:0<=v) (h1:v<18446744073709551616):(S.swap k i old v).Ok:=by
 unfold Fs.swap;split
 ·exact ylY h _ _ h0 h1
 ·exact h
theorem Ok.free_bd (h:S.Ok):0<=S.free/\S.free<=128:=by
 have:=h.len;have:=h.top;have:=h.small;unfold free;omega
end
end Fs
end Pg
open Go.RowKit Go.Sort
set_option linter.unusedVariables false
theorem zc {w w':C} {base e size n:Nat} {v:R} {xs:List R} (h:w.ownsRow base e size v n xs) (hk:∀k,v.ownBlock=J k->w'.heap[k]?=w.heap[k]?):w'.ownsRow base e size v n xs:=by
 refine⟨h.1,?_⟩;rcases h.2 with hn|⟨g,cap,cur,rfl,hb,hgg,rest⟩
 ·exact .inl hn
 ·exact .inr ⟨g,cap,cur,rfl,hb,by rw[hk g rfl];exact hgg,rest⟩
def yeD (l:List Nat):List R:=l.map fun k:Nat=>Value.int V (k:Int)
theorem jq (b:Nat):∀(vs:List R) (o:Nat) (w:C) (k:Nat),k≠b->(w.setCells b o vs).heap[k]?=w.heap[k]?
 | [],_,_,_,_=>rfl
 | v::r,o,w,k,h=>by rw[kM,jq b r (o+1) _ k h,kC _ _ _ _ h]
theorem ju (b:Nat):∀(vs:List R) (o:Nat) (w:C),(w.setCells b o vs).heap.size=w.heap.size
 | [],_,_=>rfl
 | v::r,o,w=>by rw[kM,ju b r (o+1)];simp
theorem But.setCells {F:Nat->Prop} {w:C} (b:Nat) (hb:w.heap.size<=b\/F b):∀(vs:List R) (o:Nat) (w1:C),But F w w1->But F w (w1.setCells b o vs)
 | [],_,_,h=>h
 | v::r,o,w1,h=>But.setCells b hb r (o+1) _ (h.setCell (a:=⟨b,o,I⟩) hb v)
namespace MemRaw
variable {w w':C} {b g0 g1:Nat} {vb:R} {S:Pg.Fs}
end MemRaw
def ygM:Array R:=#[Y kA 0,Y kA 0,Y kA 0,Y kA 0,Y kA 0,Y kA 0,Y kA 0,Y kA 0]
end
namespace Pg
structure Mp where
 p:Int
 s:Int
 f:Int
 r:Int
def Mp.zz:Mp:=⟨0,0,0,0⟩
namespace Mp
def code (m:Mp):Int:=check m.p m.s m.f m.r
def has (m:Mp) (q:Int):Bool:=over m.p m.s q
def meets (a b:Mp):Bool:=meet a.p a.s b.p b.s
def rts (m:Mp) (r:Int):Mp:=⟨m.p,m.s,m.f,r⟩
def val (m:Mp):R:= .agg #[Y V m.p,Y V m.s,Y V m.f,Y V m.r]
theorem yje (a b:Mp):a.meets b=b.meets a:=by simp[meets,meet,Bool.or_comm]
end Mp
structure Good (L:List Mp):Prop where
 ok:∀m,m ∈ L->m.code=0
 up:L.Pairwise fun a b=>a.p<b.p/\a.meets b=M
theorem yjf {m:Mp} (h:m.code=0):0<=m.p/\m.p<4096/\fits m.p/\fits m.s/\fits m.f/\fits m.r:=by
 obtain⟨h0,h1,h2,h3,h4,h5,h6,_,_⟩:=yhy h
 have hs:m.s=0\/m.s=1\/m.s=2:=by
  rcases yhG m.s with ⟨e,_⟩|⟨e,_⟩|⟨e,_⟩|⟨_,_,_,e⟩
  ·exact .inl e
  ·exact .inr (.inl e)
  ·exact .inr (.inr e)
  ·exact absurd e h0
 refine⟨h1,h2,?_,?_,?_,?_⟩<;>unfold fits<;>omega
theorem yla:∀(L:List Mp) (a:Int),(∀m,m ∈ L->a<=m.p)->(L.Pairwise fun x y=>x.p<y.p)->(∀m,m ∈ L->m.p<4096)->(L.length:Int)<=max 0 (4096-a)
 | [],_,_,_,_=>by simp;omega
 | x::r,a,h,hp,hl=>by
   rw[T]at hp;have h1:=h x (by simp);have h2:=hl x (by simp);have:=yla r (x.p+1) (fun m hm=>by have:=hp.1 m hm;omega) hp.2 (fun m hm=>hl m (by simp[hm]));simp only[List.length_cons];omega
theorem Good.len {L:List Mp} (h:Good L):L.length<=4096:=by
 have:=yla L 0 (fun m hm=>(yjf (h.ok m hm)).1) (h.up.imp fun⟨h,_⟩=>h) (fun m hm=>(yjf (h.ok m hm)).2.1);omega
theorem Good.nil:Good []:=⟨fun _ h=>by simp at h,List.Pairwise.nil⟩
def fnd (L:List Mp) (q:Int):Option Nat:=L.findIdx? fun m=>m.has q
def fndN (L:List Mp) (q:Int):Int:=match fnd L q with
 | some k=>(k:Int)
 | none=> -1
def ins (m:Mp):List Mp->List Mp
 | []=>[m]
 | x::r=>if m.p<x.p then m::x::r else x::ins m r
def addC (L:List Mp) (m:Mp):Int:=if m.code≠0 then m.code else if (L.any fun x=>x.meets m)=Z then 4 else 0
def addL (L:List Mp) (m:Mp):List Mp:=if addC L m=0 then ins m L else L
def yhN (L:List Mp) (q:Int):Int:=if below q 4096=Z then(if fnd L q=I then 5 else 0)else 1
def at' (L:List Mp) (q:Int):Mp:=match fnd L q with
 | some k=>L.getD k .zz
 | none=> .zz
def yi0 (L:List Mp) (q:Int):Mp:=if yhN L q=0 then at' L q else .zz
def yio (L:List Mp) (q:Int):List Mp:=if yhN L q=0 then(match fnd L q with
 | some k=>L.eraseIdx k
 | none=>L)else L
def yiE (L:List Mp) (q r:Int):Int:=if below r 8=Z then yhN L q else 1
def ykj (L:List Mp) (q r:Int):Mp:=if yiE L q r=0 then(at' L q).rts r else .zz
def yi4 (L:List Mp) (q r:Int):List Mp:=if yiE L q r=0 then(match fnd L q with
 | some k=>L.set k ((L.getD k .zz).rts r)
 | none=>L)else L
def ansE (L:List Mp) (q k:Int) (u:Bool):Int:=match fnd L q with
 | some j=>aEnd (L.getD j .zz).r k u
 | none=>1
def ansF (L:List Mp) (q k:Int) (u:Bool):Int:=match fnd L q with
 | some j=>yij (L.getD j .zz).p (L.getD j .zz).f (L.getD j .zz).r q k u
 | none=>0
def ansR (L:List Mp) (q k:Int) (u:Bool):Int:=match fnd L q with
 | some j=>yhV (L.getD j .zz).r k u
 | none=>0
theorem yiV {L:List Mp} {j:Nat} (hj:j<L.length):L.getD j .zz=L[j]:=by simp[List.getD,hj]
theorem fnd_some {L:List Mp} {q:Int} {k:Nat} (h:fnd L q=J k):k<L.length/\(L.getD k .zz).has q=Z/\∀j,j<k->(L.getD j .zz).has q=M:=by
 obtain⟨hk,h1,h2⟩:=kJ.1 h;refine⟨hk,by rw[yiV hk];exact h1,fun j hj=> ?_⟩;rw[yiV (by omega)]
 simpa using h2 j hj
theorem fnd_of {L:List Mp} {q:Int} {k:Nat} (hk:k<L.length) (h1:(L.getD k .zz).has q=Z) (h2:∀j,j<k->(L.getD j .zz).has q=M):fnd L q=J k:=by
 refine kJ.2 ⟨hk,by rw[<-yiV hk];exact h1,fun j hj=> ?_⟩;have:=h2 j hj;rw[yiV (by omega)]at this
 simpa using this
theorem fnd_no {L:List Mp} {q:Int} (h:∀j,j<L.length->(L.getD j .zz).has q=M):fnd L q=I:=by
 refine List.findIdx?_eq_none_iff.2 fun m hm=> ?_;obtain⟨j,hj,rfl⟩:=List.mem_iff_getElem.1 hm;have:=h j hj;rw[yiV hj]at this
 simpa using this
theorem yk1 (m:Mp):∀L:List Mp,(ins m L).Perm (m::L)
 | []=>List.Perm.refl _
 | x::r=>by
   unfold ins;split
   ·exact List.Perm.refl _
   ·exact((yk1 m r).cons x).trans (List.Perm.swap m x r)
theorem ylu {m x:Mp} {L:List Mp}:x ∈ ins m L ↔ x=m\/x ∈ L:=by
 rw[(yk1 m L).mem_iff];simp
theorem yk4 {a b:Mp} (ha:a.code=0) (h:a.meets b=M):a.p≠b.p:=by
 intro e
 have hs:0<span a.s:=by
  have:=(yhy ha).1;have:=(yhP a.s).1;omega
 unfold Mp.meets at h;rw[yki]at h;simp only[decide_eq_false_iff_not]at h;exact h (.inl ⟨by omega,by omega⟩)
theorem ylU {m:Mp} (hm:m.code=0):∀{L:List Mp},(∀x,x ∈ L->x.code=0)->(∀x,x ∈ L->x.meets m=M)->(L.Pairwise fun a b=>a.p<b.p/\a.meets b=M)->(ins m L).Pairwise fun a b=>a.p<b.p/\a.meets b=M
 | [],_,_,_=>by simp[ins]
 | x::r,hok,hme,hp=>by
   rw[T]at hp;have hx:=hme x (by simp);have hne:=yk4 (hok x (by simp)) hx;unfold ins;split
   ·rename_i hlt
    refine T.2 ⟨fun y hy=> ?_,T.2 hp⟩;rcases kH.1 hy with rfl|hy
    ·exact⟨hlt,by rw[Mp.yje];exact hx⟩
    ·exact⟨by have:=(hp.1 y hy).1;omega,by rw[Mp.yje];exact hme y (by simp[hy])⟩
   ·refine T.2 ⟨fun y hy=> ?_,ylU hm (fun y hy=>hok y (by simp[hy])) (fun y hy=>hme y (by simp[hy])) hp.2⟩
    rcases ylu.1 hy with rfl|hy
    ·exact⟨by omega,hx⟩
    ·exact hp.1 y hy
theorem addC_zero {L:List Mp} {m:Mp} (h:addC L m=0):m.code=0/\∀x,x ∈ L->x.meets m=M:=by
 unfold addC at h
 by_cases hc:m.code=0
 ·refine⟨hc,fun x hx=> ?_⟩
  cases hm:x.meets m
  ·rfl
  ·have:(L.any fun x=>x.meets m)=Z:=List.any_eq_true.2 ⟨x,hx,hm⟩
   simp[hc,this]at h
 ·simp[hc]at h
theorem Good.add {L:List Mp} (h:Good L) (m:Mp):Good (addL L m):=by
 unfold addL;split
 ·rename_i hc
  obtain⟨h1,h2⟩:=addC_zero hc;exact⟨fun x hx=>(ylu.1 hx).elim (fun e=>e▸h1) (h.ok x),ylU h1 h.ok h2 h.up⟩
 ·exact h
theorem Good.erase {L:List Mp} (h:Good L) (k:Nat):Good (L.eraseIdx k):=
 ⟨fun m hm=>h.ok m (List.mem_of_mem_eraseIdx hm),h.up.sublist (List.eraseIdx_sublist _ _)⟩
def hlf (L:List Mp) (m:Mp) (j:Nat):List Mp:=if ((L.take j).any fun y=>decide (m.p<y.p))=Z then ins m (L.take j)else L.take j
theorem ykt {m:Mp}:∀{L:List Mp} {k:Nat} (_:k<L.length),m.p=(L.getD k .zz).p->(L.Pairwise fun a b=>a.p<b.p)->ins m (L.eraseIdx k)=L.set k m
 | [],_,h,_,_=>by simp at h
 | x::r,0,_,hp,hu=>by
   rw[T]at hu;simp at hp
   match r,hu with
   | [],_=>rfl
   | y::t,hu=>
     have:=hu.1 y (by simp);simp[ins];intro h;omega
 | x::r,k+1,h,hp,hu=>by
   rw[T]at hu
   have hk:k<r.length:=by simpa using h
   have hp':m.p=(r.getD k .zz).p:=by simpa using hp
   have hm:r.getD k .zz ∈ r:=by rw[yiV hk];exact kT _
   have h1:=hu.1 _ hm
   have hx:¬m.p<x.p:=by omega
   simp only[kF,ins,hx,if_false,List.set_cons_succ];rw[ykt hk hp' hu.2]
theorem yjy:∀{L:List Mp} {k:Nat} (_:k<L.length),(L.Pairwise fun a b=>a.p<b.p/\a.meets b=M)->∀x,x ∈ L.eraseIdx k->x.meets (L.getD k .zz)=M
 | [],_,h,_,_,_=>by simp at h
 | y::r,0,_,hu,x,hx=>by
   rw[T]at hu;simp at hx ⊢;rw[Mp.yje];exact(hu.1 x hx).2
 | y::r,k+1,h,hu,x,hx=>by
   rw[T]at hu
   have hk:k<r.length:=by simpa using h
   have hm:r.getD k .zz ∈ r:=by rw[yiV hk];exact kT _
   have e:(y::r).getD (k+1) .zz=r.getD k .zz:=by simp
   rw[e];simp only[kF,kH]at hx;rcases hx with rfl|hx
   ·exact(hu.1 _ hm).2
   ·exact yjy hk hu.2 x hx
theorem prot_add {L:List Mp} (h:Good L) {k:Nat} (hk:k<L.length) {r:Int} (hr:below r 8=Z):
 addC (L.eraseIdx k) ((L.getD k .zz).rts r)=0/\addL (L.eraseIdx k) ((L.getD k .zz).rts r)=L.set k ((L.getD k .zz).rts r):=by
 have hm:L.getD k .zz ∈ L:=by rw[yiV hk];exact kT _
 have hok:=h.ok _ hm;have ha:=yjy hk h.up;have hi:=ykt (m:=(L.getD k .zz).rts r) hk rfl (h.up.imp fun⟨h,_⟩=>h);clear hm;generalize L.getD k .zz=y at*;obtain⟨p,s,f,r0⟩:=y
 have hc:(Mp.mk p s f r).code=0:=by
  obtain⟨h0,h1,h2,h3,h4,_,_,h7,h8⟩:=yhy hok
  show check p s f r=0
  rw[yie h0 (zB.2 ⟨h1,h2⟩) (zB.2 ⟨h3,h4⟩) hr];exact if_pos ⟨h7,h8⟩
 have ha':((L.eraseIdx k).any fun x=>x.meets (Mp.mk p s f r))=M:=by
  rw[List.any_eq_false];intro x hx;have:x.meets (Mp.mk p s f r)=M:=ha x hx;simp[this]
 have e:addC (L.eraseIdx k) (Mp.mk p s f r)=0:=by simp[addC,hc,ha']
 exact⟨e,by show addL (L.eraseIdx k) (Mp.mk p s f r)=_;rw[addL,if_pos e];exact hi⟩
end Pg
section
open Go.Sort
def zC (L:List Pg.Mp):List R:=L.flatMap fun m=>[Y V m.p,Y V m.s,Y V m.f,Y V m.r]
theorem xy:∀L:List Pg.Mp,(zC L).length=L.length*4
 | []=>rfl
 | x::r=>by
   have:=xy r;simp[zC]at this ⊢;omega
theorem zH (A B:List Pg.Mp):zC (A++B)=zC A++zC B:=by simp[zC]
theorem vw (m:Pg.Mp):zC [m]=[Y V m.p,Y V m.s,Y V m.f,Y V m.r]:=by simp[zC]
theorem ybs (A:List Pg.Mp) (m:Pg.Mp):zC (A++[m])=zC A++[Y V m.p,Y V m.s,Y V m.f,Y V m.r]:=by rw[zH,vw]
theorem yay:∀(L:List Pg.Mp) (j:Nat),j<L.length->
 (zC L)[j*4]?=J (Y V (L.getD j .zz).p)/\(zC L)[j*4+1]?=J (Y V (L.getD j .zz).s)/\(zC L)[j*4+2]?=J (Y V (L.getD j .zz).f)/\(zC L)[j*4+3]?=J (Y V (L.getD j .zz).r)
 | [],j,h=>by simp at h
 | x::r,0,_=>by simp[zC]
 | x::r,j+1,h=>by
   have:=yay r j (by simpa using h)
   have e:∀i,(zC (x::r))[(j+1)*4+i]?=(zC r)[j*4+i]?:=by
    intro i
    have e1:zC (x::r)=[Y V x.p,Y V x.s,Y V x.f,Y V x.r]++zC r:=by simp[zC]
    rw[e1,List.getElem?_append_right (by simp;omega)]
    congr 1
    simp;omega
   have e0:=e 0;simp only[Nat.add_zero]at e0;rw[e0,e 1,e 2,e 3]
   simpa using this
def ybS (w:C) (g o:Nat) (m:Pg.Mp):Prop:=
 w.cell? ⟨g,o,I⟩=J (Y V m.p)/\w.cell? ⟨g,o+1,I⟩=J (Y V m.s)/\w.cell? ⟨g,o+2,I⟩=J (Y V m.f)/\w.cell? ⟨g,o+3,I⟩=J (Y V m.r)
def xg (w:C) (ad:Option Addr) (L:List Pg.Mp):Prop:=∀j,j<L.length->∃g,ad=J ⟨g,0,I⟩/\g<w.heap.size/\ybS w g (j*4) (L.getD j .zz)
theorem ybS.below {w w':C} {g o:Nat} {m:Pg.Mp} (h:ybS w g o m) {B:Nat} (hb:Below B w w') (hg:g<B):ybS w' g o m:=
 ⟨(hb.cell (p:=⟨g,o,I⟩) hg).trans h.1,(hb.cell (p:=⟨g,o+1,I⟩) hg).trans h.2.1,(hb.cell (p:=⟨g,o+2,I⟩) hg).trans h.2.2.1,(hb.cell (p:=⟨g,o+3,I⟩) hg).trans h.2.2.2⟩
theorem xg.below {w w':C} {ad:Option Addr} {L:List Pg.Mp} (h:xg w ad L) (hb:Below w.heap.size w w'):xg w' ad L:=by
 intro j hj;obtain⟨g,e,hg,hm⟩:=h j hj;exact⟨g,e,z hg hb.size,hm.below hb hg⟩
theorem zF {w:C} {base:Nat} {e:TypeId} {size n:Nat} {v:R} {xs:List R} (h:w.ownsRow base e size v n xs):∃ad cap,v=kE ad n cap:=by
 rcases h.2 with ⟨rfl,rfl⟩|⟨g,cap,cur,rfl,_⟩
 ·exact⟨I,0,rfl⟩
 ·exact⟨_,_,rfl⟩
theorem jj {w:C} {base:Nat} {ad:Option Addr} {n cap:Nat} {L:List Pg.Mp} (h:w.ownsRow base 76 4 (kE ad n cap) L.length (zC L)):xg w ad L:=by
 intro j hj;obtain⟨g,cap',e,_,hg⟩:=h.form (by omega);cases e;have hc:=yay L j hj;refine⟨g,rfl,hg,?_,?_,?_,?_⟩
 ·rw[h.cellAt _ (by omega)];exact hc.1
 ·rw[h.cellAt _ (by omega)];exact hc.2.1
 ·rw[h.cellAt _ (by omega)];exact hc.2.2.1
 ·rw[h.cellAt _ (by omega)];exact hc.2.2.2
theorem zb {F:Nat->Prop} {w w':C} {base:Nat} {e:TypeId} {size n:Nat} {v:R} {xs:List R} (h:w.ownsRow base e size v n xs) (hb:But F w w') (hF:∀k,v.ownBlock=J k->¬F k):w'.ownsRow base e size v n xs:=
 zc h fun k hk=>hb.block k (h.lt k hk).2 (hF k hk)
theorem zr {w w':C} {base:Nat} {e:TypeId} {size n:Nat} {v:R} {xs:List R} (h:w.ownsRow base e size v n xs) (hb:Below w.heap.size w w'):w'.ownsRow base e size v n xs:=
 zc h fun k hk=>hb.block k (h.lt k hk).2
theorem yaY {w:C} {base:Nat} {e:TypeId} {size n:Nat} {v:R} {xs:List R} (h:w.ownsRow base e size v n xs):w.ownsRow 0 e size v n xs:=
 ⟨h.1,h.2.imp id fun⟨g,cap,cur,a,_,r⟩=>⟨g,cap,cur,a,kR _,r⟩⟩
def bkF (b:Nat) (vb:R):Nat->Prop:=fun k=>k=b\/vb.ownBlock=J k
namespace BkAt
variable {w w':C} {b:Nat} {vb vb':R} {L L':List Pg.Mp}
end BkAt
theorem jg:(Tryz.prog.info? 76).map (fun i=>(i.zero,i.size,i.bytes))=J (J (.agg #[Y V 0,Y V 0,Y V 0,Y V 0]),4,32):=by kernel_rfl
theorem qJ (L:List Pg.Mp):∀u,u ∈ zC L->u.oneCell'=Z:=by
 intro u hu;obtain⟨m,_,hm⟩:=List.mem_flatMap.1 hu;simp at hm
 rcases hm with rfl|rfl|rfl|rfl<;>rfl
theorem yaG {F:Nat->Prop} {w w1:C} (h:But F w w1) (r:Nat) (hr:w.heap.size<=r\/F r) (x0 x1 x2 x3:R):
 But F w ((((w1.setCell ⟨r,0,I⟩ x0).setCell ⟨r,1,I⟩ x1).setCell ⟨r,2,I⟩ x2).setCell ⟨r,3,I⟩ x3):=
 (((h.setCell (a:=⟨r,0,I⟩) hr x0).setCell (a:=⟨r,1,I⟩) hr x1).setCell (a:=⟨r,2,I⟩) hr x2).setCell (a:=⟨r,3,I⟩) hr x3
theorem zo {w w1:C} (h:Below w.heap.size w w1) (r:Nat) (hr:w.heap.size<=r) (x0 x1 x2 x3:R):
 Below w.heap.size w ((((w1.setCell ⟨r,0,I⟩ x0).setCell ⟨r,1,I⟩ x1).setCell ⟨r,2,I⟩ x2).setCell ⟨r,3,I⟩ x3):=
 (yaG (F:=fun _=>False) (But.yhl h) r (.inl hr) x0 x1 x2 x3).below (kZ _) (fun _ h=>h.elim)
theorem jk {P:Program} (w:C) (t u ty e:TypeId) (i:TypeInfo) (ht:P.underlying t=J (.slice e)) (hu:P.underlying u=J .string) (hi:P.info? e=J i) (hz:i.zero=J (Y .u8 0))
 (hsize:i.size=1) (hby:i.bytes=1) (v:R) (n:Nat) (xs:List R) (hown:w.ownsRow 0 e 1 v n xs) (s:ByteArray) (h63:n+s.size<=maxLen) (hbytes:n+s.size<=140737488355328):
 ∃v' w',(Builtin.append_ #[t,u] ty #[v,.string s]).run P w= .ok v' w'/\w'.ownsRow 0 e 1 v' (n+s.size) (xs++Lib.strCells s)/\w.grownBy w' v.ownBlock/\∀k,v'.ownBlock=J k->v.ownBlock=J k\/w.heap.size<=k:=by
 obtain⟨v',w',hr,h2,h3,h4⟩:=Lib.run_append_own_string (P:=P) w 0 t u ty e i ht hu hi hz hsize hby v n xs hown s h63 hbytes (kR _);refine⟨v',w',hr,h2,h3,fun k hk=> ?_⟩
 have hsmall:n+s.size<=9223372036854775807:=by simp only[maxLen]at h63;omega
 have hxl:xs.length=n:=by simpa using hown.1
 rcases hown.2 with ⟨rfl,rfl⟩|⟨g,cap,cur,rfl,hbg,hg,hnc,hcm,hcs,htake⟩
 ·have hx:xs=[]:=List.eq_nil_of_length_eq_zero hxl
  subst hx;obtain⟨v2,w2,hr2,h22,_⟩:=Lib.run_append_own_string (P:=P) w w.heap.size t u ty e i ht hu hi hz hsize hby (kE I 0 0) 0 [] (World.ownsRow_nil w _ e 1) s h63 hbytes (kZ _);rw[hr2]at hr;injection hr with e1 e2;subst e1;exact .inr (h22.lt k hk).1
 ·by_cases hroom:n+s.size<=cap
  ·have hcs':cur.size=cap:=by simpa using hcs
   have hr2:=Lib.run_append_room_string (P:=P) w t u ty e i ht hu hi hsize g n cap cur hg s hroom (by omega);rw[hr2]at hr;injection hr with e1 e2;subst e1;exact .inl hk
  ·have holds:∀j u,xs[j]?=J u->w.cell? ((⟨g,0,I⟩:Addr).add j)=J u:=hown.cells (g:=g) rfl
   have hr2:=Lib.run_append_grow_string (P:=P) w t u ty e i (Y .u8 0) ht hu hi hz ⟨g,0,I⟩ n cap xs (by rw[hsize];simpa using hxl) holds s (by omega) (by omega) (by rw[hby];exact growslice_fits (by omega) (by omega));rw[hr2]at hr;injection hr with e1 e2;subst e1
   have:w.heap.size=k:=by simpa[kX]using hk
   exact .inr (by omega)
theorem qB {P:Program} (w:C) {ops:Array Oper} {rest:List Oper} {o:Oper} {a:Act} {Q:Exit->Act->C->Prop} (hgd:o.guard=I) (sl x:Operand) (t u:TypeId)
 (ho:o.op= .call {callee:= .builtin .append,args:=#[sl,x],argTypes:=#[t,u]})
 (e:TypeId) (i:TypeInfo) (ht:P.underlying t=J (.slice e)) (hu:P.underlying u=J .string) (hi:P.info? e=J i) (hz:i.zero=J (Y .u8 0))
 (hsize:i.size=1) (hby:i.bytes=1) (v:R) (n:Nat) (xs:List R) (hs:a.eval sl=v) (hown:w.ownsRow 0 e 1 v n xs) (s:ByteArray) (hx:a.eval x= .string s)
 (h63:n+s.size<=maxLen) (hbytes:n+s.size<=140737488355328)
 (h:∀v' w',w'.ownsRow 0 e 1 v' (n+s.size) (xs++Lib.strCells s)->w.grownBy w' v.ownBlock->(∀k,v'.ownBlock=J k->v.ownBlock=J k\/w.heap.size<=k)->wpList P ops Q rest (a.put o.dst v') w'):wpList P ops Q (o::rest) a w:=by
 refine wpList_plain hgd fun K hK=> ?_;obtain⟨v',w',hr,h2,h3,h4⟩:=jk (P:=P) w t u o.type e i ht hu hi hz hsize hby v n xs hown s h63 hbytes;unfold Oper.wp execOp;simp only[ho,resolve,invoke,builtin,Sem.run_bind,Sem.run_pure,Result.andThen_ok,List.map_toArray,List.map_cons,List.map_nil,hs,hx,hr];exact hK _ _ (h v' w' h2 h3 h4)
structure j9 (w:C) (b:Nat) (p0:R) (bs:List UInt8) (F:Nat->Prop):Prop where
 ex:∃p v,w.heap[b]?=J (kY #[p0,p,v] 52 (0,0))/\(p=O I\/p=O (J ⟨b,1,I⟩))/\w.ownsRow 0 5 1 v bs.length (Lib.byteCells bs)/\v.ownBlock≠J b/\F=fun k=>k=b\/v.ownBlock=J k
theorem vD:(Tryz.prog.info? 48).map (·.size)=J 2:=by kernel_rfl
theorem ych:liesAt X Tryz.prog.depth 52 (3/Tryz.prog.cellsOf 52) 1 48 1=Z:=by kernel_rfl
section
variable {w w':C} {b:Nat} {p0:R} {bs:List UInt8} {F G:Nat->Prop}
theorem j9.lt (h:j9 w b p0 bs F) {k:Nat} (hk:F k):k<w.heap.size:=by
 obtain⟨p,v,hb,_,hr,_,rfl⟩:=h;rcases hk with rfl|hk
 ·exact(N.1 hb).1
 ·exact(hr.lt k hk).2
theorem j9.keep (h:j9 w b p0 bs F) (hb:But G w w') (hF:∀k,F k->¬G k):j9 w' b p0 bs F:=by
 obtain⟨p,v,hk,hp,hr,hn,rfl⟩:=h;exact⟨p,v,(hb.block b (N.1 hk).1 (hF b (.inl rfl))).trans hk,hp,zb hr hb fun k hk=>hF k (.inr hk),hn,rfl⟩
theorem j9.grow (h:j9 w b p0 bs F) (hb:Below w.heap.size w w'):j9 w' b p0 bs F:=h.keep (G:=fun _=>False) (But.yhl hb) (fun _ _=>id)
theorem vQ (w:C) (h:w.cell? ⟨b,1,I⟩=J (O (J ⟨b,1,I⟩))):kU X 78 #[O (J ⟨b,1,I⟩)] w fun e w'=>e=D (kD #[])/\w'=w:=by
 go_enter Tryz.func78,Tryz.ntmps78
 go_wp2
 obtain⟨j,hj,_⟩:=Option.map_eq_some_iff.1 vD;rw[Lib.run_neq_ptr_same w _ Tryz.underlying45 hj]
 go_wp2
 go_end0
 exact⟨rfl,rfl⟩
theorem ve {p0 v:R} (w:C) (h:w.heap[b]?=J (kY #[p0,O I,v] 52 (0,0))):kU X 78 #[O (J ⟨b,1,I⟩)] w fun e w'=>e=D (kD #[])/\w'=w.setCell ⟨b,1,I⟩ (O (J ⟨b,1,I⟩)):=by
 obtain⟨j,hj,hjs⟩:=Option.map_eq_some_iff.1 vD
 have hsh:w.shape? b=J (52,3):=by simp[World.shape?,h]
 have h0:w.cell? ⟨b,1,I⟩=J (O I):=by simp[kP,h]
 have hfz:w.frozen? ⟨b,1,I⟩=M:=by simp[kN,h]
 clear h
 go_enter Tryz.func78,Tryz.ntmps78
 go_wp2
 rw[Lib.run_to_unsafe w ⟨b,1,I⟩ Tryz.underlying45 Tryz.underlying217 hj (by rw[hjs];decide) hsh (show 1<3 by decide)];simp only[Result.andThen];rw[Oper.upon_value]
 go_wp2
 rw[run_callFunc_extern Tryz.func121 (by kernel_rfl) (by kernel_rfl) (by kernel_rfl) (e:=Extern.AbiNoEscape.same) (by kernel_rfl)];rw[Lib.run_noEscape];simp only[Result.andThen];rw[Oper.upon_value]
 go_wp2
 rw[Lib.run_from_unsafe w ⟨b,1,I⟩ Tryz.underlying217 Tryz.underlying45 hj hsh ych];simp only[Result.andThen];rw[Oper.upon_value]
 go_wp2
 go_end0
 exact⟨rfl,rfl⟩
theorem jn {p0 p v:R} (w:C) (h:w.heap[b]?=J (kY #[p0,p,v] 52 (0,0))) (hp:p=O I\/p=O (J ⟨b,1,I⟩)):
 kU X 78 #[O (J ⟨b,1,I⟩)] w fun e w'=>e=D (kD #[])/\w'.heap[b]?=J (kY #[p0,O (J ⟨b,1,I⟩),v] 52 (0,0))/\But (fun k=>k=b) w w':=by
 rcases hp with rfl|rfl
 ·refine(ve w h).mono ?_
  rintro e w' ⟨rfl,rfl⟩;exact⟨rfl,Go.Joins.block_setCell (i:=1) h _,But.setCell (F:=fun k=>k=b) (But.refl _ w) (a:=⟨b,1,I⟩) (.inr rfl) _⟩
 ·refine(vQ w (by simp[kP,h])).mono ?_
  rintro e w' ⟨rfl,rfl⟩;exact⟨rfl,h,But.refl _ _⟩
theorem ycF:(Tryz.prog.info? 5).map (fun i=>(i.zero,i.size,i.bytes))=J (J (Y .u8 0),1,1):=by kernel_rfl
def zd (w:C) (b:Nat) (p0:R) (F:Nat->Prop) (bs:List UInt8) (w':C):Prop:=∃F',j9 w' b p0 bs F'/\But F w w'/\∀k,F' k->F k\/w.heap.size<=k
theorem zd.trans {w1 w2:C} {cs:List UInt8} {F1:Nat->Prop} (h:j9 w b p0 bs F) (hb:But F w w1) (hF:∀k,F1 k->F k\/w.heap.size<=k) (h2:zd w1 b p0 F1 cs w2):zd w b p0 F cs w2:=by
 obtain⟨F2,t2,b2,f2⟩:=h2;exact⟨F2,t2,hb.trans b2 fun i hi e=>(hF i e).elim id fun e=>by omega,fun k hk=>(f2 k hk).elim (hF k) fun e=> .inr (kI hb.size e)⟩
theorem yfq {w w1 w2:C} {p0 v:R} {ao:Option Addr} {n cap:Nat} {bs cs:List UInt8} (hb1:w1.heap[b]?=J (kY #[p0,O (J ⟨b,1,I⟩),v] 52 (0,0))) (hc:But (fun k=>k=b) w w1) (hn:v.ownBlock≠J b)
 (hb2:w2.heap[b]?=J (kY #[p0,O (J ⟨b,1,I⟩),v] 52 (0,0))) (ho:w2.ownsRow 0 5 1 (kE ao n cap) n (Lib.byteCells bs++Lib.byteCells cs)) (hg:w1.grownBy w2 v.ownBlock)
 (ha:∀k,(kL ao n cap).ownBlock=J k->v.ownBlock=J k\/w1.heap.size<=k):zd w b p0 (fun k=>k=b\/v.ownBlock=J k) (bs++cs) (w2.setCell ⟨b,2,I⟩ (kE ao n cap)):=by
 have hlt:=(N.1 hb1).1
 have hne:(kL ao n cap).ownBlock≠J b:=fun e=>(ha b e).elim hn fun e=>by omega
 have hsz:=hc.size;refine⟨_,⟨_,_,Go.Joins.block_setCell (i:=2) hb2 _,.inr rfl,?_,hne,rfl⟩,?_,fun k hk=> ?_⟩
 ·have hl:(Lib.byteCells bs++Lib.byteCells cs).length=n:=by simpa using ho.1
  rw[Lib.byteCells_append]
  have e:(bs++cs).length=n:=by rw[<-hl];simp[Lib.byteCells]
  rw[e];exact zc ho fun k hk=>kC _ _ _ _ (fun e=>hne (by rw[hk];exact congrArg J e))
 ·exact((hc.mono fun i _ e=> .inl e).grown hg fun j hj=> .inr (.inr hj)).setCell (.inr (.inl rfl)) _
 ·rcases hk with rfl|hk
  ·exact .inl (.inl rfl)
  ·exact(ha k hk).elim (fun e=> .inl (.inr e)) fun e=> .inr (kI hsz e)
theorem ybP (s:ByteArray) (w:C) (h:j9 w b p0 bs F) (hl:bs.length+s.size<=140737488355328):
 kU X 47 #[O (J ⟨b,1,I⟩),.string s] w fun e w'=>e=D (kD #[Y V s.size,.nilIface])/\zd w b p0 F (bs++s.data.toList) w':=by
 obtain⟨p,v,hb,hp,hr,hn,rfl⟩:=h;obtain⟨i0,hi,hz0,hz1,hz2⟩:=info_parts ycF;have HC:=jn w hb hp;have hbl:=(N.1 hb).1
 go_enter Tryz.func47,Tryz.ntmps47
 go_wp2_with fail
 refine HC.mono ?_;rintro e w1 ⟨rfl,hb1,hc1⟩
 have c2:w1.cell? ⟨b,2,I⟩=J v:=by simp[kP,hb1]
 have f2:w1.frozen? ⟨b,2,I⟩=M:=by simp[kN,hb1]
 have hr1:=zb hr hc1 fun k hk e=>hn (by rw[hk,e]);have HB1:Hid _:=hb1;have HC1:Hid _:=hc1;have HR1:Hid _:=hr1;have HN:Hid (v.ownBlock≠J b):=hn
 have HMX:Hid (bs.length+s.size<=maxLen):=by unfold Hid maxLen;omega
 clear hb1 hc1 hr hn hp hb HC
 go_wp2_with (at_builtin;refine qB _ rfl _ _ 46 9 rfl 5 i0 Tryz.underlying46 Tryz.underlying9 hi hz0 hz1 hz2 v bs.length (Lib.byteCells bs) rfl HR1.out s rfl HMX.out hl ?_;intro v' w2 hown hgrow hat;obtain⟨ao,cap',rfl⟩:=zF hown;have hb2:=(hgrow.block b (N.1 HB1.out).1 (fun e=>HN.out e.symm)).trans HB1.out;have d2:w2.cell? ⟨b,2,I⟩=J v:=(by simp[kP,hb2]);have g2:w2.frozen? ⟨b,2,I⟩=M:=(by simp[kN,hb2]);have HB2:Hid _:=hb2;have HO:Hid _:=hown;have HG:Hid _:=hgrow;have HA:Hid _:=hat;clear hb2 hown hgrow hat)
 refine bodyPost_ret (v:=kD #[Y V s.size,.nilIface]) ?_ rfl ⟨rfl,?_⟩
 ·simp[results,Tryz.results47,go_sem]
 ·exact yfq HB1.out HC1.out HN.out HB2.out HO.out HG.out HA.out
theorem yaE (c:UInt8) (w:C) (h:j9 w b p0 bs F) (hl:bs.length+1<=140737488355328):
 kU X 48 #[O (J ⟨b,1,I⟩),Y .u8 c.toNat] w fun e w'=>e=D .nilIface/\zd w b p0 F (bs++[c]) w':=by
 obtain⟨p,v,hb,hp,hr,hn,rfl⟩:=h;obtain⟨i0,hi,hz0,hz1,hz2⟩:=info_parts ycF;have HC:=jn w hb hp
 go_enter Tryz.func48,Tryz.ntmps48
 go_wp2_with fail
 refine HC.mono ?_;rintro e w1 ⟨rfl,hb1,hc1⟩
 have c2:w1.cell? ⟨b,2,I⟩=J v:=by simp[kP,hb1]
 have hr1:=zb hr hc1 fun k hk e=>hn (by rw[hk,e]);have hlt:=(N.1 hb1).1;have HB1:Hid _:=(E w1 (kY #[Y .u8 c.toNat] 5) b hlt).trans hb1;have HC1:Hid _:=hc1.alloc (kY #[Y .u8 c.toNat] 5);have HR1:Hid _:=hr1.alloc (kY #[Y .u8 c.toNat] 5);have HN:Hid (v.ownBlock≠J b):=hn
 have HMX:Hid (bs.length+1<=maxLen):=by unfold Hid maxLen;omega
 clear hb1 hc1 hr hn hp hb HC hr1
 go_wp2_with (at_builtin;refine wpList_append_lies _ rfl _ _ 46 rfl 0 5 i0 _ 1 1 Tryz.underlying46 hi hz0 hz1 hz2 rfl (by decide) v bs.length (Lib.byteCells bs) rfl HR1.out ⟨w1.heap.size,0,I⟩ 1 1 [Y .u8 c.toNat] rfl rfl (World.news_of_block (kS _ _)) (by simp[Value.oneCell']) (by decide) HMX.out (by omega) (kR _) _ rfl ?_;intro g cap' w2 hown hgrow hat hlt2;have hb2:=(hgrow.block b (N.1 HB1.out).1 (fun e=>HN.out e.symm)).trans HB1.out;have d2:w2.cell? ⟨b,2,I⟩=J v:=(by simp[kP,hb2]);have g2:w2.frozen? ⟨b,2,I⟩=M:=(by simp[kN,hb2]);have HB2:Hid _:=hb2;have HO:Hid _:=hown;have HG:Hid _:=hgrow;have HA:Hid _:=hat;clear hb2 hown hgrow hat)
 go_ret
 refine⟨rfl,?_⟩;refine yfq (cs:=[c]) HB1.out HC1.out HN.out HB2.out HO.out HG.out fun k hk=> ?_
 have e:g=k:=by simpa[kX]using hk
 subst e
 exact HA.out.imp id fun e=>by rw[e];simp
end
end
end Go.Proofs.YtdphiompijbelaaGreatDoor
namespace Go.Proofs.YtdphiompijbelaaGreatDoor
open Go.ChangeShapes Go.WideShapes Go.ChangeAt Go.RowKit Go.Joins
section
theorem own:ownKnob Tryz.prog.godebug=I:=by kernel_rfl
theorem yfA:laidOutB X=Z:=by kernel_rfl
section
variable {H:Type} {enc:TypeId×R->H} {W:C} {r:Reach} {b0 base:Nat} {spare:Nat->Bool} {held:Bool} {v:R} {d:DataW H} {p:List MemPlace}
theorem yfD (hv:Value.okWide X W r b0 3 v) (h:DataW.Trod enc X W base spare held 3 v d p):
 ∃x:Int,v=Y V x/\Pg.fits x:=by
 obtain⟨a,rfl,_,_,w⟩:=open_int Tryz.underlying3 hv h;exact⟨a,rfl,Pg.fits_wf w⟩
theorem yf8 {W':C} {t:TypeId} (hr:Tryz.prog.readableRec t=Z) (ht:t<Tryz.prog.types.size)
 (h:DataW.Trod enc X W 0 (fun _=>Z) Z t v d p) (hb:Below W.heap.size W W'):
 DataW.Trod enc X W' 0 (fun b=>decide (b<W.heap.size)) Z t v d p:=
 Below.trod yfA hr ht h hb (by obtain⟨m,hm⟩:=h;exact DataW.trod_lt m _ _ _ hm)
end
open Go.ChangeShapes Go.WideShapes Go.ChangeAt Go.RowKit Go.Joins Go.Deep
set_option linter.unusedVariables false
section
variable {H:Type} {enc:TypeId×R->H} {W:C} {r:Reach} {b0 base:Nat} {spare:Nat->Bool} {held:Bool} {v:R} {d:DataW H} {p:List MemPlace}
end
end
end Go.Proofs.YtdphiompijbelaaGreatDoor
