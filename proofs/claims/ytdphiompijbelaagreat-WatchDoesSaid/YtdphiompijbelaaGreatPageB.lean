import Derived.WalkKit
import Derived.WalkLawsBesides
import Derived.WalkSmall
import Derived.WalkSpells
import Derived.BigQuiet
import Derived.Lib.QuietBelow
import Derived.OwnWalk
import Derived.Laws.IdiomCopy
import Derived.Test.YtdphiompijbelaaGreatChecked
import Derived.Deep.AppendLies
set_option linter.all false
open List renaming perm_append_comm->ue,nodup_append->yN,append_assoc->yY,append_nil->yU
open Array renaming getElem?_range->un,getElem?_eq_some_iff->uv,getElem?_map->uc
open Int renaming eq_ofNat_of_zero_le->kh,le_refl->yQ
open Nat renaming le_refl->D,lt_of_lt_of_le->ki,le_trans->yB,zero_le->yV,mod_lt->yM
open Bool renaming false->M,true->E,and_eq_true->yF,eq_iff_iff->yZ
open Go.RowKit.Below renaming heap_setCell->O,refl->L,heap_alloc->ur
open Go.Proofs.Tryz renaming prog->Z
open Go renaming World->Q
open Go.Ending renaming returned->T
open Go.IntKind renaming i64->Y,u64->K
open Go.Value renaming int->C,bool->X,pointer->A,slice->kp,ownBlock->ks,agg->ua,tuple->yJ,int->yS,bool->yR,slice->yK
open Option renaming none->J,some->N
open Go.World renaming cell?_of_block->I,cell?_setCell_other->R,frozen?_of_block->V,cell?_setCell_same->U,block_lt_of_cell?->z,frozen?_setCells->kO,cell?_setCells_out->ud,frozen?->yI,cell?_setCells_in->yP,frozen?_setCell->yC,ownsRow_nil->yT,setCells->yO
namespace Go.Proofs.YtdphiompijbelaaGreat
open Go.RowKit
namespace Pg
def r8 (x:Int):Nat:=(BitVec.ofInt 64 x).toNat%8
theorem and_small (n m:Nat) (h:m<8):n&&&m=(n%8)&&&m:=by
 have h7:m=7&&&m:=by
  have:m=0\/m=1\/m=2\/m=3\/m=4\/m=5\/m=6\/m=7:=by omega
  rcases this with h|h|h|h|h|h|h|h<;>subst h<;>decide
 have e:n&&&7=n%8:=Nat.and_two_pow_sub_one_eq_mod n 3;rw[<-e,Nat.and_assoc,<-h7]
theorem ofInt_small (y:Nat) (h:y<8):(BitVec.ofInt 64 (y:Int)).toNat=y:=by
 rw[BitVec.toNat_ofInt];omega
theorem wrap_i64_small (n:Nat) (h:n<8):IntKind.i64.wrap (n:Int)=n:=by
 simp[IntKind.wrap,IntKind.bits,IntKind.signed];omega
theorem and_lt8 (a m:Nat) (h:m<8):a&&&m<8:=Nat.lt_of_le_of_lt Nat.and_le_right h
theorem yiN (x:Int) (m:Nat) (h:m<8):bits .and Y x (m:Int)=((r8 x&&&m:Nat):Int):=by
 unfold bits r8
 show IntKind.i64.wrap ((BitVec.ofInt 64 x&&&BitVec.ofInt 64 (m:Int)).toNat:Int)=_
 rw[BitVec.toNat_and,ofInt_small m h,and_small _ m h];exact wrap_i64_small _ (and_lt8 _ m h)
theorem r8_lt (x:Int):r8 x<8:=yM _ (by decide)
theorem u64_of_wrap64 (n:Int) (h0:0<=n) (h1:n<18446744073709551616):IntKind.u64.wrap (wrap64 n)=n:=by
 simp only[IntKind.wrap,IntKind.bits,IntKind.signed,wrap64,Bool.false_and,Bool.false_eq_true,if_false];omega
def below (n e:Int):Bool:=decide (0<=n)&&decide (n<e)
def span (s:Int):Int:=if s=0 then 1 else if s=1 then 8 else if s=2 then 64 else 0
def isKind (k:Int):Bool:=k==0||k==1||k==2
def check (p s f r:Int):Int:=
 if span s=0 then 2
 else if (!below p 4096|| !below f 1048576|| !below r 8)=E then 1
 else if p%span s=0/\f%span s=0 then 0 else 3
def over (mp ms p:Int):Bool:=decide (mp<=p)&&decide (p-mp<span ms)
def meet (ap az bp bz:Int):Bool:=over ap az bp||over bp bz ap
def asks (k:Int) (u:Bool):Nat:=(if k=1 then 1 else if k=2 then 4 else 0)+(if u then 2 else 0)
def may (r k:Int) (u:Bool):Bool:=(r8 r&&&asks k u)==asks k u
def zK (p k:Int):Int:=if isKind k=E then(if below p 4096=E then 0 else 1)else 2
def index (p l:Int):Int:=if (below p 4096&&below l 4)=E then p/8^l.toNat%8 else-1
def aEnd (r k:Int) (u:Bool):Int:=if may r k u=E then 0 else 2
def yhY (p f r q k:Int) (u:Bool):Int:=if may r k u=E then wrap64 (f+wrap64 (q-p))else 0
def yhL (r k:Int) (u:Bool):Int:=if may r k u=E then r else 0
def fits (n:Int):Prop:= -9223372036854775808<=n/\n<=9223372036854775807
theorem asks_lt (k:Int) (u:Bool):asks k u<8:=by
 unfold asks;repeat (any_goals split)
 all_goals omega
theorem yhD (s:Int):(s=0/\span s=1)\/(s=1/\span s=8)\/(s=2/\span s=64)\/(s≠0/\s≠1/\s≠2/\span s=0):=by
 unfold span;split<;>(try split)<;>(try split)<;>omega
theorem yhH (s:Int):0<=span s/\span s<=64:=by
 rcases yhD s with h|h|h|h<;>omega
theorem yiY {n:Int} (h:(Lit.int Y n).wf=E):fits n:=by
 simp only[Lit.wf,IntKind.min,IntKind.max,IntKind.signed,IntKind.bits,yF,decide_eq_true_eq,if_true]at h;unfold fits;omega
theorem over_no {p s q:Int} (h:decide (p<=q)=M):over p s q=M:=by simp[over,h]
theorem over_yes {p s q:Int} (hp:fits p) (hq:fits q) (h:p<=q):decide (IntKind.u64.wrap (wrap64 (q-p))<span s)=over p s q:=by
 unfold fits at hp hq;rw[u64_of_wrap64 _ (by omega) (by omega)];simp[over,h]
theorem may_eq (r k:Int) (u:Bool):(bits .and Y r (asks k u:Int)==(asks k u:Int))=may r k u:=by
 rw[yiN r _ (asks_lt k u)];unfold may;rw[yZ];simp only[beq_iff_eq];exact Int.ofNat_inj
theorem yjL {p s f r:Int} (h:span s=0):check p s f r=2:=by simp[check,h]
theorem yil {p s f r:Int} (h:span s≠0) (hb:(!below p 4096|| !below f 1048576|| !below r 8)=E):check p s f r=1:=by
 simp only[check,h,if_false,hb,if_true]
theorem yh1 {p s f r:Int} (h:span s≠0) (h1:below p 4096=E) (h2:below f 1048576=E) (h3:below r 8=E):
 check p s f r=if p%span s=0/\f%span s=0 then 0 else 3:=by
 simp[check,h,h1,h2,h3]
theorem zB {n e:Int}:below n e=E ↔ 0<=n/\n<e:=by simp[below]
theorem index_at {p:Int} (h0:0<=p) (h1:p<4096):index p 0=p%8/\index p 1=p/8%8/\index p 2=p/64%8/\index p 3=p/512:=by
 have hb:below p 4096=E:=zB.2 ⟨h0,h1⟩
 have hi:∀l:Int,below l 4=E->index p l=p/8^l.toNat%8:=fun l hl=>by simp[index,hb,hl]
 refine⟨?_,?_,?_,?_⟩<;>rw[hi _ (by decide)]
 ·show p/1%8=_;omega
 ·show p/8%8=_;omega
 ·show p/64%8=_;omega
 ·show p/512%8=_;omega
theorem yhC {p s f r:Int} (h:check p s f r=0):span s≠0/\0<=p/\p<4096/\0<=f/\f<1048576/\0<=r/\r<8/\p%span s=0/\f%span s=0:=by
 unfold check at h;split at h
 ·omega
 ·split at h
  ·omega
  ·split at h
   ·rename_i h1 h2 h3
    simp[below]at h2;refine⟨h1,?_⟩;obtain⟨h3a,h3b⟩:=h3;omega
   ·omega
def sameUpto (p q:Int):Nat->Bool
 | 0=>E
 | k+1=>sameUpto p q k&&(index p (k:Int)==index q (k:Int))
def cnt (np ns mp:Int):Nat->Int
 | 0=>0
 | j+1=>cnt np ns mp j+(if over np ns (mp+(j:Int))=E then 1 else 0)
theorem cnt_eq (np ns mp:Int) (j:Nat):cnt np ns mp j=max 0 (min (mp+j) (np+span ns)-max mp np):=by
 have hs:=(yhH ns).1
 induction j with
 | zero=>simp only[cnt];omega
 | succ j ih=>
   simp only[cnt,ih]
   have e:(over np ns (mp+(j:Int))=E) ↔ (np<=mp+j/\mp+j-np<span ns):=by simp[over]
   by_cases h:np<=mp+(j:Int)/\mp+(j:Int)-np<span ns
   ·rw[if_pos (e.2 h)];omega
   ·rw[if_neg (fun x=>h (e.1 x))];omega
theorem yj5 (a s b t:Int):meet a s b t=decide ((a<=b/\b-a<span s)\/(b<=a/\a-b<span t)):=by
 rw[yZ];simp[meet,over]
theorem meets {mp ms mf mr np ns nf nr:Int} (h:check mp ms mf mr=0) (h':check np ns nf nr=0):
 (cnt np ns mp (span ms).toNat=0/\meet mp ms np ns=M/\meet np ns mp ms=M)\/
 (0<cnt np ns mp (span ms).toNat/\cnt np ns mp (span ms).toNat=min (span ms) (span ns)/\meet mp ms np ns=E/\meet np ns mp ms=E):=by
 obtain⟨z0,z1,z2,_,_,_,_,z3,_⟩:=yhC h;obtain⟨y0,y1,y2,_,_,_,_,y3,_⟩:=yhC h';rw[cnt_eq,yj5,yj5];simp only[decide_eq_false_iff_not,decide_eq_true_eq]
 rcases yhD ms with ⟨_,hv⟩|⟨_,hv⟩|⟨_,hv⟩|⟨_,_,_,hv⟩<;>rcases yhD ns with ⟨_,hw⟩|⟨_,hw⟩|⟨_,hw⟩|⟨_,_,_,hw⟩
 all_goals
  rw[hv]at z0 z3;rw[hw]at y0 y3;rw[hv,hw];omega
theorem yjq {n e:Int}:below n e=M ↔ n<0\/e<=n:=by simp[below];omega
end Pg
open Go.RowKit Go.Sort
set_option linter.unusedVariables false
theorem xW {W w1:Q} (hb:Below W.heap.size W w1):(∀b o,b<W.heap.size->w1.cell? ⟨b,o,J⟩=W.cell? ⟨b,o,J⟩)/\(∀b o,b<W.heap.size->w1.frozen? ⟨b,o,J⟩=W.frozen? ⟨b,o,J⟩):=
 ⟨fun b o h=>hb.cell (p:=⟨b,o,J⟩) h,fun b o h=>hb.frozen (p:=⟨b,o,J⟩) h⟩
theorem zT {w w1 w2:Q} (h:Below w.heap.size w w1) (hb:Below w1.heap.size w1 w2):Below w.heap.size w w2:=h.trans (hb.mono h.size)
theorem zA {w w1:Q} (h:Below w.heap.size w w1) (o:Obj):Below w.heap.size w (w1.alloc o):=h.alloc h.size o
theorem zR (w:Q):Below w.heap.size w w:=L _ _
theorem xz {P:Program} {f:FuncId} {args:Array Value} {w:Q} {v:Value}
 (h:Calls P f args w fun e w'=>e=T v/\w'=w):Calls P f args w fun e w'=>e=T v/\Below w.heap.size w w':=
 h.mono fun _ _ ⟨he,hw⟩=>⟨he,hw▸zR w⟩
theorem qc {w w':Q} {b:Nat} {v0 v1 v2:Value} (hb:Below w.heap.size w w')
 (h:w.cell? ⟨b,0,J⟩=N v0/\w.cell? ⟨b,1,J⟩=N v1/\w.cell? ⟨b,2,J⟩=N v2):
 w'.cell? ⟨b,0,J⟩=N v0/\w'.cell? ⟨b,1,J⟩=N v1/\w'.cell? ⟨b,2,J⟩=N v2:=
 ⟨cell_later hb h.1,cell_later hb h.2.1,cell_later hb h.2.2⟩
theorem xH {w w':Q} {b:Nat} {v0 v1 v2 v3:Value} (hb:Below w.heap.size w w')
 (h:w.cell? ⟨b,0,J⟩=N v0/\w.cell? ⟨b,1,J⟩=N v1/\w.cell? ⟨b,2,J⟩=N v2/\w.cell? ⟨b,3,J⟩=N v3):
 w'.cell? ⟨b,0,J⟩=N v0/\w'.cell? ⟨b,1,J⟩=N v1/\w'.cell? ⟨b,2,J⟩=N v2/\w'.cell? ⟨b,3,J⟩=N v3:=
 ⟨cell_later hb h.1,cell_later hb h.2.1,cell_later hb h.2.2.1,cell_later hb h.2.2.2⟩
theorem yb1 {w w':Q} {a:Addr} {v:Value} (hb:Below w.heap.size w w') (h:w.cell? a=N v) (hf:w.frozen? a=M):w'.frozen? a=M:=
 (hb.frozen (z _ _ h)).trans hf
theorem xE {w w':Q} {b:Nat} {v0 v1 v2 v3 v4 v5:Value} (hb:Below w.heap.size w w')
 (h:w.cell? ⟨b,0,J⟩=N v0/\w.cell? ⟨b,1,J⟩=N v1/\w.cell? ⟨b,2,J⟩=N v2/\w.cell? ⟨b,3,J⟩=N v3/\w.cell? ⟨b,4,J⟩=N v4/\w.cell? ⟨b,5,J⟩=N v5):
 w'.cell? ⟨b,0,J⟩=N v0/\w'.cell? ⟨b,1,J⟩=N v1/\w'.cell? ⟨b,2,J⟩=N v2/\w'.cell? ⟨b,3,J⟩=N v3/\w'.cell? ⟨b,4,J⟩=N v4/\w'.cell? ⟨b,5,J⟩=N v5:=
 ⟨cell_later hb h.1,cell_later hb h.2.1,cell_later hb h.2.2.1,cell_later hb h.2.2.2.1,cell_later hb h.2.2.2.2.1,cell_later hb h.2.2.2.2.2⟩
theorem yad {w w':Q} {b:Nat} {u0 u1 u2 u3 u4 u5 v0 v1 v2 v3 v4 v5:Value} (hB:Below w.heap.size w w') (rR:w.heap.size<=b) (h:w'.cell? ⟨b,0,J⟩=N u0/\w'.cell? ⟨b,1,J⟩=N u1/\w'.cell? ⟨b,2,J⟩=N u2/\w'.cell? ⟨b,3,J⟩=N u3/\w'.cell? ⟨b,4,J⟩=N u4/\w'.cell? ⟨b,5,J⟩=N u5):
 Below w.heap.size w ((((((w'.setCell ⟨b,0,J⟩ v0).setCell ⟨b,1,J⟩ v1).setCell ⟨b,2,J⟩ v2).setCell ⟨b,3,J⟩ v3).setCell ⟨b,4,J⟩ v4).setCell ⟨b,5,J⟩ v5)/\
 (((((((w'.setCell ⟨b,0,J⟩ v0).setCell ⟨b,1,J⟩ v1).setCell ⟨b,2,J⟩ v2).setCell ⟨b,3,J⟩ v3).setCell ⟨b,4,J⟩ v4).setCell ⟨b,5,J⟩ v5).cell? ⟨b,0,J⟩=N v0/\((((((w'.setCell ⟨b,0,J⟩ v0).setCell ⟨b,1,J⟩ v1).setCell ⟨b,2,J⟩ v2).setCell ⟨b,3,J⟩ v3).setCell ⟨b,4,J⟩ v4).setCell ⟨b,5,J⟩ v5).cell? ⟨b,1,J⟩=N v1/\((((((w'.setCell ⟨b,0,J⟩ v0).setCell ⟨b,1,J⟩ v1).setCell ⟨b,2,J⟩ v2).setCell ⟨b,3,J⟩ v3).setCell ⟨b,4,J⟩ v4).setCell ⟨b,5,J⟩ v5).cell? ⟨b,2,J⟩=N v2/\((((((w'.setCell ⟨b,0,J⟩ v0).setCell ⟨b,1,J⟩ v1).setCell ⟨b,2,J⟩ v2).setCell ⟨b,3,J⟩ v3).setCell ⟨b,4,J⟩ v4).setCell ⟨b,5,J⟩ v5).cell? ⟨b,3,J⟩=N v3/\((((((w'.setCell ⟨b,0,J⟩ v0).setCell ⟨b,1,J⟩ v1).setCell ⟨b,2,J⟩ v2).setCell ⟨b,3,J⟩ v3).setCell ⟨b,4,J⟩ v4).setCell ⟨b,5,J⟩ v5).cell? ⟨b,4,J⟩=N v4/\((((((w'.setCell ⟨b,0,J⟩ v0).setCell ⟨b,1,J⟩ v1).setCell ⟨b,2,J⟩ v2).setCell ⟨b,3,J⟩ v3).setCell ⟨b,4,J⟩ v4).setCell ⟨b,5,J⟩ v5).cell? ⟨b,5,J⟩=N v5)/\
 (∀c o v,c≠b->w'.cell? ⟨c,o,J⟩=N v->((((((w'.setCell ⟨b,0,J⟩ v0).setCell ⟨b,1,J⟩ v1).setCell ⟨b,2,J⟩ v2).setCell ⟨b,3,J⟩ v3).setCell ⟨b,4,J⟩ v4).setCell ⟨b,5,J⟩ v5).cell? ⟨c,o,J⟩=N v)/\
 (∀c o,((((((w'.setCell ⟨b,0,J⟩ v0).setCell ⟨b,1,J⟩ v1).setCell ⟨b,2,J⟩ v2).setCell ⟨b,3,J⟩ v3).setCell ⟨b,4,J⟩ v4).setCell ⟨b,5,J⟩ v5).frozen? ⟨c,o,J⟩=w'.frozen? ⟨c,o,J⟩):=by
 refine⟨(((((hB.setCell rR _).setCell rR _).setCell rR _).setCell rR _).setCell rR _).setCell rR _,?_,?_,?_⟩
 ·simp[go_sem,h]
 ·intro c o v _ hv
  simp[go_sem,hv]
 ·intro c o
  simp[go_sem]
theorem zE {k:IntKind} {a b:Int} (h:a=b):Ending.returned (C k a)=T (C k b):=by rw[h]
theorem ybw {k k':IntKind} {a b c d:Int} (h:a=b) (h':c=d):Ending.returned (yJ #[C k a,C k' c])=T (yJ #[C k b,C k' d]):=by rw[h,h']
theorem xB {a b:Bool} (h:a=b):Ending.returned (X a)=T (X b):=by rw[h]
theorem zr {n:Int} (h0: -9223372036854775808<=n) (h1:n<=9223372036854775807):IntKind.i64.wrap n=n:=by
 rw[IntKind.wrap_i64];omega
theorem js (w:Q) (a b c:Obj):(((w.alloc a).alloc b).alloc c).heap[w.heap.size]?=N a/\(((w.alloc a).alloc b).alloc c).heap[w.heap.size+1]?=N b/\(((w.alloc a).alloc b).alloc c).heap[w.heap.size+1+1]?=N c:=by
 have s1:(w.alloc a).heap.size=w.heap.size+1:=by simp
 have s2:((w.alloc a).alloc b).heap.size=w.heap.size+1+1:=by simp
 refine⟨?_,?_,?_⟩
 ·rw[ur _ _ _ (by omega),ur _ _ _ (by omega)]
  exact heap_alloc_new w a
 ·rw[ur _ _ _ (by omega),<-s1]
  exact heap_alloc_new (w.alloc a) b
 ·rw[<-s2]
  exact heap_alloc_new ((w.alloc a).alloc b) c
structure But (F:Nat->Prop) (w w':Q):Prop where
 os:w'.os=w.os
 tape:w'.tape=w.tape
 output:w'.output=w.output
 size:w.heap.size<=w'.heap.size
 block:∀k,k<w.heap.size->¬F k->w'.heap[k]?=w.heap[k]?
namespace But
variable {F G:Nat->Prop} {w w1 w2:Q}
theorem refl (F:Nat->Prop) (w:Q):But F w w:=⟨rfl,rfl,rfl,D _,fun _ _ _=>rfl⟩
theorem trans (h:But F w w1) (k:But G w1 w2) (hG:∀i,i<w.heap.size->G i->F i):But F w w2:=
 ⟨k.os.trans h.os,k.tape.trans h.tape,k.output.trans h.output,yB h.size k.size,
  fun i hi hF=>(k.block i (ki hi h.size) (fun hg=>hF (hG i hi hg))).trans (h.block i hi hF)⟩
theorem mono (h:But F w w1) (hG:∀i,i<w.heap.size->F i->G i):But G w w1:=
 ⟨h.os,h.tape,h.output,h.size,fun i hi hg=>h.block i hi (fun hf=>hg (hG i hi hf))⟩
theorem alloc (h:But F w w1) (o:Obj):But F w (w1.alloc o):=
 ⟨h.os,h.tape,h.output,yB h.size (by simp),fun i hi hF=>(ur w1 o i (ki hi h.size)).trans (h.block i hi hF)⟩
theorem drew (h:But F w w1):But F w w1.drew:=⟨h.os,h.tape,h.output,h.size,h.block⟩
theorem setCell (h:But F w w1) {a:Addr} (ha:w.heap.size<=a.block\/F a.block) (v:Value):But F w (w1.setCell a v):=by
 have hb:Below 0 w1 (w1.setCell a v):=(L 0 w1).setCell (yV _) v;refine⟨hb.os.trans h.os,hb.tape.trans h.tape,hb.output.trans h.output,yB h.size hb.size,fun i hi hF=> ?_⟩;refine(O w1 a v i ?_).trans (h.block i hi hF);rintro rfl;rcases ha with h'|h'
 ·omega
 ·exact hF h'
theorem grown (h:But F w w1) {row:Option Nat} (hg:w1.grownBy w2 row) (hr:∀k,row=N k->w.heap.size<=k\/F k):But F w w2:=
 ⟨hg.os.trans h.os,hg.tape.trans h.tape,hg.output.trans h.output,yB h.size hg.size,fun i hi hF=>
  (hg.block i (ki hi h.size) (fun e=>(hr i e.symm).elim (fun h'=>by omega) hF)).trans (h.block i hi hF)⟩
theorem cell (h:But F w w1) {a:Addr} (ha:a.block<w.heap.size) (hF:¬F a.block):w1.cell? a=w.cell? a:=I (h.block a.block ha hF)
theorem frozen (h:But F w w1) {a:Addr} (ha:a.block<w.heap.size) (hF:¬F a.block):w1.frozen? a=w.frozen? a:=V (h.block a.block ha hF)
theorem below (h:But F w w1) {B:Nat} (hB:B<=w.heap.size) (hF:∀k,F k->B<=k):Below B w w1:=
 ⟨h.os,h.tape,h.output,h.size,fun k hk=>h.block k (by omega) (fun hf=>by have:=hF k hf;omega)⟩
theorem yhp (h:Below w.heap.size w w1):But F w w1:=⟨h.os,h.tape,h.output,h.size,fun k hk _=>h.block k hk⟩
end But
end Go.Proofs.YtdphiompijbelaaGreat
namespace Go.Proofs.YtdphiompijbelaaGreat
open Go.RowKit
namespace Pg
structure Fs where
 n:Nat
 next:Nat
 used:List Nat
 back:List Nat
 word:Nat->Nat->Int
namespace Fs
def new (n:Nat):Fs:=⟨n,0,[],[],fun _ _=>0⟩
structure Ok (S:Fs):Prop where
 perm:(S.used++S.back).Perm (List.range S.next)
 top:S.next<=S.n
 small:S.n<=128
 low:∀k i,0<=S.word k i
 high:∀k i,S.word k i<18446744073709551616
def inn (S:Fs) (k:Nat):Bool:=decide (k ∈ S.used)
def has (S:Fs) (k:Int):Bool:=decide (0<=k)&&S.inn k.toNat
def pick (S:Fs):Option Nat:=match S.back.getLast? with
 | some k=>N k
 | none=>if S.next<S.n then N S.next else J
def put (f:Nat->Nat->Int) (k i:Nat) (v:Int):Nat->Nat->Int:=fun a b=>if a=k/\b=i then v else f a b
def clear (f:Nat->Nat->Int) (k:Nat):Nat->Nat->Int:=fun a b=>if a=k then 0 else f a b
def takeN (S:Fs):Int:=match S.pick with
 | some k=>(k:Int)
 | none=> -1
def take (S:Fs):Fs:=match S.back.getLast? with
 | some k=>{S with used:=k::S.used,back:=S.back.dropLast,word:=clear S.word k}
 | none=>if S.next<S.n then{S with used:=S.next::S.used,next:=S.next+1,word:=clear S.word S.next}else S
def give (S:Fs) (k:Int):Fs:=if S.has k=E then{S with used:=S.used.erase k.toNat,back:=S.back++[k.toNat]}else S
def free (S:Fs):Int:=S.back.length+S.n-S.next
def at' (S:Fs) (k i:Int):Bool:=S.has k&&(decide (0<=i)&&decide (i<8))
def load (S:Fs) (k i:Int):Int:=if S.at' k i=E then S.word k.toNat i.toNat else 0
def store (S:Fs) (k i w:Int):Fs:=if S.at' k i=E then{S with word:=put S.word k.toNat i.toNat w}else S
def swaps (S:Fs) (k i old:Int):Bool:=S.at' k i&&decide (S.word k.toNat i.toNat=old)
def swap (S:Fs) (k i old w:Int):Fs:=if S.swaps k i old=E then{S with word:=put S.word k.toNat i.toNat w}else S
theorem ykU (n:Nat) (h:n<=128):(new n).Ok:=⟨by simp[new],yV _,h,fun _ _=>by simp[new],fun _ _=>by simp[new]⟩
section
variable {S:Fs}
theorem Ok.len (h:S.Ok):S.used.length+S.back.length=S.next:=by simpa using h.perm.length_eq
theorem Ok.lt (h:S.Ok) {k:Nat} (hk:k ∈ S.used):k<S.next:=by
 have:k ∈ List.range S.next:=h.perm.mem_iff.1 (by simp[hk])
 simpa using this
theorem Ok.ykC (h:S.Ok) {k:Nat} (hk:k ∈ S.back):k<S.next:=by
 have:k ∈ List.range S.next:=h.perm.mem_iff.1 (by simp[hk])
 simpa using this
theorem Ok.nodup (h:S.Ok):(S.used++S.back).Nodup:=h.perm.nodup_iff.2 List.nodup_range
theorem Ok.yhK (h:S.Ok) {k:Int} (hk:S.has k=E):0<=k/\k<S.n/\k.toNat ∈ S.used:=by
 simp[has,inn]at hk;have:=h.lt hk.2;have:=h.top;exact⟨hk.1,by omega,hk.2⟩
theorem Ok.ylH (h:S.Ok) {k i:Int} (hk:S.at' k i=E):0<=k/\k<S.n/\0<=i/\i<8/\k.toNat ∈ S.used:=by
 simp only[at',yF,decide_eq_true_eq]at hk;obtain⟨h0,h1,h2⟩:=h.yhK hk.1;exact⟨h0,h1,hk.2.1,hk.2.2,h2⟩
theorem Ok.ylq (h:S.Ok) {k:Nat} (hk:S.pick=N k):k<S.n/\k ∉ S.used:=by
 unfold pick at hk;have htop:=h.top;have fD:=h.nodup;split at hk
 ·rename_i j hj
  cases hk;have hm:=List.mem_of_getLast? hj;have:=h.ykC hm;rw[yN]at fD;exact⟨by omega,fun hu=>fD.2.2 _ hu _ hm rfl⟩
 ·split at hk
  ·cases hk
   refine⟨by omega,fun hu=> ?_⟩;have:=h.lt hu;omega
  ·cases hk
theorem Ok.take (h:S.Ok):S.take.Ok:=by
 unfold Fs.take;have hp:=h.perm;split
 ·rename_i k hk
  refine⟨?_,h.top,h.small,fun a b=> ?_,fun a b=> ?_⟩
  ·have e:S.back=S.back.dropLast++[k]:=by
    obtain⟨l,hl⟩:=List.getLast?_eq_some_iff.1 hk;simp[hl]
   rw[e]at hp;refine List.Perm.trans ?_ hp
   show(k::S.used++S.back.dropLast).Perm (S.used++(S.back.dropLast++[k]))
   rw[<-yY];exact(ue (l₁:=[k]) (l₂:=S.used++S.back.dropLast))
  ·show 0<=clear S.word k a b
   unfold clear;split
   ·exact yQ _
   ·exact h.low a b
  ·show clear S.word k a b<_
   unfold clear;split
   ·decide
   ·exact h.high a b
 ·rename_i hb
  have hb:S.back=[]:=by simpa using hb
  split
  ·rename_i Hf
   refine⟨?_,Hf,h.small,fun a b=> ?_,fun a b=> ?_⟩
   ·rw[hb,yU]at hp
    show(S.next::S.used++S.back).Perm (List.range (S.next+1))
    rw[hb,yU,List.range_succ];exact List.Perm.trans (List.Perm.cons _ hp) (ue (l₁:=[S.next]))
   ·show 0<=clear S.word S.next a b
    unfold clear;split
    ·exact yQ _
    ·exact h.low a b
   ·show clear S.word S.next a b<_
    unfold clear;split
    ·decide
    ·exact h.high a b
  ·exact h
theorem Ok.give (h:S.Ok) (k:Int):(S.give k).Ok:=by
 unfold Fs.give;split
 ·rename_i hk
  obtain⟨_,_,hm⟩:=h.yhK hk;refine⟨?_,h.top,h.small,h.low,h.high⟩
  show(S.used.erase k.toNat++(S.back++[k.toNat])).Perm (List.range S.next)
  refine List.Perm.trans ?_ h.perm;refine List.Perm.trans ?_ (List.Perm.append_right S.back (List.perm_cons_erase hm).symm);rw[<-yY];exact(ue (l₁:=S.used.erase k.toNat++S.back) (l₂:=[k.toNat]))
 ·exact h
theorem ylF (h:S.Ok) (k i:Nat) {v:Int} (h0:0<=v) (h1:v<18446744073709551616):({S with word:=put S.word k i v}:Fs).Ok:=by
 refine⟨h.perm,h.top,h.small,fun a b=> ?_,fun a b=> ?_⟩
 ·show 0<=put S.word k i v a b
  unfold put;split
  ·exact h0
  ·exact h.low a b
 ·show put S.word k i v a b<_
  unfold put;split
  ·exact h1
  ·exact h.high a b
theorem Ok.store (h:S.Ok) (k i:Int) {v:Int} (h0:0<=v) (h1:v<18446744073709551616):(S.store k i v).Ok:=by
 unfold Fs.store;split
 ·exact ylF h _ _ h0 h1
 ·exact h
theorem Ok.swap (h:S.Ok) (k i old:Int) {v:Int} (h0:0<=v) (h1:v<18446744073709551616):(S.swap k i old v).Ok:=by
 unfold Fs.swap;split
 ·exact ylF h _ _ h0 h1
 ·exact h
theorem Ok.yle (h:S.Ok):0<=S.free/\S.free<=128:=by
 have:=h.len;have:=h.top;have:=h.small;unfold free;omega
end
end Fs
end Pg
open Go.RowKit Go.Sort
set_option linter.unusedVariables false
theorem zb {w w':Q} {base e size n:Nat} {v:Value} {xs:List Value} (h:w.ownsRow base e size v n xs) (hk:∀k,v.ownBlock=N k->w'.heap[k]?=w.heap[k]?):w'.ownsRow base e size v n xs:=by
 refine⟨h.1,?_⟩;rcases h.2 with hn|⟨g,cap,cur,rfl,hb,TV,rest⟩
 ·exact .inl hn
 ·exact .inr ⟨g,cap,cur,rfl,hb,by rw[hk g rfl];exact TV,rest⟩
def ya3 (l:List Nat):List Value:=l.map fun k:Nat=>yS Y (k:Int)
structure zQ (w:Q) (b g0 g1:Nat) (vb:Value) (S:Pg.Fs):Prop where
 c0:w.cell? ⟨b,0,J⟩=N (kp (N ⟨g0,0,J⟩) S.n S.n)
 c1:w.cell? ⟨b,1,J⟩=N (kp (N ⟨g1,0,J⟩) S.n S.n)
 c2:w.cell? ⟨b,2,J⟩=N vb
 c3:w.cell? ⟨b,3,J⟩=N (C Y S.next)
 fb:∀o,w.frozen? ⟨b,o,J⟩=M
 f0:∀o,w.frozen? ⟨g0,o,J⟩=M
 f1:∀o,w.frozen? ⟨g1,o,J⟩=M
 cw:∀k i,k<S.n->i<8->w.cell? ⟨g0,k*8+i,J⟩=N (C K (S.word k i))
 ci:∀k,k<S.n->w.cell? ⟨g1,k,J⟩=N (X (S.inn k))
 own:w.ownsRow 0 3 1 vb S.back.length (ya3 S.back)
 l0:g0<w.heap.size
 l1:g1<w.heap.size
 n0:g0≠b
 n1:g1≠b
 n01:g0≠g1
 vb0:vb.ownBlock≠N g0
 vb1:vb.ownBlock≠N g1
 vbb:vb.ownBlock≠N b
def xc (b g0 g1:Nat) (vb:Value):Nat->Prop:=fun k=>k=b\/k=g0\/k=g1\/vb.ownBlock=N k
theorem qD (b:Nat):∀(vs:List Value) (o:Nat) (w:Q) (k:Nat),k≠b->(w.setCells b o vs).heap[k]?=w.heap[k]?
 | [],_,_,_,_=>rfl
 | v::r,o,w,k,h=>by rw[yO,qD b r (o+1) _ k h,O _ _ _ _ h]
theorem qI (b:Nat):∀(vs:List Value) (o:Nat) (w:Q),(w.setCells b o vs).heap.size=w.heap.size
 | [],_,_=>rfl
 | v::r,o,w=>by rw[yO,qI b r (o+1)];simp
theorem But.setCells {F:Nat->Prop} {w:Q} (b:Nat) (hb:w.heap.size<=b\/F b):∀(vs:List Value) (o:Nat) (w1:Q),But F w w1->But F w (w1.setCells b o vs)
 | [],_,_,h=>h
 | v::r,o,w1,h=>But.setCells b hb r (o+1) _ (h.setCell (a:=⟨b,o,J⟩) hb v)
namespace zQ
variable {w w':Q} {b g0 g1:Nat} {vb:Value} {S:Pg.Fs}
theorem lb (h:zQ w b g0 g1 vb S):b<w.heap.size:=z _ _ h.c0
theorem lt (h:zQ w b g0 g1 vb S) {k:Nat} (hk:xc b g0 g1 vb k):k<w.heap.size:=by
 rcases hk with rfl|rfl|rfl|hk
 ·exact z _ _ h.c0
 ·exact h.l0
 ·exact h.l1
 ·exact(h.own.lt k hk).2
theorem keep (h:zQ w b g0 g1 vb S) {F:Nat->Prop} (hb:But F w w') (hF:∀k,xc b g0 g1 vb k->¬F k):zQ w' b g0 g1 vb S:=by
 have hk:∀k,xc b g0 g1 vb k->w'.heap[k]?=w.heap[k]?:=fun k hk=>hb.block k (h.lt hk) (hF k hk);have kb:=hk b (.inl rfl);have k0:=hk g0 (.inr (.inl rfl));have k1:=hk g1 (.inr (.inr (.inl rfl)))
 exact⟨(I kb).trans h.c0,(I kb).trans h.c1,(I kb).trans h.c2,(I kb).trans h.c3,
  fun o=>(V kb).trans (h.fb o),fun o=>(V k0).trans (h.f0 o),fun o=>(V k1).trans (h.f1 o),
  fun k i a c=>(I k0).trans (h.cw k i a c),fun k a=>(I k1).trans (h.ci k a),
  zb h.own fun k e=>hk k (.inr (.inr (.inr e))),ki h.l0 hb.size,ki h.l1 hb.size,h.n0,h.n1,h.n01,h.vb0,h.vb1,h.vbb⟩
theorem drewN (h:zQ w b g0 g1 vb S) (n:Nat):zQ (w.drewN n) b g0 g1 vb S:=
 h.keep (F:=fun _=>False) (But.yhp (below_drewN (zR w) n)) (fun _ _=>id)
theorem ykA (h:zQ w b g0 g1 vb S) (m:Nat):zQ (w.setCell ⟨b,3,J⟩ (C Y (m:Int))) b g0 g1 vb {S with next:=m}:=by
 have hh:∀k,k≠b->(w.setCell ⟨b,3,J⟩ (C Y (m:Int))).heap[k]?=w.heap[k]?:=fun k hk=>O _ _ _ _ hk;have k0:=hh g0 h.n0;have k1:=hh g1 h.n1
 have hs:(w.setCell ⟨b,3,J⟩ (C Y (m:Int))).heap.size=w.heap.size:=by simp
 refine⟨?_,?_,?_,U _ _ _ h.c3,fun o=>by simpa using h.fb o,fun o=>by simpa using h.f0 o,fun o=>by simpa using h.f1 o,
  fun k i a c=>(I k0).trans (h.cw k i a c),fun k a=>(I k1).trans (h.ci k a),
  zb h.own fun k e=>hh k (fun e'=>h.vbb (e'▸e)),hs.symm▸h.l0,hs.symm▸h.l1,h.n0,h.n1,h.n01,h.vb0,h.vb1,h.vbb⟩
 ·exact(R _ _ _ _ (by simp)).trans h.c0
 ·exact(R _ _ _ _ (by simp)).trans h.c1
 ·exact(R _ _ _ _ (by simp)).trans h.c2
theorem ykz (h:zQ w b g0 g1 vb S) {vb':Value} {l:List Nat} (ho:w.ownsRow 0 3 1 vb' l.length (ya3 l)) (v0:vb'.ownBlock≠N g0) (v1:vb'.ownBlock≠N g1) (v2:vb'.ownBlock≠N b):
 zQ (w.setCell ⟨b,2,J⟩ vb') b g0 g1 vb' {S with back:=l}:=by
 have hh:∀k,k≠b->(w.setCell ⟨b,2,J⟩ vb').heap[k]?=w.heap[k]?:=fun k hk=>O _ _ _ _ hk;have k0:=hh g0 h.n0;have k1:=hh g1 h.n1
 have hs:(w.setCell ⟨b,2,J⟩ vb').heap.size=w.heap.size:=by simp
 refine⟨?_,?_,U _ _ _ h.c2,?_,fun o=>by simpa using h.fb o,fun o=>by simpa using h.f0 o,fun o=>by simpa using h.f1 o,
  fun k i a c=>(I k0).trans (h.cw k i a c),fun k a=>(I k1).trans (h.ci k a),
  zb ho fun k e=>hh k (fun e'=>v2 (e'▸e)),hs.symm▸h.l0,hs.symm▸h.l1,h.n0,h.n1,h.n01,v0,v1,v2⟩
 ·exact(R _ _ _ _ (by simp)).trans h.c0
 ·exact(R _ _ _ _ (by simp)).trans h.c1
 ·exact(R _ _ _ _ (by simp)).trans h.c3
theorem grow (h:zQ w b g0 g1 vb S) (hs:w.heap.size<=w'.heap.size) (hk:∀k,k=b\/k=g0\/k=g1->w'.heap[k]?=w.heap[k]?) {vb':Value} {l:List Nat} (ho:w'.ownsRow 0 3 1 vb' l.length (ya3 l)) (v0:vb'.ownBlock≠N g0) (v1:vb'.ownBlock≠N g1) (v2:vb'.ownBlock≠N b):
 zQ (w'.setCell ⟨b,2,J⟩ vb') b g0 g1 vb' {S with back:=l}:=by
 have kb:=hk b (.inl rfl);have k0:=hk g0 (.inr (.inl rfl));have k1:=hk g1 (.inr (.inr rfl));have hh:∀k,k≠b->(w'.setCell ⟨b,2,J⟩ vb').heap[k]?=w'.heap[k]?:=fun k hk=>O _ _ _ _ hk;have j0:=(hh g0 h.n0).trans k0;have j1:=(hh g1 h.n1).trans k1
 have ai:(w'.setCell ⟨b,2,J⟩ vb').heap.size=w'.heap.size:=by simp
 have l0:=h.l0;have l1:=h.l1
 refine⟨?_,?_,U _ _ _ ((I kb).trans h.c2),?_,fun o=> ?_,fun o=>(V j0).trans (h.f0 o),fun o=>(V j1).trans (h.f1 o),
  fun k i a c=>(I j0).trans (h.cw k i a c),fun k a=>(I j1).trans (h.ci k a),
  zb ho fun k e=>hh k (fun e'=>v2 (e'▸e)),by rw[ai];omega,by rw[ai];omega,h.n0,h.n1,h.n01,v0,v1,v2⟩
 ·exact(R _ _ _ _ (by simp)).trans ((I kb).trans h.c0)
 ·exact(R _ _ _ _ (by simp)).trans ((I kb).trans h.c1)
 ·exact(R _ _ _ _ (by simp)).trans ((I kb).trans h.c3)
 ·rw[yC]
  exact(V kb).trans (h.fb o)
theorem mark (h:zQ w b g0 g1 vb S) {k:Nat} (hk:k<S.n) (v:Bool) (l:List Nat) (hl:∀j,decide (j ∈ l)=if j=k then v else S.inn j):
 zQ (w.setCell ⟨g1,k,J⟩ (X v)) b g0 g1 vb {S with used:=l}:=by
 have hh:∀j,j≠g1->(w.setCell ⟨g1,k,J⟩ (X v)).heap[j]?=w.heap[j]?:=fun j hj=>O _ _ _ _ hj;have kb:=hh b (Ne.symm h.n1);have k0:=hh g0 h.n01
 have hs:(w.setCell ⟨g1,k,J⟩ (X v)).heap.size=w.heap.size:=by simp
 refine⟨(I kb).trans h.c0,(I kb).trans h.c1,(I kb).trans h.c2,(I kb).trans h.c3,
  fun o=>by simpa using h.fb o,fun o=>by simpa using h.f0 o,fun o=>by simpa using h.f1 o,
  fun j i a c=>(I k0).trans (h.cw j i a c),fun j a=> ?_,
  zb h.own fun j e=>hh j (fun e'=>h.vb1 (e'▸e)),hs.symm▸h.l0,hs.symm▸h.l1,h.n0,h.n1,h.n01,h.vb0,h.vb1,h.vbb⟩
 show _=N (yR (decide (j ∈ l)))
 rw[hl j]
 by_cases e:j=k
 ·rw[if_pos e,e]
  exact U _ _ _ (h.ci k hk)
 ·rw[if_neg e]
  exact(R _ _ _ _ (fun he=>e (by injection he with _ he;exact he.symm))).trans (h.ci j a)
theorem clear (h:zQ w b g0 g1 vb S) {k:Nat} (hk:k<S.n) (zs:List Value) (hz:zs.length=8) (hv:∀(j:Nat) (hj:j<zs.length),zs[j]=C K 0):
 zQ (w.setCells g0 (k*8) zs) b g0 g1 vb {S with word:=Pg.Fs.clear S.word k}:=by
 have hh:∀j,j≠g0->(w.setCells g0 (k*8) zs).heap[j]?=w.heap[j]?:=fun j hj=>qD _ _ _ _ _ hj;have kb:=hh b (Ne.symm h.n0);have k1:=hh g1 (Ne.symm h.n01);have hs:=qI g0 zs (k*8) w
 refine⟨(I kb).trans h.c0,(I kb).trans h.c1,(I kb).trans h.c2,(I kb).trans h.c3,
  fun o=>(kO _ _ _ _ _).trans (h.fb o),fun o=>(kO _ _ _ _ _).trans (h.f0 o),fun o=>(kO _ _ _ _ _).trans (h.f1 o),
  fun j i a c=> ?_,fun j a=>(I k1).trans (h.ci j a),
  zb h.own fun j e=>hh j (fun e'=>h.vb0 (e'▸e)),hs.symm▸h.l0,hs.symm▸h.l1,h.n0,h.n1,h.n01,h.vb0,h.vb1,h.vbb⟩
 show _=N (yS K (Pg.Fs.clear S.word k j i))
 unfold Pg.Fs.clear
 by_cases e:j=k
 ·rw[if_pos e,e]
  have:=yP g0 zs (k*8) w (fun i hi=>by rw[h.cw k i hk (by omega)];rfl) i (by omega);rw[this,hv i (by omega)]
 ·rw[if_neg e]
  exact(ud _ _ _ _ _ (fun _ _=>by show j*8+i<k*8\/k*8+zs.length<=j*8+i;omega)).trans (h.cw j i a c)
theorem put (h:zQ w b g0 g1 vb S) {k i:Nat} (hk:k<S.n) (hi:i<8) (v:Int):
 zQ (w.setCell ⟨g0,k*8+i,J⟩ (C K v)) b g0 g1 vb {S with word:=Pg.Fs.put S.word k i v}:=by
 have hh:∀j,j≠g0->(w.setCell ⟨g0,k*8+i,J⟩ (C K v)).heap[j]?=w.heap[j]?:=fun j hj=>O _ _ _ _ hj;have kb:=hh b (Ne.symm h.n0);have k1:=hh g1 (Ne.symm h.n01)
 have hs:(w.setCell ⟨g0,k*8+i,J⟩ (C K v)).heap.size=w.heap.size:=by simp
 refine⟨(I kb).trans h.c0,(I kb).trans h.c1,(I kb).trans h.c2,(I kb).trans h.c3,
  fun o=>by simpa using h.fb o,fun o=>by simpa using h.f0 o,fun o=>by simpa using h.f1 o,
  fun j m a c=> ?_,fun j a=>(I k1).trans (h.ci j a),
  zb h.own fun j e=>hh j (fun e'=>h.vb0 (e'▸e)),hs.symm▸h.l0,hs.symm▸h.l1,h.n0,h.n1,h.n01,h.vb0,h.vb1,h.vbb⟩
 show _=N (yS K (Pg.Fs.put S.word k i v j m))
 unfold Pg.Fs.put
 by_cases e:j=k/\m=i
 ·rw[if_pos e,e.1,e.2]
  exact U _ _ _ (h.cw k i hk hi)
 ·rw[if_neg e]
  exact(R _ _ _ _ (fun he=>e (by injection he with _ he;omega))).trans (h.cw j m a c)
end zQ
def yfT:Array Value:=#[C K 0,C K 0,C K 0,C K 0,C K 0,C K 0,C K 0,C K 0]
theorem yfU (j:Nat):yfT[j%yfT.size]! =C K 0:=by
 have:j%8<8:=yM _ (by decide)
 show yfT[j%8]! =_
 generalize j%8=m at*
 match m,this with
 | 0,_|1,_|2,_|3,_|4,_|5,_|6,_|7,_=>rfl
theorem zQ.made {w:Q} {b g0 g1 n:Nat} {t0 t1 t2:TypeId} (hb:w.heap[b]?=N (.cells #[kp (N ⟨g0,0,J⟩) n n,kp (N ⟨g1,0,J⟩) n n,kp J 0 0,C Y 0] t2 (0,0)))
 (h0:w.heap[g0]?=N (.cells (madeCells yfT (n*8)) t0 (0,0))) (h1:w.heap[g1]?=N (.cells (madeCells #[X M] n) t1 (0,0))) (n0:g0≠b) (n1:g1≠b) (n01:g0≠g1):zQ w b g0 g1 (kp J 0 0) (Pg.Fs.new n):=by
 refine⟨?_,?_,?_,?_,fun o=>by simp[yI,hb],fun o=>by simp[yI,h0],fun o=>by simp[yI,h1],fun k i hk hi=> ?_,fun k hk=> ?_,yT _ _ _ _,(uv.1 h0).1,(uv.1 h1).1,n0,n1,n01,by simp[ks],by simp[ks],by simp[ks]⟩
 ·rw[cell_of_row w b 0 _ _ _ hb];rfl
 ·rw[cell_of_row w b 1 _ _ _ hb];rfl
 ·rw[cell_of_row w b 2 _ _ _ hb];rfl
 ·rw[cell_of_row w b 3 _ _ _ hb];rfl
 ·have hk:k<n:=hk
  have Hf:k*8+i<n*8:=by omega
  rw[cell_of_row w g0 _ _ _ _ h0,madeCells];simp only[uc,un,Hf,if_true,Option.map_some,yfU];rfl
 ·have hk:k<n:=hk
  rw[cell_of_row w g1 _ _ _ _ h1,madeCells];simp only[uc,un,hk,if_true,Option.map_some];have:k%(#[yR M]:Array Value).size=0:=Nat.mod_one k;rw[this];rfl
structure zj (w:Q) (b g0 g1:Nat) (vb:Value) (S:Pg.Fs):Prop where
 raw:zQ w b g0 g1 vb S
 ok:S.Ok
theorem zj.keep {w w':Q} {b g0 g1:Nat} {vb:Value} {S:Pg.Fs} (h:zj w b g0 g1 vb S) {F:Nat->Prop} (hb:But F w w') (hF:∀k,xc b g0 g1 vb k->¬F k):zj w' b g0 g1 vb S:=⟨h.raw.keep hb hF,h.ok⟩
end Go.Proofs.YtdphiompijbelaaGreat
namespace Go.Proofs.YtdphiompijbelaaGreat
open Go.RowKit Go.Sort
structure xy (w:Q) (b g:Nat) (vb:Value) (S:Pg.Fs):Prop where
 c0:w.cell? ⟨b,0,J⟩=N (kp (N ⟨g,0,J⟩) S.n S.n)
 c1:w.cell? ⟨b,1,J⟩=N vb
 c2:w.cell? ⟨b,2,J⟩=N (C Y S.next)
 fb:∀o,w.frozen? ⟨b,o,J⟩=M
 f0:∀o,w.frozen? ⟨g,o,J⟩=M
 ci:∀k,k<S.n->w.cell? ⟨g,k*9,J⟩=N (X (S.inn k))
 cw:∀k i,k<S.n->i<8->w.cell? ⟨g,k*9+1+i,J⟩=N (C K (S.word k i))
 own:w.ownsRow 0 3 1 vb S.back.length (ya3 S.back)
 l0:g<w.heap.size
 n0:g≠b
 vb0:vb.ownBlock≠N g
 vbb:vb.ownBlock≠N b
def frF (b g:Nat) (vb:Value):Nat->Prop:=fun k=>k=b\/k=g\/vb.ownBlock=N k
namespace xy
variable {w w':Q} {b g:Nat} {vb:Value} {S:Pg.Fs}
theorem lb (h:xy w b g vb S):b<w.heap.size:=z _ _ h.c0
theorem lt (h:xy w b g vb S) {k:Nat} (hk:frF b g vb k):k<w.heap.size:=by
 rcases hk with rfl|rfl|hk
 ·exact z _ _ h.c0
 ·exact h.l0
 ·exact(h.own.lt k hk).2
theorem keep (h:xy w b g vb S) {F:Nat->Prop} (hb:But F w w') (hF:∀k,frF b g vb k->¬F k):xy w' b g vb S:=by
 have hk:∀k,frF b g vb k->w'.heap[k]?=w.heap[k]?:=fun k hk=>hb.block k (h.lt hk) (hF k hk);have kb:=hk b (.inl rfl);have k0:=hk g (.inr (.inl rfl))
 exact⟨(I kb).trans h.c0,(I kb).trans h.c1,(I kb).trans h.c2,
  fun o=>(V kb).trans (h.fb o),fun o=>(V k0).trans (h.f0 o),
  fun k a=>(I k0).trans (h.ci k a),fun k i a c=>(I k0).trans (h.cw k i a c),
  zb h.own fun k e=>hk k (.inr (.inr e)),ki h.l0 hb.size,h.n0,h.vb0,h.vbb⟩
theorem drewN (h:xy w b g vb S) (n:Nat):xy (w.drewN n) b g vb S:=
 h.keep (F:=fun _=>False) (But.yhp (below_drewN (zR w) n)) (fun _ _=>id)
theorem ykA (h:xy w b g vb S) (m:Nat):xy (w.setCell ⟨b,2,J⟩ (C Y (m:Int))) b g vb {S with next:=m}:=by
 have hh:∀k,k≠b->(w.setCell ⟨b,2,J⟩ (C Y (m:Int))).heap[k]?=w.heap[k]?:=fun k hk=>O _ _ _ _ hk;have k0:=hh g h.n0
 have hs:(w.setCell ⟨b,2,J⟩ (C Y (m:Int))).heap.size=w.heap.size:=by simp
 refine⟨?_,?_,U _ _ _ h.c2,fun o=>by simpa using h.fb o,fun o=>by simpa using h.f0 o,
  fun k a=>(I k0).trans (h.ci k a),fun k i a c=>(I k0).trans (h.cw k i a c),
  zb h.own fun k e=>hh k (fun e'=>h.vbb (e'▸e)),hs.symm▸h.l0,h.n0,h.vb0,h.vbb⟩
 ·exact(R _ _ _ _ (by simp)).trans h.c0
 ·exact(R _ _ _ _ (by simp)).trans h.c1
theorem grow (h:xy w b g vb S) (hs:w.heap.size<=w'.heap.size) (hk:∀k,k=b\/k=g->w'.heap[k]?=w.heap[k]?) {vb':Value} {l:List Nat} (ho:w'.ownsRow 0 3 1 vb' l.length (ya3 l)) (v0:vb'.ownBlock≠N g) (v2:vb'.ownBlock≠N b):
 xy (w'.setCell ⟨b,1,J⟩ vb') b g vb' {S with back:=l}:=by
 have kb:=hk b (.inl rfl);have k0:=hk g (.inr rfl);have hh:∀k,k≠b->(w'.setCell ⟨b,1,J⟩ vb').heap[k]?=w'.heap[k]?:=fun k hk=>O _ _ _ _ hk;have j0:=(hh g h.n0).trans k0
 have ai:(w'.setCell ⟨b,1,J⟩ vb').heap.size=w'.heap.size:=by simp
 have l0:=h.l0
 refine⟨?_,U _ _ _ ((I kb).trans h.c1),?_,fun o=> ?_,fun o=>(V j0).trans (h.f0 o),
  fun k a=>(I j0).trans (h.ci k a),fun k i a c=>(I j0).trans (h.cw k i a c),
  zb ho fun k e=>hh k (fun e'=>v2 (e'▸e)),by rw[ai];omega,h.n0,v0,v2⟩
 ·exact(R _ _ _ _ (by simp)).trans ((I kb).trans h.c0)
 ·exact(R _ _ _ _ (by simp)).trans ((I kb).trans h.c2)
 ·rw[yC]
  exact(V kb).trans (h.fb o)
theorem ykz (h:xy w b g vb S) {vb':Value} {l:List Nat} (ho:w.ownsRow 0 3 1 vb' l.length (ya3 l)) (v0:vb'.ownBlock≠N g) (v2:vb'.ownBlock≠N b):
 xy (w.setCell ⟨b,1,J⟩ vb') b g vb' {S with back:=l}:=h.grow (D _) (fun _ _=>rfl) ho v0 v2
theorem mark (h:xy w b g vb S) {k:Nat} (hk:k<S.n) (v:Bool) (l:List Nat) (hl:∀j,decide (j ∈ l)=if j=k then v else S.inn j):
 xy (w.setCell ⟨g,k*9,J⟩ (X v)) b g vb {S with used:=l}:=by
 have hh:∀j,j≠g->(w.setCell ⟨g,k*9,J⟩ (X v)).heap[j]?=w.heap[j]?:=fun j hj=>O _ _ _ _ hj;have kb:=hh b (Ne.symm h.n0)
 have hs:(w.setCell ⟨g,k*9,J⟩ (X v)).heap.size=w.heap.size:=by simp
 refine⟨(I kb).trans h.c0,(I kb).trans h.c1,(I kb).trans h.c2,
  fun o=>by simpa using h.fb o,fun o=>by simpa using h.f0 o,fun j a=> ?_,fun j i a c=> ?_,
  zb h.own fun j e=>hh j (fun e'=>h.vb0 (e'▸e)),hs.symm▸h.l0,h.n0,h.vb0,h.vbb⟩
 ·show _=N (yR (decide (j ∈ l)))
  rw[hl j]
  by_cases e:j=k
  ·rw[if_pos e,e]
   exact U _ _ _ (h.ci k hk)
  ·rw[if_neg e]
   exact(R _ _ _ _ (fun he=>e (by injection he with _ he;omega))).trans (h.ci j a)
 ·exact(R _ _ _ _ (fun he=>by injection he with _ he;omega)).trans (h.cw j i a c)
theorem fill (h:xy w b g vb S) {k:Nat} (hk:k<S.n) (zs:List Value) (hz:zs.length=9) (h0:zs[0]?=N (X E)) (hv:∀j:Nat,j<8->zs[j+1]?=N (C K 0)):
 xy (w.setCells g (k*9) zs) b g vb {S with used:=k::S.used,word:=Pg.Fs.clear S.word k}:=by
 have hh:∀j,j≠g->(w.setCells g (k*9) zs).heap[j]?=w.heap[j]?:=fun j hj=>qD _ _ _ _ _ hj;have kb:=hh b (Ne.symm h.n0);have hs:=qI g zs (k*9) w
 have sU:∀i,i<zs.length->(w.setCells g (k*9) zs).cell? ⟨g,k*9+i,J⟩=zs[i]?:=by
  intro i hi
  have:=yP g zs (k*9) w (fun i hi=>by
   match i with
   | 0=>rw[show k*9+0=k*9 from rfl,h.ci k hk];rfl
   | i+1=>rw[show k*9+(i+1)=k*9+1+i by omega,h.cw k i hk (by omega)];rfl) i hi
  rw[this,List.getElem?_eq_getElem hi]
 refine⟨(I kb).trans h.c0,(I kb).trans h.c1,(I kb).trans h.c2,
  fun o=>(kO _ _ _ _ _).trans (h.fb o),fun o=>(kO _ _ _ _ _).trans (h.f0 o),
  fun j a=> ?_,fun j i a c=> ?_,
  zb h.own fun j e=>hh j (fun e'=>h.vb0 (e'▸e)),hs.symm▸h.l0,h.n0,h.vb0,h.vbb⟩
 ·show _=N (yR (decide (j ∈ k::S.used)))
  by_cases e:j=k
  ·subst e
   have:=sU 0 (by omega);simp only[Nat.add_zero]at this;rw[this,h0];simp
  ·have he:decide (j ∈ k::S.used)=S.inn j:=by simp[Pg.Fs.inn,e]
   rw[he];exact(ud _ _ _ _ _ (fun _ _=>by show j*9<k*9\/k*9+zs.length<=j*9;omega)).trans (h.ci j a)
 ·show _=N (yS K (Pg.Fs.clear S.word k j i))
  unfold Pg.Fs.clear
  by_cases e:j=k
  ·rw[if_pos e,e,show k*9+1+i=k*9+(i+1) by omega,sU (i+1) (by omega),hv i c]
  ·rw[if_neg e]
   exact(ud _ _ _ _ _ (fun _ _=>by show j*9+1+i<k*9\/k*9+zs.length<=j*9+1+i;omega)).trans (h.cw j i a c)
theorem put (h:xy w b g vb S) {k i:Nat} (hk:k<S.n) (hi:i<8) (v:Int):
 xy (w.setCell ⟨g,k*9+1+i,J⟩ (C K v)) b g vb {S with word:=Pg.Fs.put S.word k i v}:=by
 have hh:∀j,j≠g->(w.setCell ⟨g,k*9+1+i,J⟩ (C K v)).heap[j]?=w.heap[j]?:=fun j hj=>O _ _ _ _ hj;have kb:=hh b (Ne.symm h.n0)
 have hs:(w.setCell ⟨g,k*9+1+i,J⟩ (C K v)).heap.size=w.heap.size:=by simp
 refine⟨(I kb).trans h.c0,(I kb).trans h.c1,(I kb).trans h.c2,
  fun o=>by simpa using h.fb o,fun o=>by simpa using h.f0 o,
  fun j a=>(R _ _ _ _ (fun he=>by injection he with _ he;omega)).trans (h.ci j a),fun j m a c=> ?_,
  zb h.own fun j e=>hh j (fun e'=>h.vb0 (e'▸e)),hs.symm▸h.l0,h.n0,h.vb0,h.vbb⟩
 show _=N (yS K (Pg.Fs.put S.word k i v j m))
 unfold Pg.Fs.put
 by_cases e:j=k/\m=i
 ·rw[if_pos e,e.1,e.2]
  exact U _ _ _ (h.cw k i hk hi)
 ·rw[if_neg e]
  exact(R _ _ _ _ (fun he=>e (by injection he with _ he;omega))).trans (h.cw j m a c)
end xy
def vH:Array Value:=#[X M,C K 0,C K 0,C K 0,C K 0,C K 0,C K 0,C K 0,C K 0]
theorem yeG (k:Nat):vH[k*9%vH.size]! =X M:=by
 have:k*9%9=0:=by omega
 show vH[k*9%9]! =_
 rw[this];rfl
theorem yeH (k i:Nat) (hi:i<8):vH[(k*9+1+i)%vH.size]! =C K 0:=by
 have:(k*9+1+i)%9=i+1:=by omega
 show vH[(k*9+1+i)%9]! =_
 rw[this]
 match i,hi with
 | 0,_|1,_|2,_|3,_|4,_|5,_|6,_|7,_=>rfl
theorem xy.made {w:Q} {b g n:Nat} {t0 t2:TypeId} (hb:w.heap[b]?=N (.cells #[kp (N ⟨g,0,J⟩) n n,kp J 0 0,C Y 0] t2 (0,0)))
 (h0:w.heap[g]?=N (.cells (madeCells vH (n*9)) t0 (0,0))) (n0:g≠b):xy w b g (kp J 0 0) (Pg.Fs.new n):=by
 refine⟨?_,?_,?_,fun o=>by simp[yI,hb],fun o=>by simp[yI,h0],fun k hk=> ?_,fun k i hk hi=> ?_,yT _ _ _ _,(uv.1 h0).1,n0,by simp[ks],by simp[ks]⟩
 ·rw[cell_of_row w b 0 _ _ _ hb];rfl
 ·rw[cell_of_row w b 1 _ _ _ hb];rfl
 ·rw[cell_of_row w b 2 _ _ _ hb];rfl
 ·have hk:k<n:=hk
  have Hf:k*9<n*9:=by omega
  rw[cell_of_row w g _ _ _ _ h0,madeCells];simp only[uc,un,Hf,if_true,Option.map_some,yeG];rfl
 ·have hk:k<n:=hk
  have Hf:k*9+1+i<n*9:=by omega
  rw[cell_of_row w g _ _ _ _ h0,madeCells];simp only[uc,un,Hf,if_true,Option.map_some,yeH k i hi];rfl
def zh (w:Q) (b:Nat) (S:Pg.Fs) (F:Nat->Prop):Prop:=∃g vb,xy w b g vb S/\S.Ok/\F=frF b g vb
theorem zh.lt {w:Q} {b:Nat} {S:Pg.Fs} {F:Nat->Prop} (h:zh w b S F) {k:Nat} (hk:F k):k<w.heap.size:=by
 obtain⟨g,vb,h,_,rfl⟩:=h;exact h.lt hk
theorem zh.ok {w:Q} {b:Nat} {S:Pg.Fs} {F:Nat->Prop} (h:zh w b S F):S.Ok:=by
 obtain⟨g,vb,_,h,_⟩:=h;exact h
theorem zh.keep {w w':Q} {b:Nat} {S:Pg.Fs} {F G:Nat->Prop} (h:zh w b S F) (hb:But G w w') (hF:∀k,F k->¬G k):zh w' b S F:=by
 obtain⟨g,vb,h,ok,rfl⟩:=h;exact⟨g,vb,h.keep hb hF,ok,rfl⟩
theorem zh.next {w w':Q} {b g:Nat} {vb vb':Value} {S':Pg.Fs} (h1:xy w' b g vb' S') (ok:S'.Ok) (hb:But (frF b g vb) w w') (hv:vb'.ownBlock=vb.ownBlock\/∃k,vb'.ownBlock=N k/\w.heap.size<=k):
 ∃F',zh w' b S' F'/\But (frF b g vb) w w'/\∀k,F' k->frF b g vb k\/w.heap.size<=k:=by
 refine⟨_,⟨g,vb',h1,ok,rfl⟩,hb,fun k hk=> ?_⟩;rcases hk with rfl|rfl|hk
 ·exact .inl (.inl rfl)
 ·exact .inl (.inr (.inl rfl))
 ·rcases hv with e|⟨j,e,hj⟩
  ·exact .inl (.inr (.inr (e▸hk)))
  ·rw[hk]at e
   cases e;exact .inr hj
theorem jM {b g:Nat} {vb:Value} {S:Pg.Fs} (k:Int) (w:Q) (h:xy w b g vb S) (ok:S.Ok):
 Calls Z 203 #[A (N ⟨b,0,J⟩),C Y k] w fun e w'=>e=T (X (S.has k))/\w'=w:=by
 have rT:=h.c0;have hn:=ok.small
 by_cases h0:0<=k
 ·obtain⟨m,rfl⟩:=kh h0
  by_cases h1:m<S.n
  ·have hm:=h.ci m h1
   have HH:Hid (S.has (m:Int)=S.inn m):=by simp[Hid,Pg.Fs.has]
   have i0:(0:Int)<=(m:Int):=by omega
   have i1:(m:Int)<(S.n:Int):=by omega
   go_enter Tryz.func203,Tryz.ntmps203
   go_wp2_with fail
   go_ret
   exact⟨xB HH.out.symm,rfl⟩
  ·have HH:Hid (S.has (m:Int)=M):=by
    cases hh:S.has (m:Int)
    ·rfl
    ·have:=ok.yhK hh
     omega
   have i1:¬(m:Int)<(S.n:Int):=by omega
   go_enter Tryz.func203,Tryz.ntmps203
   go_wp2_with fail
   go_ret
   exact⟨xB HH.out.symm,rfl⟩
 ·have HH:Hid (S.has k=M):=by simp[Hid,Pg.Fs.has,h0]
  have d0:decide (0<=k)=M:=by simpa using h0
  go_enter Tryz.func203,Tryz.ntmps203
  go_wp2_with fail
  go_ret
  exact⟨xB HH.out.symm,rfl⟩
theorem yfx {b g:Nat} {vb:Value} {S:Pg.Fs} (w:Q) (h:xy w b g vb S) (ok:S.Ok):
 Calls Z 67 #[A (N ⟨b,0,J⟩)] w fun e w'=>e=T (C Y S.free)/\Below w.heap.size w w':=by
 have rT:=h.c0;have rO:=h.c1;have tY:=h.c2;have hl:=ok.len;have ht:=ok.top;have hs:=ok.small;have HF:Hid (S.free=S.back.length+S.n-S.next):=rfl
 have hb:S.back.length<=128:=by omega
 have hx:S.next<=128:=by omega
 rcases h.own.2 with ⟨rfl,Hg⟩|⟨g,cap,cur,rfl,hg⟩
 ·rw[Hg]at HF
  clear hl ht Hg hb
  go_enter Tryz.func67,Tryz.ntmps67
  go_wp2_with fail
  go_quiet (fail)
  go_wp2_with fail
  go_ret
  refine⟨?_,below_drewN (zR _) _⟩;rw[HF.out]
  first|rfl|simp
 ·clear hl ht hg
  generalize S.back.length=m at*
  go_enter Tryz.func67,Tryz.ntmps67
  go_wp2_with fail
  go_quiet (fail)
  go_wp2_with fail
  go_ret
  exact⟨zE (by rw[HF.out]),below_drewN (zR _) _⟩
def Pg.Fs.picked (S:Pg.Fs):Pg.Fs:=match S.back.getLast? with
 | some k=>{S with back:=S.back.dropLast}
 | none=>if S.next<S.n then{S with next:=S.next+1}else S
theorem yfD {b g:Nat} {vb:Value} {S:Pg.Fs} (w:Q) (h:xy w b g vb S) (ok:S.Ok):
 Calls Z 85 #[A (N ⟨b,0,J⟩)] w fun e w'=>e=T (C Y S.takeN)/\∃vb',xy w' b g vb' S.picked/\But (frF b g vb) w w'/\vb'.ownBlock=vb.ownBlock:=by
 have rT:=h.c0;have rO:=h.c1;have tY:=h.c2;have TT:=h.fb;have hs:=ok.small;have ht:=ok.top
 by_cases hb:S.back=[]
 ·have ho:=h.own
  rw[hb]at ho
  by_cases hn:S.next<S.n
  ·have e1:S.takeN=(S.next:Int):=by simp[Pg.Fs.takeN,Pg.Fs.pick,hb,hn]
   have e2:S.picked={S with next:=S.next+1}:=by simp[Pg.Fs.picked,hb,hn]
   have fin:∀nq,Hid (∃vb',xy ((w.drewN nq).setCell ⟨b,2,J⟩ (C Y (S.next+1))) b g vb' S.picked/\But (frF b g vb) w ((w.drewN nq).setCell ⟨b,2,J⟩ (C Y (S.next+1)))/\vb'.ownBlock=vb.ownBlock):=by
    intro nq;rw[e2];exact⟨vb,(h.drewN nq).ykA (S.next+1),(But.yhp (below_drewN (zR w) nq)).setCell (.inr (.inl rfl)) _,rfl⟩
   rw[e1]
   have i1:((S.next:Int)==(S.n:Int))=M:=by simp;omega
   clear e1 e2;rcases ho.2 with ⟨rfl,Hg⟩|⟨g',cap,cur,rfl,hg⟩
   all_goals
    clear ho h
    go_enter Tryz.func85,Tryz.ntmps85
    go_wp2_with fail
    go_quiet (fail)
    go_wp2_with fail
    go_ret
    exact⟨rfl,(fin _).out⟩
  ·have hnn:S.next=S.n:=by omega
   have e1:S.takeN= -1:=by simp[Pg.Fs.takeN,Pg.Fs.pick,hb,hn]
   have e2:S.picked=S:=by simp[Pg.Fs.picked,hb,hn]
   have fin:∀nq,Hid (∃vb',xy (w.drewN nq) b g vb' S.picked/\But (frF b g vb) w (w.drewN nq)/\vb'.ownBlock=vb.ownBlock):=by
    intro nq;rw[e2];exact⟨vb,h.drewN nq,But.yhp (below_drewN (zR w) nq),rfl⟩
   rw[e1]
   have i1:((S.next:Int)==(S.n:Int))=E:=by simp;omega
   clear e1 e2;rcases ho.2 with ⟨rfl,Hg⟩|⟨g',cap,cur,rfl,hg⟩
   all_goals
    clear ho h
    go_enter Tryz.func85,Tryz.ntmps85
    go_wp2_with fail
    go_quiet (fail)
    go_wp2_with fail
    go_ret
    exact⟨rfl,(fin _).out⟩
 ·obtain⟨l,k,hl⟩:∃l k,S.back=l++[k]:=⟨_,_,(List.dropLast_concat_getLast hb).symm⟩
  have hk:k<S.n:=by
   have:=ok.ykC (k:=k) (by rw[hl];simp);omega
  have ho:=h.own
  have Hg:S.back.length=l.length+1:=by rw[hl];simp
  rw[Hg]at ho;obtain⟨g',cap,rfl,_,hgl⟩:=ho.form (by omega)
  have nE:l.length+1<=cap:=by
   rcases ho.2 with ⟨h',_⟩|⟨g',cap',cur,h',_,_,fe,_⟩
   ·cases h'
   ·cases h';exact fe
  have Ny:S.back.length<=128:=by have:=ok.len;omega
  have FE:l.length<128:=by omega
  have sH:w.cell? ⟨g',l.length,J⟩=N (C Y k):=by
   rw[ho.cellAt l.length (by omega),ya3,hl];simp
  have iG:w.ownsRow 0 3 1 (kp (N ⟨g',0,J⟩) l.length cap) l.length (ya3 l):=by
   have e:ya3 S.back=ya3 l++[C Y (k:Int)]:=by simp[ya3,hl]
   rw[e]at ho;exact ownsRow_pop (by simp[ya3]) ho
  have e1:S.takeN=(k:Int):=by simp[Pg.Fs.takeN,Pg.Fs.pick,hl]
  have e2:S.picked={S with back:=l}:=by simp[Pg.Fs.picked,hl]
  have fin:Hid (∃vb',xy (w.setCell ⟨b,1,J⟩ (kp (N ⟨g',0,J⟩) l.length cap)) b g vb' S.picked/\But (frF b g (kp (N ⟨g',0,J⟩) (l.length+1) cap)) w (w.setCell ⟨b,1,J⟩ (kp (N ⟨g',0,J⟩) l.length cap))/\vb'.ownBlock=(yK (N ⟨g',0,J⟩) (l.length+1) cap).ownBlock):=by
   rw[e2];exact⟨_,h.ykz iG h.vb0 h.vbb,(But.refl _ w).setCell (.inr (.inl rfl)) _,rfl⟩
  rw[e1]
  have j1:(l.length:Int)<=(cap:Int):=by omega
  have j0:(0:Int)<=(l.length:Int):=by omega
  clear ho h iG Hg hl hb e1 e2;generalize l.length=m at*
  go_enter Tryz.func85,Tryz.ntmps85
  go_wp2_with fail
  go_ret
  exact⟨rfl,fin.out⟩
theorem ybz {b g:Nat} {vb:Value} {S:Pg.Fs} (k i:Int) (w:Q) (h:xy w b g vb S) (ok:S.Ok):
 Calls Z 201 #[A (N ⟨b,0,J⟩),C Y k,C Y i] w fun e w'=>e=T (.pointer (bif S.at' k i then N ⟨g,k.toNat*9+1+i.toNat,J⟩else J))/\w'=w:=by
 have HT:=jM k w h ok;have rT:=h.c0;have hs:=ok.small;cases e1:S.has k
 ·have HA:Hid (S.at' k i=M):=by simp[Hid,Pg.Fs.at',e1]
  rw[HA.out];rw[e1]at HT;clear e1 h
  go_enter Tryz.func201,Tryz.ntmps201
  go_wp2_with (go_at_call 203;refine HT.mono ?_;rintro e w' ⟨rfl,hw⟩;subst w')
  go_ret
  exact⟨rfl,rfl⟩
 ·rw[e1]at HT
  by_cases h0:0<=i
  ·by_cases h8:i<8
   ·have HA:Hid (S.at' k i=E):=by simp[Hid,Pg.Fs.at',e1,h0,h8]
    rw[HA.out];obtain⟨k0,k1,_⟩:=ok.yhK e1;obtain⟨a,rfl⟩:=kh k0;obtain⟨c,rfl⟩:=kh h0
    have i0:(0:Int)<=(a:Int):=by omega
    have i1:(a:Int)<(S.n:Int):=by omega
    have hl:¬(c:Int)<0:=by omega
    have Wx:¬(8:Int)<=(c:Int):=by omega
    clear e1 h
    go_enter Tryz.func201,Tryz.ntmps201
    go_wp2_with (go_at_call 203;refine HT.mono ?_;rintro e w' ⟨rfl,hw⟩;subst w')
    go_ret
    exact⟨rfl,rfl⟩
   ·have HA:Hid (S.at' k i=M):=by simp[Hid,Pg.Fs.at',h8]
    rw[HA.out]
    have hl:¬i<0:=by omega
    have Wx:(8:Int)<=i:=by omega
    clear e1 h
    go_enter Tryz.func201,Tryz.ntmps201
    go_wp2_with (go_at_call 203;refine HT.mono ?_;rintro e w' ⟨rfl,hw⟩;subst w')
    go_ret
    exact⟨rfl,rfl⟩
  ·have HA:Hid (S.at' k i=M):=by simp[Hid,Pg.Fs.at',h0]
   rw[HA.out]
   have hl:i<0:=by omega
   clear e1 h
   go_enter Tryz.func201,Tryz.ntmps201
   go_wp2_with (go_at_call 203;refine HT.mono ?_;rintro e w' ⟨rfl,hw⟩;subst w')
   go_ret
   exact⟨rfl,rfl⟩
theorem vG {b:Nat} {S:Pg.Fs} {F:Nat->Prop} (k:Int) (w:Q) (h:zh w b S F):
 Calls Z 203 #[A (N ⟨b,0,J⟩),C Y k] w fun e w'=>e=T (X (S.has k))/\Below w.heap.size w w':=by
 obtain⟨g,vb,h,ok,rfl⟩:=h;exact xz (jM k w h ok)
theorem yaW {b:Nat} {S:Pg.Fs} {F:Nat->Prop} (w:Q) (h:zh w b S F):
 Calls Z 67 #[A (N ⟨b,0,J⟩)] w fun e w'=>e=T (C Y S.free)/\Below w.heap.size w w':=by
 obtain⟨g,vb,h,ok,rfl⟩:=h;exact yfx w h ok
def yfQ:List Value:=[X E,C K 0,C K 0,C K 0,C K 0,C K 0,C K 0,C K 0,C K 0]
theorem yfR:∀j:Nat,j<8->yfQ[j+1]?=N (C K 0)
 | 0,_|1,_|2,_|3,_|4,_|5,_|6,_|7,_=>rfl
 | j+8,hj=>absurd hj (by omega)
theorem yaY {b:Nat} {S:Pg.Fs} {F:Nat->Prop} (w:Q) (h:zh w b S F):
 Calls Z 46 #[A (N ⟨b,0,J⟩)] w fun e w'=>e=T (C Y S.takeN)/\∃F',zh w' b S.take F'/\But F w w'/\∀k,F' k->F k\/w.heap.size<=k:=by
 obtain⟨g,vb,h,ok,rfl⟩:=h;have HN:=yfD w h ok
 cases hp:S.pick with
 | none=>
   have e1:S.takeN= -1:=by simp[Pg.Fs.takeN,hp]
   have e2:S.picked=S/\S.take=S:=by
    unfold Pg.Fs.pick at hp
    cases hb:S.back.getLast? with
    | some k=>rw[hb]at hp;cases hp
    | none=>
      rw[hb]at hp
      by_cases hn:S.next<S.n
      ·simp[hn]at hp
      ·simp[Pg.Fs.picked,Pg.Fs.take,hb,hn]
   rw[e1]at HN ⊢;rw[e2.1]at HN;rw[e2.2];clear e1 e2 h
   go_enter Tryz.func46,Tryz.ntmps46
   go_wp2_with fail
   refine HN.mono ?_;rintro e w1 ⟨rfl,vb1,h1,Ha,l8⟩;have fin:Hid _:=zh.next h1 ok Ha (.inl l8);clear h1 Ha l8
   go_wp2_with fail
   go_ret
   exact⟨rfl,fin.out⟩
 | some k=>
   have e1:S.takeN=(k:Int):=by simp[Pg.Fs.takeN,hp]
   have hk:=(ok.ylq hp).1
   have e2:S.take={S.picked with used:=k::S.picked.used,word:=Pg.Fs.clear S.picked.word k}/\S.picked.n=S.n:=by
    unfold Pg.Fs.pick at hp
    cases hb:S.back.getLast? with
    | some j=>
      rw[hb]at hp;cases hp;simp[Pg.Fs.picked,Pg.Fs.take,hb]
    | none=>
      rw[hb]at hp
      by_cases hn:S.next<S.n
      ·simp[hn]at hp
       subst hp;simp[Pg.Fs.picked,Pg.Fs.take,hb,hn]
      ·simp[hn]at hp
   have hs:=ok.small
   have i0:(0:Int)<=(k:Int):=by omega
   have i1:(k:Int)<(S.n:Int):=by omega
   have i2:((k:Int)== -1)=M:=by simp
   rw[e1]at HN ⊢;clear e1 h
   go_enter Tryz.func46,Tryz.ntmps46
   go_wp2_with fail
   refine HN.mono ?_;rintro e w1 ⟨rfl,vb1,h1,Ha,l8⟩;have rT:=h1.c0;rw[e2.2]at rT;have nI:=h1.f0
   have iZ:k<S.picked.n:=by rw[e2.2];exact hk
   have t0:=h1.ci k iZ;have t1:=h1.cw k 0 iZ (by omega);have t2:=h1.cw k 1 iZ (by omega);have t3:=h1.cw k 2 iZ (by omega);have t4:=h1.cw k 3 iZ (by omega);have t5:=h1.cw k 4 iZ (by omega);have t6:=h1.cw k 5 iZ (by omega);have t7:=h1.cw k 6 iZ (by omega);have t8:=h1.cw k 7 iZ (by omega)
   have fin:Hid (∃F',zh (w1.setCells g (k*9) yfQ) b S.take F'/\But (frF b g vb) w (w1.setCells g (k*9) yfQ)/\∀k,F' k->frF b g vb k\/w.heap.size<=k):=by
    refine zh.next (vb':=vb1) ?_ ok.take (But.setCells g (.inr (.inr (.inl rfl))) _ _ _ Ha) (.inl l8);rw[e2.1];exact h1.fill iZ yfQ rfl rfl yfR
   clear h1 Ha l8 HN e2
   go_wp2_with fail
   go_ret
   exact⟨rfl,fin.out⟩
theorem yfz:(Tryz.prog.info? 3).map (fun i=>(i.zero,i.size,i.bytes))=N (N (C Y 0),1,8):=by kernel_rfl
theorem yfy {b g:Nat} {vb:Value} {S:Pg.Fs} (m:Nat) (w:Q) (h:xy w b g vb S) (ok:S.Ok) (hh:S.has (m:Int)=E):
 Calls Z 184 #[A (N ⟨b,0,J⟩),C Y (m:Int)] w fun e w'=>e=T (X E)/\∃F',zh w' b (S.give (m:Int)) F'/\But (frF b g vb) w w'/\∀k,F' k->frF b g vb k\/w.heap.size<=k:=by
 have rT:=h.c0;have TT:=h.fb;have nI:=h.f0;have hs:=ok.small;have n0:=h.n0
 have hn:m<S.n:=by have:=ok.yhK hh;omega
 have hi:=h.ci m hn
 have i0:(0:Int)<=(m:Int):=by omega
 have i1:(m:Int)<(S.n:Int):=by omega
 have hT:=jM (m:Int) w h ok;rw[hh]at hT
 have hl:∀j,decide (j ∈ S.used.erase m)=if j=m then M else S.inn j:=by
  intro j;have fD:S.used.Nodup:=(yN.1 ok.nodup).1
  by_cases e:j=m
  ·simp[e,fD.mem_erase_iff]
  ·simp[e,fD.mem_erase_iff,Pg.Fs.inn]
 have hM:=h.mark hn M (S.used.erase m) hl
 have Ny:S.back.length<=128:=by have:=ok.len;have:=ok.top;omega
 have Hr:=hM.own;have rO:=hM.c1;have rY:=hM.lb;obtain⟨q0,hq,rW,rZ,rX⟩:=info_parts yfz;have HM:Hid _:=hM;have HX:Hid _:=hh;clear hM h hl hh
 go_enter Tryz.func184,Tryz.ntmps184
 go_wp2_with (first
  | (go_at_call 203;refine hT.mono ?_;rintro e w' ⟨rfl,hw⟩;subst w')
  | (at_builtin;refine wpList_append_lies _ rfl _ _ 45 rfl 0 3 q0 (C Y 0) 1 8 Tryz.underlying45 hq rW rZ rX rfl (by decide) _ _ _ rfl (Hr.alloc _) ⟨w.heap.size,0,J⟩ 1 1 [C Y (m:Int)] rfl rfl ?c1 ?c2 (by decide) ?c3 ?c4 (yV _) (w.heap.size+1) (by simp) ?_))
 case c1=>
  intro j u hj
  match j,hj with
  | 0,hj=>simp at hj;subst hj;simp[Addr.add,go_sem]
 case c2=>intro u hu;simp at hu;subst hu;rfl
 case c3=>unfold maxLen;omega
 case c4=>omega
 intro g' cap w3 Hy Hq hat Hf;have h1:=HM.out
 have hk:∀k,k=b\/k=g->w3.heap[k]?=(w.setCell ⟨g,m*9,J⟩ (X M)).heap[k]?:=by
  intro k hk
  have dU:k<(w.setCell ⟨g,m*9,J⟩ (X M)).heap.size:=by
   rcases hk with rfl|rfl
   ·exact h1.lb
   ·exact h1.l0
  have lT:N k≠vb.ownBlock:=by
   rcases hk with rfl|rfl
   ·exact fun e=>h1.vbb e.symm
   ·exact fun e=>h1.vb0 e.symm
  rw[Hq.block k (by simp at dU ⊢;omega) lT];exact ur _ _ _ dU
 have pU:(w.setCell ⟨g,m*9,J⟩ (X M)).heap.size=w.heap.size:=by simp
 have Ho:∀k,k=b\/k=g->(yK (N ⟨g',0,J⟩) (S.back.length+1) cap).ownBlock≠N k:=by
  intro k hk e
  have e:g'=k:=by simpa[ks]using e
  subst e;rcases hat with hat|hat
  ·rcases hk with rfl|rfl
   ·exact h1.vbb hat
   ·exact h1.vb0 hat
  ·have:=h1.lb;have:=h1.l0
   omega
 have hG:=h1.grow (w':=w3) (l:=S.back++[m]) (by have:=Hq.size;simp at this ⊢;omega) hk (by simpa[ya3]using Hy) (Ho g (.inr rfl)) (Ho b (.inl rfl));have kc:w3.cell? ⟨b,1,J⟩=N vb:=(I (hk b (.inl rfl))).trans h1.c1;have kf:w3.frozen? ⟨b,1,J⟩=M:=(V (hk b (.inl rfl))).trans (h1.fb 1)
 have fin:Hid (∃F',zh (w3.setCell ⟨b,1,J⟩ (kp (N ⟨g',0,J⟩) (S.back.length+1) cap)) b (S.give (m:Int)) F'/\But (frF b g vb) w (w3.setCell ⟨b,1,J⟩ (kp (N ⟨g',0,J⟩) (S.back.length+1) cap))/\∀k,F' k->frF b g vb k\/w.heap.size<=k):=by
  have e:S.give (m:Int)={{S with used:=S.used.erase m}with back:=S.back++[m]}:=by
   simp[Pg.Fs.give,HX.out]
  refine zh.next (vb':=kp (N ⟨g',0,J⟩) (S.back.length+1) cap) (by rw[e];exact hG) (ok.give _) ?_ ?_
  ·refine(((((But.refl _ w).setCell (.inr (.inr (.inl rfl))) _).alloc _).grown Hq fun k hk=> .inr (.inr (.inr hk)))).setCell (.inr (.inl rfl)) _
  ·rcases hat with hat|hat
   ·exact .inl hat.symm
   ·exact .inr ⟨g',rfl,by omega⟩
 clear hk Ho hG h1 Hy Hq Hr rO hat Hf
 go_wp2_with fail
 go_ret
 exact⟨rfl,fin.out⟩
theorem ydR {b:Nat} {S:Pg.Fs} {F:Nat->Prop} (k:Int) (w:Q) (h:zh w b S F):
 Calls Z 184 #[A (N ⟨b,0,J⟩),C Y k] w fun e w'=>e=T (X (S.has k))/\∃F',zh w' b (S.give k) F'/\But F w w'/\∀k,F' k->F k\/w.heap.size<=k:=by
 obtain⟨g,vb,h,ok,rfl⟩:=h;cases hh:S.has k
 ·have hT:=jM k w h ok
  rw[hh]at hT
  have e:S.give k=S:=by simp[Pg.Fs.give,hh]
  rw[e];have fin:Hid _:=zh.next h ok (But.refl (frF b g vb) w) (.inl rfl);clear h
  go_enter Tryz.func184,Tryz.ntmps184
  go_wp2_with (go_at_call 203;refine hT.mono ?_;rintro e w' ⟨rfl,hw⟩;subst w')
  go_ret
  exact⟨rfl,fin.out⟩
 ·obtain⟨m,rfl⟩:=kh (ok.yhK hh).1
  exact yfy m w h ok hh
theorem jA {b:Nat} {S:Pg.Fs} {F:Nat->Prop} (k i:Int) (w:Q) (h:zh w b S F):
 Calls Z 171 #[A (N ⟨b,0,J⟩),C Y k,C Y i] w fun e w'=>e=T (yJ #[C K (S.load k i),X (S.at' k i)])/\w'=w:=by
 obtain⟨g,vb,h,ok,rfl⟩:=h;have HW:=ybz k i w h ok;cases hh:S.at' k i
 ·have e:S.load k i=0:=by simp[Pg.Fs.load,hh]
  rw[e];rw[hh]at HW;simp only[cond]at HW;clear h
  go_enter Tryz.func171,Tryz.ntmps171
  go_wp2_with (go_at_call 201;refine HW.mono ?_;rintro e w' ⟨rfl,hw⟩;subst w')
  go_ret2
  exact⟨rfl,rfl⟩
 ·have e:S.load k i=S.word k.toNat i.toNat:=by simp[Pg.Fs.load,hh]
  rw[e];rw[hh]at HW;simp only[cond]at HW;obtain⟨k0,k1,i0,i8,_⟩:=ok.ylH hh;have hc:=h.cw k.toNat i.toNat (by omega) (by omega);clear h;generalize S.word k.toNat i.toNat=v at*;generalize k.toNat*9+1+i.toNat=o at*
  go_enter Tryz.func171,Tryz.ntmps171
  go_wp2_with (go_at_call 201;refine HW.mono ?_;rintro e w' ⟨rfl,hw⟩;subst w')
  go_ret2
  exact⟨rfl,rfl⟩
theorem yaX {b:Nat} {S:Pg.Fs} {F:Nat->Prop} (k i:Int) (w:Q) (h:zh w b S F):
 Calls Z 171 #[A (N ⟨b,0,J⟩),C Y k,C Y i] w fun e w'=>e=T (yJ #[C K (S.load k i),X (S.at' k i)])/\Below w.heap.size w w':=xz (jA k i w h)
theorem ycO {b:Nat} {S:Pg.Fs} {F:Nat->Prop} (k i v:Int) (h0:0<=v) (h1:v<18446744073709551616) (w:Q) (h:zh w b S F):
 Calls Z 169 #[A (N ⟨b,0,J⟩),C Y k,C Y i,C K v] w fun e w'=>e=T (X (S.at' k i))/\∃F',zh w' b (S.store k i v) F'/\But F w w'/\∀k,F' k->F k\/w.heap.size<=k:=by
 obtain⟨g,vb,h,ok,rfl⟩:=h;have HW:=ybz k i w h ok;cases hh:S.at' k i
 ·have e:S.store k i v=S:=by simp[Pg.Fs.store,hh]
  rw[e];rw[hh]at HW;simp only[cond]at HW;have fin:Hid _:=zh.next h ok (But.refl (frF b g vb) w) (.inl rfl);clear h
  go_enter Tryz.func169,Tryz.ntmps169
  go_wp2_with (go_at_call 201;refine HW.mono ?_;rintro e w' ⟨rfl,hw⟩;subst w')
  go_ret
  exact⟨rfl,fin.out⟩
 ·have e:S.store k i v={S with word:=Pg.Fs.put S.word k.toNat i.toNat v}:=by simp[Pg.Fs.store,hh]
  have ok':=ok.store k i h0 h1;rw[e]at ok' ⊢;rw[hh]at HW;simp only[cond]at HW;obtain⟨k0,k1,i0,i8,_⟩:=ok.ylH hh;have hc:=h.cw k.toNat i.toNat (by omega) (by omega);have hf:=h.f0 (k.toNat*9+1+i.toNat)
  have fin:Hid (∃F',zh (w.setCell ⟨g,k.toNat*9+1+i.toNat,J⟩ (C K v)) b {S with word:=Pg.Fs.put S.word k.toNat i.toNat v} F'/\But (frF b g vb) w (w.setCell ⟨g,k.toNat*9+1+i.toNat,J⟩ (C K v))/\∀k,F' k->frF b g vb k\/w.heap.size<=k):=
   zh.next (h.put (by omega) (by omega) v) ok' ((But.refl _ w).setCell (.inr (.inr (.inl rfl))) _) (.inl rfl)
  clear h;generalize k.toNat*9+1+i.toNat=o at*
  go_enter Tryz.func169,Tryz.ntmps169
  go_wp2_with (go_at_call 201;refine HW.mono ?_;rintro e w' ⟨rfl,hw⟩;subst w')
  go_ret
  exact⟨rfl,fin.out⟩
theorem ydS {b:Nat} {S:Pg.Fs} {F:Nat->Prop} (k i old v:Int) (h0:0<=v) (h1:v<18446744073709551616) (w:Q) (h:zh w b S F):
 Calls Z 206 #[A (N ⟨b,0,J⟩),C Y k,C Y i,C K old,C K v] w fun e w'=>e=T (X (S.swaps k i old))/\∃F',zh w' b (S.swap k i old v) F'/\But F w w'/\∀k,F' k->F k\/w.heap.size<=k:=by
 obtain⟨g,vb,h,ok,rfl⟩:=h;have HW:=ybz k i w h ok;cases hh:S.at' k i
 ·have es:S.swaps k i old=M:=by simp[Pg.Fs.swaps,hh]
  have e:S.swap k i old v=S:=by simp[Pg.Fs.swap,es]
  rw[e,es];rw[hh]at HW;simp only[cond]at HW;have fin:Hid _:=zh.next h ok (But.refl (frF b g vb) w) (.inl rfl);clear h
  go_enter Tryz.func206,Tryz.ntmps206
  go_wp2_with (go_at_call 201;refine HW.mono ?_;rintro e w' ⟨rfl,hw⟩;subst w')
  go_ret
  exact⟨rfl,fin.out⟩
 ·rw[hh]at HW
  simp only[cond]at HW;obtain⟨k0,k1,i0,i8,_⟩:=ok.ylH hh;have hc:=h.cw k.toNat i.toNat (by omega) (by omega);have hf:=h.f0 (k.toNat*9+1+i.toNat)
  by_cases hw:S.word k.toNat i.toNat=old
  ·have es:S.swaps k i old=E:=by simp[Pg.Fs.swaps,hh,hw]
   have e:S.swap k i old v={S with word:=Pg.Fs.put S.word k.toNat i.toNat v}:=by simp[Pg.Fs.swap,es]
   have ok':=ok.swap k i old h0 h1;rw[e]at ok' ⊢;rw[es]
   have fin:Hid (∃F',zh (w.setCell ⟨g,k.toNat*9+1+i.toNat,J⟩ (C K v)) b {S with word:=Pg.Fs.put S.word k.toNat i.toNat v} F'/\But (frF b g vb) w (w.setCell ⟨g,k.toNat*9+1+i.toNat,J⟩ (C K v))/\∀k,F' k->frF b g vb k\/w.heap.size<=k):=
    zh.next (h.put (by omega) (by omega) v) ok' ((But.refl _ w).setCell (.inr (.inr (.inl rfl))) _) (.inl rfl)
   clear h;rw[hw]at hc;generalize k.toNat*9+1+i.toNat=o at*;clear hw
   go_enter Tryz.func206,Tryz.ntmps206
   go_wp2_with (go_at_call 201;refine HW.mono ?_;rintro e w' ⟨rfl,hw⟩;subst w')
   go_ret
   exact⟨rfl,fin.out⟩
  ·have es:S.swaps k i old=M:=by simp[Pg.Fs.swaps,hw]
   have e:S.swap k i old v=S:=by simp[Pg.Fs.swap,es]
   rw[e,es];have fin:Hid _:=zh.next h ok (But.refl (frF b g vb) w) (.inl rfl);clear h
   have Ho:(S.word k.toNat i.toNat==old)=M:=by simpa using hw
   generalize S.word k.toNat i.toNat=x at*;generalize k.toNat*9+1+i.toNat=o at*;clear hw
   go_enter Tryz.func206,Tryz.ntmps206
   go_wp2_with (go_at_call 201;refine HW.mono ?_;rintro e w' ⟨rfl,hw⟩;subst w')
   go_ret
   exact⟨rfl,fin.out⟩
theorem yeF (n:Int) (hn:n<0\/128<n) (w:Q):
 Calls Z 45 #[C Y n] w fun e w'=>e=T (yJ #[A J,ua #[C Y 1,C Y (-1)]])/\Below w.heap.size w w':=by
 by_cases h0:n<0
 ·go_enter Tryz.func45,Tryz.ntmps45
  go_wp2_with fail
  refine bodyPost_ret (v:=yJ #[A J,ua #[C Y 1,C Y (-1)]]) ?_ rfl ⟨rfl,?_⟩
  ·simp[results,Tryz.results45,go_sem]
  ·exact zA (zR w) _
 ·have h1:128<n:=by omega
  go_enter Tryz.func45,Tryz.ntmps45
  go_wp2_with fail
  refine bodyPost_ret (v:=yJ #[A J,ua #[C Y 1,C Y (-1)]]) ?_ rfl ⟨rfl,?_⟩
  ·simp[results,Tryz.results45,go_sem]
  ·exact zA (zR w) _
theorem yeL:(Tryz.prog.info? 166).map (fun i=>(i.zero,i.size,i.bytes))=N (N (ua #[X M,C K 0,C K 0,C K 0,C K 0,C K 0,C K 0,C K 0,C K 0]),9,72):=by kernel_rfl
theorem yeE (n:Nat) (hn:n<=128) (w:Q):
 Calls Z 45 #[C Y (n:Int)] w fun e w'=>∃b F,e=T (yJ #[A (N ⟨b,0,J⟩),ua #[C Y 0,C Y 0]])/\zh w' b (Pg.Fs.new n) F/\Below w.heap.size w w'/\∀k,F k->w.heap.size<=k:=by
 obtain⟨q0,hq,rW,rZ,rX⟩:=info_parts yeL
 have m0:∀w:Q,(Instr.makeSlice 161 (C Y (n:Int)) (C Y (n:Int))).run Z w=_:=fun w=>
  run_make w 161 166 q0 _ Tryz.underlying161 hq rW Y Y n n (by omega) (yQ _) (by rw[rX];omega) (by omega)
 rw[rZ]at m0;simp only[Int.toNat_natCast]at m0
 have d0:¬(n:Int)<0:=by omega
 have d1:¬(128:Int)<(n:Int):=by omega
 go_enter Tryz.func45,Tryz.ntmps45
 go_wp2_with fail
 refine bodyPost_ret (v:=yJ #[A (N ⟨w.heap.size+1+1,0,J⟩),ua #[C Y 0,C Y 0]]) ?_ rfl ?_
 ·simp[results,Tryz.results45,go_sem]
 refine⟨w.heap.size+1+1,rfl,frF (w.heap.size+1+1) (w.heap.size+1) (kp J 0 0),⟨w.heap.size+1,kp J 0 0,?_,Pg.Fs.ykU n hn,rfl⟩,?_,?_⟩
 ·refine xy.made (t0:=166) (t2:=163) ?_ ?_ (by omega)
  ·exact(js w _ _ _).2.2
  ·exact(js w _ _ _).2.1
 ·exact zA (zA (zA (zR w) _) _) _
 ·intro k hk
  rcases hk with rfl|rfl|hk
  ·omega
  ·omega
  ·simp[ks]at hk
end Go.Proofs.YtdphiompijbelaaGreat
namespace Go.Proofs.YtdphiompijbelaaGreat
open Go.RowKit
theorem zq (n e:Int) (w:Q):
 Calls Z 173 #[C Y n,C Y e] w fun r w'=>r=T (X (Pg.below n e))/\w'=w:=by
 by_cases h:0<=n
 ·have hd:decide (0<=n)=E:=by simpa using h
  go_enter Tryz.func173,Tryz.ntmps173
  go_wp2
  go_ret
  exact⟨by simp[Pg.below,hd],rfl⟩
 ·have hd:decide (0<=n)=M:=by simpa using h
  go_enter Tryz.func173,Tryz.ntmps173
  go_wp2
  go_ret
  exact⟨by simp[Pg.below,hd],rfl⟩
theorem xO (s:Int) (w:Q):
 Calls Z 153 #[C Y s] w fun r w'=>r=T (C Y (Pg.span s))/\w'=w:=by
 go_enter Tryz.func153,Tryz.ntmps153
 go_wp2
 all_goals
  go_ret
  exact⟨by simp_all[Pg.span],rfl⟩
theorem xn (n:Int) (w:Q):
 Calls Z 172 #[C Y n] w fun r w'=>r=T (X (Pg.below n 4096))/\w'=w:=by
 go_enter Tryz.func172,Tryz.ntmps172
 go_wp2_with (go_at_call 173;refine(zq _ _ _).mono ?_;rintro e w' ⟨rfl,rfl⟩)
 go_ret
 exact⟨rfl,rfl⟩
theorem zO (n:Int) (w:Q):
 Calls Z 174 #[C Y n] w fun r w'=>r=T (X (Pg.below n 8))/\w'=w:=by
 go_enter Tryz.func174,Tryz.ntmps174
 go_wp2_with (go_at_call 173;refine(zq _ _ _).mono ?_;rintro e w' ⟨rfl,rfl⟩)
 go_ret
 exact⟨rfl,rfl⟩
theorem ydX (k:Int) (w:Q):
 Calls Z 175 #[C Y k] w fun r w'=>r=T (X (Pg.isKind k))/\w'=w:=by
 by_cases h0:(k==0)=E
 ·go_enter Tryz.func175,Tryz.ntmps175
  go_wp2
  go_ret
  exact⟨by simp[Pg.isKind,h0],rfl⟩
 ·have h0:(k==0)=M:=by simpa using h0
  by_cases h1:(k==1)=E
  ·go_enter Tryz.func175,Tryz.ntmps175
   go_wp2
   go_ret
   exact⟨by simp[Pg.isKind,h1],rfl⟩
  ·have h1:(k==1)=M:=by simpa using h1
   go_enter Tryz.func175,Tryz.ntmps175
   go_wp2
   go_ret
   exact⟨by simp[Pg.isKind,h0,h1],rfl⟩
theorem yfo (p k:Int) (u:Bool) (w:Q):
 Calls Z 202 #[ua #[C Y p,C Y k,X u]] w fun r w'=>r=T (C Y (Pg.asks k u:Int))/\Below w.heap.size w w':=by
 cases u
 all_goals
  go_enter Tryz.func202,Tryz.ntmps202
  go_wp2
  all_goals
   go_ret
   exact⟨by simp_all[Pg.asks]<;>rfl,(L _ _).alloc (D _) _⟩
theorem jl (p s f r q:Int) (hp:Pg.fits p) (hq:Pg.fits q) (w:Q):
 Calls Z 178 #[ua #[C Y p,C Y s,C Y f,C Y r],C Y q] w fun e w'=>e=T (X (Pg.over p s q))/\Below w.heap.size w w':=by
 have hs:=Pg.yhH s
 by_cases h:p<=q
 ·have hd:decide (p<=q)=E:=by simpa using h
  go_enter Tryz.func178,Tryz.ntmps178
  go_wp2
  go_quiet ((go_at_call 153;exact Calls.quiet_of_same (xO _ _)))
  go_wp2
  go_ret
  exact⟨by rw[<-Pg.over_yes hp hq h];rfl,below_drewN ((L _ _).alloc (D _) _) _⟩
 ·have hd:decide (p<=q)=M:=by simpa using h
  go_enter Tryz.func178,Tryz.ntmps178
  go_wp2
  go_quiet ((go_at_call 153;exact Calls.quiet_of_same (xO _ _)))
  go_wp2
  go_ret
  exact⟨by rw[Pg.over_no hd];rfl,below_drewN ((L _ _).alloc (D _) _) _⟩
theorem zX (p s f r:Int) (w:Q):
 Calls Z 139 #[ua #[C Y p,C Y s,C Y f,C Y r]] w fun e w'=>e=T (C Y (Pg.check p s f r))/\Below w.heap.size w w':=by
 have hs:=Pg.yhH s
 by_cases h0:Pg.span s=0
 ·have hb:(Pg.span s==0)=E:=by simpa using h0
  have H:Hid (Pg.span s=0):=h0;clear h0
  go_enter Tryz.func139,Tryz.ntmps139
  go_wp2_with (first
   | (go_at_call 153;refine(xO _ _).mono ?_;rintro e w' ⟨rfl,rfl⟩)
   | (go_at_call 172;refine(xn _ _).mono ?_;rintro e w' ⟨rfl,rfl⟩)
   | (go_at_call 173;refine(zq _ _ _).mono ?_;rintro e w' ⟨rfl,rfl⟩)
   | (go_at_call 174;refine(zO _ _).mono ?_;rintro e w' ⟨rfl,rfl⟩))
  go_ret
  exact⟨by rw[Pg.yjL H.out];rfl,(L _ _).alloc (D _) _⟩
 ·have hb:(Pg.span s==0)=M:=by simpa using h0
  have H:Hid (Pg.span s≠0):=h0
  have h1:1<=Pg.span s:=by omega
  clear h0
  by_cases hr:(!Pg.below p 4096|| !Pg.below f 1048576|| !Pg.below r 8)=E
  ·have HR:Hid ((!Pg.below p 4096|| !Pg.below f 1048576|| !Pg.below r 8)=E):=hr
   clear hr;cases b1:Pg.below p 4096
   ·go_enter Tryz.func139,Tryz.ntmps139
    go_wp2_with (first
     | (go_at_call 153;refine(xO _ _).mono ?_;rintro e w' ⟨rfl,rfl⟩)
     | (go_at_call 172;refine(xn _ _).mono ?_;rintro e w' ⟨rfl,rfl⟩)
     | (go_at_call 173;refine(zq _ _ _).mono ?_;rintro e w' ⟨rfl,rfl⟩)
     | (go_at_call 174;refine(zO _ _).mono ?_;rintro e w' ⟨rfl,rfl⟩))
    go_ret
    exact⟨by rw[Pg.yil H.out HR.out];rfl,(L _ _).alloc (D _) _⟩
   ·cases b2:Pg.below f 1048576
    ·go_enter Tryz.func139,Tryz.ntmps139
     go_wp2_with (first
      | (go_at_call 153;refine(xO _ _).mono ?_;rintro e w' ⟨rfl,rfl⟩)
      | (go_at_call 172;refine(xn _ _).mono ?_;rintro e w' ⟨rfl,rfl⟩)
      | (go_at_call 173;refine(zq _ _ _).mono ?_;rintro e w' ⟨rfl,rfl⟩)
      | (go_at_call 174;refine(zO _ _).mono ?_;rintro e w' ⟨rfl,rfl⟩))
     go_ret
     exact⟨by rw[Pg.yil H.out HR.out];rfl,(L _ _).alloc (D _) _⟩
    ·cases b3:Pg.below r 8
     ·go_enter Tryz.func139,Tryz.ntmps139
      go_wp2_with (first
       | (go_at_call 153;refine(xO _ _).mono ?_;rintro e w' ⟨rfl,rfl⟩)
       | (go_at_call 172;refine(xn _ _).mono ?_;rintro e w' ⟨rfl,rfl⟩)
       | (go_at_call 173;refine(zq _ _ _).mono ?_;rintro e w' ⟨rfl,rfl⟩)
       | (go_at_call 174;refine(zO _ _).mono ?_;rintro e w' ⟨rfl,rfl⟩))
      go_ret
      exact⟨by rw[Pg.yil H.out HR.out];rfl,(L _ _).alloc (D _) _⟩
     ·exact absurd HR.out (by simp[b1,b2,b3])
  ·have b1:Pg.below p 4096=E:=by cases h:Pg.below p 4096<;>simp_all
   have b2:Pg.below f 1048576=E:=by cases h:Pg.below f 1048576<;>simp_all
   have b3:Pg.below r 8=E:=by cases h:Pg.below r 8<;>simp_all
   clear hr;have c1:=Pg.zB.1 b1;have c2:=Pg.zB.1 b2;have HA:Hid (Pg.check p s f r=if p%Pg.span s=0/\f%Pg.span s=0 then 0 else 3):=Pg.yh1 H.out b1 b2 b3
   by_cases d1:p%Pg.span s=0
   ·have e1:(p%Pg.span s !=0)=M:=by simp[d1]
    have D1:Hid (p%Pg.span s=0):=d1;clear d1
    by_cases d2:f%Pg.span s=0
    ·have e2:(f%Pg.span s !=0)=M:=by simp[d2]
     have D2:Hid (f%Pg.span s=0):=d2;clear d2
     go_enter Tryz.func139,Tryz.ntmps139
     go_wp2_with (first
      | (go_at_call 153;refine(xO _ _).mono ?_;rintro e w' ⟨rfl,rfl⟩)
      | (go_at_call 172;refine(xn _ _).mono ?_;rintro e w' ⟨rfl,rfl⟩)
      | (go_at_call 173;refine(zq _ _ _).mono ?_;rintro e w' ⟨rfl,rfl⟩)
      | (go_at_call 174;refine(zO _ _).mono ?_;rintro e w' ⟨rfl,rfl⟩))
     go_ret
     exact⟨by rw[HA.out,if_pos ⟨D1.out,D2.out⟩];rfl,(L _ _).alloc (D _) _⟩
    ·have e2:(f%Pg.span s !=0)=E:=by simp[d2]
     have D2:Hid (¬f%Pg.span s=0):=d2;clear d2
     go_enter Tryz.func139,Tryz.ntmps139
     go_wp2_with (first
      | (go_at_call 153;refine(xO _ _).mono ?_;rintro e w' ⟨rfl,rfl⟩)
      | (go_at_call 172;refine(xn _ _).mono ?_;rintro e w' ⟨rfl,rfl⟩)
      | (go_at_call 173;refine(zq _ _ _).mono ?_;rintro e w' ⟨rfl,rfl⟩)
      | (go_at_call 174;refine(zO _ _).mono ?_;rintro e w' ⟨rfl,rfl⟩))
     go_ret
     exact⟨by rw[HA.out,if_neg (fun h=>D2.out h.2)];rfl,(L _ _).alloc (D _) _⟩
   ·have e1:(p%Pg.span s !=0)=E:=by simp[d1]
    have D1:Hid (¬p%Pg.span s=0):=d1;clear d1
    go_enter Tryz.func139,Tryz.ntmps139
    go_wp2_with (first
     | (go_at_call 153;refine(xO _ _).mono ?_;rintro e w' ⟨rfl,rfl⟩)
     | (go_at_call 172;refine(xn _ _).mono ?_;rintro e w' ⟨rfl,rfl⟩)
     | (go_at_call 173;refine(zq _ _ _).mono ?_;rintro e w' ⟨rfl,rfl⟩)
     | (go_at_call 174;refine(zO _ _).mono ?_;rintro e w' ⟨rfl,rfl⟩))
    go_ret
    exact⟨by rw[HA.out,if_neg (fun h=>D1.out h.1)];rfl,(L _ _).alloc (D _) _⟩
theorem ybu (p s f r p' s' f' r':Int) (hp:Pg.fits p) (hq:Pg.fits p') (w:Q):
 Calls Z 212 #[ua #[C Y p,C Y s,C Y f,C Y r],ua #[C Y p',C Y s',C Y f',C Y r']] w fun e w'=>e=T (X (Pg.meet p s p' s'))/\Below w.heap.size w w':=by
 cases h:Pg.over p s p'
 ·have HM:Hid (Pg.meet p s p' s'=Pg.over p' s' p):=by simp[Hid,Pg.meet,h]
  go_enter Tryz.func212,Tryz.ntmps212
  go_wp2_with fail
  refine(jl _ _ _ _ _ hp hq _).mono ?_;rintro e w1 ⟨rfl,Ha⟩;obtain⟨rO,pY⟩:=xW Ha
  go_wp2_with fail
  refine(jl _ _ _ _ _ hq hp _).mono ?_;rintro e w2 ⟨rfl,Hd⟩
  go_wp2_with fail
  go_ret
  exact⟨by rw[HM.out];rfl,zT (zT (zA (zA (zR _) _) _) Ha) Hd⟩
 ·have HM:Hid (Pg.meet p s p' s'=E):=by simp[Hid,Pg.meet,h]
  go_enter Tryz.func212,Tryz.ntmps212
  go_wp2_with fail
  refine(jl _ _ _ _ _ hp hq _).mono ?_;rintro e w1 ⟨rfl,Ha⟩;obtain⟨rO,pY⟩:=xW Ha
  go_wp2_with fail
  go_ret
  exact⟨by rw[HM.out];rfl,zT (zA (zA (zR _) _) _) Ha⟩
theorem ybt (r p k:Int) (u:Bool) (w:Q):
 Calls Z 179 #[C Y r,ua #[C Y p,C Y k,X u]] w fun e w'=>e=T (X (Pg.may r k u))/\Below w.heap.size w w':=by
 have HM:Hid _:=Pg.may_eq r k u
 go_enter Tryz.func179,Tryz.ntmps179
 go_wp2_with fail
 refine(yfo _ _ _ _).mono ?_;rintro e w1 ⟨rfl,Ha⟩;generalize ha:Pg.asks k u=a at*;have HA:=ha;clear ha
 go_wp2_with fail
 go_ret
 exact⟨by rw[<-HM.out];rfl,zT (zA (zR _) _) Ha⟩
theorem zJ (p k:Int) (u:Bool) (w:Q):
 Calls Z 140 #[ua #[C Y p,C Y k,X u]] w fun e w'=>e=T (C Y (Pg.zK p k))/\Below w.heap.size w w':=by
 cases h1:Pg.isKind k<;>cases h2:Pg.below p 4096
 all_goals
  go_enter Tryz.func140,Tryz.ntmps140
  go_wp2_with (first
   | (go_at_call 175;refine(ydX _ _).mono ?_;rintro e w' ⟨rfl,rfl⟩)
   | (go_at_call 172;refine(xn _ _).mono ?_;rintro e w' ⟨rfl,rfl⟩))
  go_ret
  exact⟨by simp[Pg.zK,h1,h2],(L _ _).alloc (D _) _⟩
theorem ycu (p s f r q k:Int) (u:Bool) (w:Q):
 Calls Z 143 #[ua #[C Y p,C Y s,C Y f,C Y r],ua #[C Y q,C Y k,X u]] w fun e w'=>
  e=T (if Pg.may r k u=E then ua #[C Y 0,C Y (wrap64 (f+wrap64 (q-p))),C Y r]else ua #[C Y 2,C Y 0,C Y 0])/\Below w.heap.size w w':=by
 cases h:Pg.may r k u
 ·go_enter Tryz.func143,Tryz.ntmps143
  go_wp2_with fail
  refine(ybt _ _ _ _ _).mono ?_;rintro e w1 ⟨rfl,Ha⟩;obtain⟨rO,pY⟩:=xW Ha
  have hz:w.heap.size+2<w1.heap.size:=by have:=Ha.size;simp at this;omega
  go_wp2_with fail
  refine bodyPost_ret (v:=ua #[C Y 2,C Y 0,C Y 0]) ?_ rfl ⟨by simp,?_⟩
  ·simp[results,Tryz.results143,go_sem,rO]
  ·exact(((zT (zA (zA (zA (zR _) _) _) _) Ha).setCell (by simp;omega) _).setCell (by simp;omega) _).setCell (by simp;omega) _
 ·go_enter Tryz.func143,Tryz.ntmps143
  go_wp2_with fail
  refine(ybt _ _ _ _ _).mono ?_;rintro e w1 ⟨rfl,Ha⟩;obtain⟨rO,pY⟩:=xW Ha
  have hz:w.heap.size+2<w1.heap.size:=by have:=Ha.size;simp at this;omega
  go_wp2_with fail
  refine bodyPost_ret (v:=ua #[C Y 0,C Y (wrap64 (f+wrap64 (q-p))),C Y r]) ?_ rfl ⟨by simp,?_⟩
  ·simp[results,Tryz.results143,go_sem,rO]
  ·exact(((zT (zA (zA (zA (zR _) _) _) _) Ha).setCell (by simp;omega) _).setCell (by simp;omega) _).setCell (by simp;omega) _
theorem jS (p s f r q k:Int) (u:Bool) (w:Q):
 Calls Z 143 #[ua #[C Y p,C Y s,C Y f,C Y r],ua #[C Y q,C Y k,X u]] w fun e w'=>
  e=T (ua #[C Y (Pg.aEnd r k u),C Y (Pg.yhY p f r q k u),C Y (Pg.yhL r k u)])/\Below w.heap.size w w':=by
 refine(ycu p s f r q k u w).mono ?_;rintro e w' ⟨rfl,hb⟩;refine⟨?_,hb⟩;unfold Pg.aEnd Pg.yhY Pg.yhL
 split<;>rfl
theorem vK (p l:Int) (w:Q):
 Calls Z 196 #[C Y p,C Y l] w fun e w'=>e=T (C Y (Pg.index p l))/\w'=w:=by
 cases h1:Pg.below p 4096
 ·have HI:Hid (Pg.index p l= -1):=by simp[Hid,Pg.index,h1]
  go_enter Tryz.func196,Tryz.ntmps196
  go_wp2_with (first
   | (go_at_call 173;refine(zq _ _ _).mono ?_;rintro e w' ⟨rfl,rfl⟩)
   | (go_at_call 172;refine(xn _ _).mono ?_;rintro e w' ⟨rfl,rfl⟩))
  go_ret
  exact⟨by rw[HI.out];rfl,rfl⟩
 ·cases h2:Pg.below l 4
  ·have HI:Hid (Pg.index p l= -1):=by simp[Hid,Pg.index,h2]
   go_enter Tryz.func196,Tryz.ntmps196
   go_wp2_with (first
    | (go_at_call 173;refine(zq _ _ _).mono ?_;rintro e w' ⟨rfl,rfl⟩)
    | (go_at_call 172;refine(xn _ _).mono ?_;rintro e w' ⟨rfl,rfl⟩))
   go_ret
   exact⟨by rw[HI.out];rfl,rfl⟩
  ·have HI:Hid (Pg.index p l=p/8^l.toNat%8):=by simp[Hid,Pg.index,h1,h2]
   have c1:=Pg.zB.1 h1;have c2:=Pg.zB.1 h2
   go_enter Tryz.func196,Tryz.ntmps196
   go_wp2_with (first
    | (go_at_call 173;refine(zq _ _ _).mono ?_;rintro e w' ⟨rfl,rfl⟩)
    | (go_at_call 172;refine(xn _ _).mono ?_;rintro e w' ⟨rfl,rfl⟩))
   go_loop [0,14] (fun a i=>∃(k:Nat) (q:Int),(k:Int)<=l/\i=C Y k/\a=C Y q/\0<=q/\q<4096/\Hid (q=p/8^k)) (fun _ i=>(l-intOf i).toNat)
   case atStart=>exact⟨0,p,by omega,rfl,rfl,by omega,by omega,by simp[Hid]⟩
   case round=>
    obtain⟨k,q,hk,rfl,rfl,q0,q1,HQ⟩:=hrel
    by_cases Hf:(k:Int)<l
    ·go_wp2
     go_round
     case rel=>exact⟨k+1,q/8,by omega,by go_num,rfl,by omega,by omega,by simp only[Hid];rw[HQ.out,Int.ediv_ediv_of_nonneg (Int.pow_nonneg (by decide)),<-Int.pow_succ]⟩
     case measure=>simp[intOf];omega
    ·go_wp2
     go_ret
     have dU:l.toNat=k:=by omega
     exact⟨by rw[HI.out,dU,<-HQ.out];rfl,rfl⟩
end Go.Proofs.YtdphiompijbelaaGreat
