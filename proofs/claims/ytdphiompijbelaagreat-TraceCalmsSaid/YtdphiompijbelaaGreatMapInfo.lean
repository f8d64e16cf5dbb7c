import Derived.WalkKit
import Derived.WalkLawsBesides
import Derived.WalkSmall
import Derived.WalkSpells
import Derived.BigQuiet
import Derived.Lib.QuietBelow
import Derived.OwnWalk
import Derived.Laws.IdiomCopy
import Derived.Test.YtdphiompijbelaaGreatChecked
import Derived.Deep.AppendLies
set_option linter.all false
open Array renaming getElem?_range->yR,getElem?_eq_some_iff->yY,getElem?_map->yF
open Go.RowKit renaming Hid->yJ
open Nat renaming le_refl->kh,lt_of_lt_of_le->uv,two_pow_add_eq_or_of_lt->yC,le_trans->yE,testBit_mul_two_pow->yA,and_or_distrib_left->yH,zero_le->yy,or_eq_zero_iff->yn,add_zero->ya,xor_self->yb,mod_lt->yh
open List renaming pairwise_cons->kp,findIdx?_eq_some_iff_getElem->yV,perm_append_comm->yU,getElem_mem->yX,eraseIdx_cons_succ->yL,nodup_append->yr,append_assoc->yt,append_nil->yg,mem_cons->yc
open Go.RowKit.Below renaming heap_setCell->ki,refl->uc,heap_alloc->yN
open Go.Proofs.Tryz renaming prog->M
open Int renaming eq_ofNat_of_zero_le->U,ediv_ediv_of_nonneg->yS,pow_succ->yq,toNat_natCast->yv,le_refl->yp,pow_add->yw
open Go.Ending renaming returned->Z
open Go renaming World->Q,Value->E,Calls->ur,cell_later->ud,bodyPost_ret->yK,heap_alloc_new->yj
open Bool renaming false->N,true->V,and_eq_true->yZ,false_eq_true->yM,eq_iff_iff->yG,or_eq_true->yW,not_eq_true'->yo
open Go.IntKind renaming i64->R,u64->O
open Go.Value renaming int->C,bool->kO,pointer->un,slice->ue,ownBlock->yB,agg->yP,tuple->yQ,int->yz,bool->yk,slice->ym
open Option renaming none->J,some->T
open Go.World renaming cell?_of_block->I,cell?_setCell_other->Y,frozen?_of_block->K,cell?_setCell_same->D,block_lt_of_cell?->ua,frozen?_setCells->yI,cell?_setCells_out->yT,frozen?->yO,cell?_setCells_in->yD,frozen?_setCell->yi,ownsRow_nil->yu,setCells->yd
namespace Go.Proofs.YtdphiompijbelaaGreat
open Go.RowKit
section
abbrev Lw (w w':Go.World):Prop:=Go.RowKit.Below w.heap.size w w'
theorem iP {c:Prop} {h:Decidable c} (hc:c) {α:Sort _} {t e:α}:(if c then t else e)=t:=if_pos hc
theorem iN {c:Prop} {h:Decidable c} (hc:¬c) {α:Sort _} {t e:α}:(if c then t else e)=e:=if_neg hc
theorem eY {α:Type} (a:α):∃x,x=a:=⟨_,rfl⟩
namespace Pg
def r8 (x:Int):Nat:=(BitVec.ofInt 64 x).toNat%8
theorem and_small (n m:Nat) (h:m<8):n&&&m=(n%8)&&&m:=by
 have h7:m=7&&&m:=by
  have:m=0\/m=1\/m=2\/m=3\/m=4\/m=5\/m=6\/m=7:=by omega
  rcases this with h|h|h|h|h|h|h|h<;>subst h<;>decide
 have e:n&&&7=n%8:=Nat.and_two_pow_sub_one_eq_mod n 3;rw[<-e,Nat.and_assoc,<-h7]
theorem ofInt_small (y:Nat) (h:y<8):(BitVec.ofInt 64 (y:Int)).toNat=y:=by
 rw[BitVec.toNat_ofInt];omega
theorem wrap_i64_small (n:Nat) (h:n<8):IntKind.i64.wrap (n:Int)=n:=by
 simp[IntKind.wrap,IntKind.bits,IntKind.signed];omega
theorem and_lt8 (a m:Nat) (h:m<8):a&&&m<8:=Nat.lt_of_le_of_lt Nat.and_le_right h
theorem yi8 (x:Int) (m:Nat) (h:m<8):bits .and R x (m:Int)=((r8 x&&&m:Nat):Int):=by
 unfold bits r8
 show IntKind.i64.wrap ((BitVec.ofInt 64 x&&&BitVec.ofInt 64 (m:Int)).toNat:Int)=_
 rw[BitVec.toNat_and,ofInt_small m h,and_small _ m h];exact wrap_i64_small _ (and_lt8 _ m h)
theorem r8_lt (x:Int):r8 x<8:=yh _ (by decide)
theorem u64_of_wrap64 (n:Int) (h0:0<=n) (h1:n<18446744073709551616):IntKind.u64.wrap (wrap64 n)=n:=by
 simp only[IntKind.wrap,IntKind.bits,IntKind.signed,wrap64,Bool.false_and,yM,if_false];omega
def below (n e:Int):Bool:=decide (0<=n)&&decide (n<e)
def span (s:Int):Int:=if s=0 then 1 else if s=1 then 8 else if s=2 then 64 else 0
def isKind (k:Int):Bool:=k==0||k==1||k==2
def check (p s f r:Int):Int:=
 if span s=0 then 2
 else if (!below p 4096|| !below f 1048576|| !below r 8)=V then 1
 else if p%span s=0/\f%span s=0 then 0 else 3
def over (mp ms p:Int):Bool:=decide (mp<=p)&&decide (p-mp<span ms)
def meet (ap az bp bz:Int):Bool:=over ap az bp||over bp bz ap
def asks (k:Int) (u:Bool):Nat:=(if k=1 then 1 else if k=2 then 4 else 0)+(if u then 2 else 0)
def may (r k:Int) (u:Bool):Bool:=(r8 r&&&asks k u)==asks k u
def zK (p k:Int):Int:=if isKind k=V then(if below p 4096=V then 0 else 1)else 2
def index (p l:Int):Int:=if (below p 4096&&below l 4)=V then p/8^l.toNat%8 else-1
def aEnd (r k:Int) (u:Bool):Int:=if may r k u=V then 0 else 2
def yie (p f r q k:Int) (u:Bool):Int:=if may r k u=V then wrap64 (f+wrap64 (q-p))else 0
def yh1 (r k:Int) (u:Bool):Int:=if may r k u=V then r else 0
def fits (n:Int):Prop:= -9223372036854775808<=n/\n<=9223372036854775807
theorem asks_lt (k:Int) (u:Bool):asks k u<8:=by
 unfold asks;repeat (any_goals split)
 all_goals omega
theorem yhX (s:Int):(s=0/\span s=1)\/(s=1/\span s=8)\/(s=2/\span s=64)\/(s≠0/\s≠1/\s≠2/\span s=0):=by
 unfold span;split<;>(try split)<;>(try split)<;>omega
theorem yh2 (s:Int):0<=span s/\span s<=64:=by
 rcases yhX s with h|h|h|h<;>omega
theorem yiR {n:Int} (h:(Lit.int R n).wf=V):fits n:=by
 simp only[Lit.wf,IntKind.min,IntKind.max,IntKind.signed,IntKind.bits,yZ,decide_eq_true_eq,if_true]at h;unfold fits;omega
theorem over_no {p s q:Int} (h:decide (p<=q)=N):over p s q=N:=by simp[over,h]
theorem over_yes {p s q:Int} (hp:fits p) (hq:fits q) (h:p<=q):decide (IntKind.u64.wrap (wrap64 (q-p))<span s)=over p s q:=by
 unfold fits at hp hq;rw[u64_of_wrap64 _ (by omega) (by omega)];simp[over,h]
theorem may_eq (r k:Int) (u:Bool):(bits .and R r (asks k u:Int)==(asks k u:Int))=may r k u:=by
 rw[yi8 r _ (asks_lt k u)];unfold may;rw[yG];simp only[beq_iff_eq];exact Int.ofNat_inj
theorem yj8 {p s f r:Int} (h:span s=0):check p s f r=2:=by simp[check,h]
theorem yiE {p s f r:Int} (h:span s≠0) (hb:(!below p 4096|| !below f 1048576|| !below r 8)=V):check p s f r=1:=by
 simp only[check,h,if_false,hb,if_true]
theorem yin {p s f r:Int} (h:span s≠0) (h1:below p 4096=V) (h2:below f 1048576=V) (h3:below r 8=V):
 check p s f r=if p%span s=0/\f%span s=0 then 0 else 3:=by
 simp[check,h,h1,h2,h3]
theorem zB {n e:Int}:below n e=V ↔ 0<=n/\n<e:=by simp[below]
theorem index_at {p:Int} (h0:0<=p) (h1:p<4096):index p 0=p%8/\index p 1=p/8%8/\index p 2=p/64%8/\index p 3=p/512:=by
 have hb:below p 4096=V:=zB.2 ⟨h0,h1⟩
 have hi:∀l:Int,below l 4=V->index p l=p/8^l.toNat%8:=fun l hl=>by simp[index,hb,hl]
 refine⟨?_,?_,?_,?_⟩<;>rw[hi _ (by decide)]
 ·show p/1%8=_;omega
 ·show p/8%8=_;omega
 ·show p/64%8=_;omega
 ·show p/512%8=_;omega
theorem yhT {p s f r:Int} (h:check p s f r=0):span s≠0/\0<=p/\p<4096/\0<=f/\f<1048576/\0<=r/\r<8/\p%span s=0/\f%span s=0:=by
 unfold check at h;split at h
 ·omega
 ·split at h
  ·omega
  ·split at h
   ·rename_i h1 h2 h3
    simp[below]at h2;refine⟨h1,?_⟩;obtain⟨h3a,h3b⟩:=h3;omega
   ·omega
def sameUpto (p q:Int):Nat->Bool
 | 0=>V
 | k+1=>sameUpto p q k&&(index p (k:Int)==index q (k:Int))
def cnt (np ns mp:Int):Nat->Int
 | 0=>0
 | j+1=>cnt np ns mp j+(if over np ns (mp+(j:Int))=V then 1 else 0)
theorem cnt_eq (np ns mp:Int) (j:Nat):cnt np ns mp j=max 0 (min (mp+j) (np+span ns)-max mp np):=by
 have hs:=(yh2 ns).1
 induction j with
 | zero=>simp only[cnt];omega
 | succ j ih=>
   simp only[cnt,ih]
   have e:(over np ns (mp+(j:Int))=V) ↔ (np<=mp+j/\mp+j-np<span ns):=by simp[over]
   by_cases h:np<=mp+(j:Int)/\mp+(j:Int)-np<span ns
   ·rw[iP (e.2 h)];omega
   ·rw[iN (fun x=>h (e.1 x))];omega
theorem ykr (a s b t:Int):meet a s b t=decide ((a<=b/\b-a<span s)\/(b<=a/\a-b<span t)):=by
 rw[yG];simp[meet,over]
theorem meets {mp ms mf mr np ns nf nr:Int} (h:check mp ms mf mr=0) (h':check np ns nf nr=0):
 (cnt np ns mp (span ms).toNat=0/\meet mp ms np ns=N/\meet np ns mp ms=N)\/
 (0<cnt np ns mp (span ms).toNat/\cnt np ns mp (span ms).toNat=min (span ms) (span ns)/\meet mp ms np ns=V/\meet np ns mp ms=V):=by
 obtain⟨z0,z1,z2,_,_,_,_,z3,_⟩:=yhT h;obtain⟨y0,y1,y2,_,_,_,_,y3,_⟩:=yhT h';rw[cnt_eq,ykr,ykr];simp only[decide_eq_false_iff_not,decide_eq_true_eq]
 rcases yhX ms with ⟨_,hv⟩|⟨_,hv⟩|⟨_,hv⟩|⟨_,_,_,hv⟩<;>rcases yhX ns with ⟨_,hw⟩|⟨_,hw⟩|⟨_,hw⟩|⟨_,_,_,hw⟩
 all_goals
  rw[hv]at z0 z3;rw[hw]at y0 y3;rw[hv,hw];omega
theorem ykx {n e:Int}:below n e=N ↔ n<0\/e<=n:=by simp[below];omega
end Pg
open Go.RowKit Go.Sort
set_option linter.unusedVariables false
theorem xV {W w1:Q} (hb:Lw W w1):(∀b o,b<W.heap.size->w1.cell? ⟨b,o,J⟩=W.cell? ⟨b,o,J⟩)/\(∀b o,b<W.heap.size->w1.frozen? ⟨b,o,J⟩=W.frozen? ⟨b,o,J⟩):=
 ⟨fun b o h=>hb.cell (p:=⟨b,o,J⟩) h,fun b o h=>hb.frozen (p:=⟨b,o,J⟩) h⟩
theorem zT {w w1 w2:Q} (h:Lw w w1) (hb:Lw w1 w2):Lw w w2:=h.trans (hb.mono h.size)
theorem zA {w w1:Q} (h:Lw w w1) (o:Obj):Lw w (w1.alloc o):=h.alloc h.size o
theorem zR (w:Q):Lw w w:=uc _ _
theorem xy {P:Program} {f:FuncId} {args:Array E} {w:Q} {v:E}
 (h:ur P f args w fun e w'=>e=Z v/\w'=w):ur P f args w fun e w'=>e=Z v/\Lw w w':=
 h.mono fun _ _ ⟨he,hw⟩=>⟨he,hw▸zR w⟩
theorem qc {w w':Q} {b:Nat} {v0 v1 v2:E} (hb:Lw w w')
 (h:w.cell? ⟨b,0,J⟩=T v0/\w.cell? ⟨b,1,J⟩=T v1/\w.cell? ⟨b,2,J⟩=T v2):
 w'.cell? ⟨b,0,J⟩=T v0/\w'.cell? ⟨b,1,J⟩=T v1/\w'.cell? ⟨b,2,J⟩=T v2:=
 ⟨ud hb h.1,ud hb h.2.1,ud hb h.2.2⟩
theorem xG {w w':Q} {b:Nat} {v0 v1 v2 v3:E} (hb:Lw w w')
 (h:w.cell? ⟨b,0,J⟩=T v0/\w.cell? ⟨b,1,J⟩=T v1/\w.cell? ⟨b,2,J⟩=T v2/\w.cell? ⟨b,3,J⟩=T v3):
 w'.cell? ⟨b,0,J⟩=T v0/\w'.cell? ⟨b,1,J⟩=T v1/\w'.cell? ⟨b,2,J⟩=T v2/\w'.cell? ⟨b,3,J⟩=T v3:=
 ⟨ud hb h.1,ud hb h.2.1,ud hb h.2.2.1,ud hb h.2.2.2⟩
theorem yb4 {w w':Q} {a:Addr} {v:E} (hb:Lw w w') (h:w.cell? a=T v) (hf:w.frozen? a=N):w'.frozen? a=N:=
 (hb.frozen (ua _ _ h)).trans hf
theorem xC {w w':Q} {b:Nat} {v0 v1 v2 v3 v4 v5:E} (hb:Lw w w')
 (h:w.cell? ⟨b,0,J⟩=T v0/\w.cell? ⟨b,1,J⟩=T v1/\w.cell? ⟨b,2,J⟩=T v2/\w.cell? ⟨b,3,J⟩=T v3/\w.cell? ⟨b,4,J⟩=T v4/\w.cell? ⟨b,5,J⟩=T v5):
 w'.cell? ⟨b,0,J⟩=T v0/\w'.cell? ⟨b,1,J⟩=T v1/\w'.cell? ⟨b,2,J⟩=T v2/\w'.cell? ⟨b,3,J⟩=T v3/\w'.cell? ⟨b,4,J⟩=T v4/\w'.cell? ⟨b,5,J⟩=T v5:=
 ⟨ud hb h.1,ud hb h.2.1,ud hb h.2.2.1,ud hb h.2.2.2.1,ud hb h.2.2.2.2.1,ud hb h.2.2.2.2.2⟩
theorem yac {w w':Q} {b:Nat} {u0 u1 u2 u3 u4 u5 v0 v1 v2 v3 v4 v5:E} (hB:Lw w w') (rV:w.heap.size<=b) (h:w'.cell? ⟨b,0,J⟩=T u0/\w'.cell? ⟨b,1,J⟩=T u1/\w'.cell? ⟨b,2,J⟩=T u2/\w'.cell? ⟨b,3,J⟩=T u3/\w'.cell? ⟨b,4,J⟩=T u4/\w'.cell? ⟨b,5,J⟩=T u5):
 Lw w ((((((w'.setCell ⟨b,0,J⟩ v0).setCell ⟨b,1,J⟩ v1).setCell ⟨b,2,J⟩ v2).setCell ⟨b,3,J⟩ v3).setCell ⟨b,4,J⟩ v4).setCell ⟨b,5,J⟩ v5)/\
 (((((((w'.setCell ⟨b,0,J⟩ v0).setCell ⟨b,1,J⟩ v1).setCell ⟨b,2,J⟩ v2).setCell ⟨b,3,J⟩ v3).setCell ⟨b,4,J⟩ v4).setCell ⟨b,5,J⟩ v5).cell? ⟨b,0,J⟩=T v0/\((((((w'.setCell ⟨b,0,J⟩ v0).setCell ⟨b,1,J⟩ v1).setCell ⟨b,2,J⟩ v2).setCell ⟨b,3,J⟩ v3).setCell ⟨b,4,J⟩ v4).setCell ⟨b,5,J⟩ v5).cell? ⟨b,1,J⟩=T v1/\((((((w'.setCell ⟨b,0,J⟩ v0).setCell ⟨b,1,J⟩ v1).setCell ⟨b,2,J⟩ v2).setCell ⟨b,3,J⟩ v3).setCell ⟨b,4,J⟩ v4).setCell ⟨b,5,J⟩ v5).cell? ⟨b,2,J⟩=T v2/\((((((w'.setCell ⟨b,0,J⟩ v0).setCell ⟨b,1,J⟩ v1).setCell ⟨b,2,J⟩ v2).setCell ⟨b,3,J⟩ v3).setCell ⟨b,4,J⟩ v4).setCell ⟨b,5,J⟩ v5).cell? ⟨b,3,J⟩=T v3/\((((((w'.setCell ⟨b,0,J⟩ v0).setCell ⟨b,1,J⟩ v1).setCell ⟨b,2,J⟩ v2).setCell ⟨b,3,J⟩ v3).setCell ⟨b,4,J⟩ v4).setCell ⟨b,5,J⟩ v5).cell? ⟨b,4,J⟩=T v4/\((((((w'.setCell ⟨b,0,J⟩ v0).setCell ⟨b,1,J⟩ v1).setCell ⟨b,2,J⟩ v2).setCell ⟨b,3,J⟩ v3).setCell ⟨b,4,J⟩ v4).setCell ⟨b,5,J⟩ v5).cell? ⟨b,5,J⟩=T v5)/\
 (∀c o v,c≠b->w'.cell? ⟨c,o,J⟩=T v->((((((w'.setCell ⟨b,0,J⟩ v0).setCell ⟨b,1,J⟩ v1).setCell ⟨b,2,J⟩ v2).setCell ⟨b,3,J⟩ v3).setCell ⟨b,4,J⟩ v4).setCell ⟨b,5,J⟩ v5).cell? ⟨c,o,J⟩=T v)/\
 (∀c o,((((((w'.setCell ⟨b,0,J⟩ v0).setCell ⟨b,1,J⟩ v1).setCell ⟨b,2,J⟩ v2).setCell ⟨b,3,J⟩ v3).setCell ⟨b,4,J⟩ v4).setCell ⟨b,5,J⟩ v5).frozen? ⟨c,o,J⟩=w'.frozen? ⟨c,o,J⟩):=by
 refine⟨(((((hB.setCell rV _).setCell rV _).setCell rV _).setCell rV _).setCell rV _).setCell rV _,?_,?_,?_⟩
 ·simp[go_sem,h]
 ·intro c o v _ hv
  simp[go_sem,hv]
 ·intro c o
  simp[go_sem]
theorem zy {k:IntKind} {a b:Int} (h:a=b):Ending.returned (C k a)=Z (C k b):=by rw[h]
theorem ybx {k k':IntKind} {a b c d:Int} (h:a=b) (h':c=d):Ending.returned (yQ #[C k a,C k' c])=Z (yQ #[C k b,C k' d]):=by rw[h,h']
theorem zV {a b:Bool} (h:a=b):Ending.returned (kO a)=Z (kO b):=by rw[h]
theorem xJ {n:Int} (h0: -9223372036854775808<=n) (h1:n<=9223372036854775807):IntKind.i64.wrap n=n:=by
 rw[IntKind.wrap_i64];omega
theorem jl (w:Q) (a b c:Obj):(((w.alloc a).alloc b).alloc c).heap[w.heap.size]?=T a/\(((w.alloc a).alloc b).alloc c).heap[w.heap.size+1]?=T b/\(((w.alloc a).alloc b).alloc c).heap[w.heap.size+1+1]?=T c:=by
 have s1:(w.alloc a).heap.size=w.heap.size+1:=by simp
 have s2:((w.alloc a).alloc b).heap.size=w.heap.size+1+1:=by simp
 refine⟨?_,?_,?_⟩
 ·rw[yN _ _ _ (by omega),yN _ _ _ (by omega)]
  exact yj w a
 ·rw[yN _ _ _ (by omega),<-s1]
  exact yj (w.alloc a) b
 ·rw[<-s2]
  exact yj ((w.alloc a).alloc b) c
structure But (F:Nat->Prop) (w w':Q):Prop where
 os:w'.os=w.os
 tape:w'.tape=w.tape
 output:w'.output=w.output
 size:w.heap.size<=w'.heap.size
 block:∀k,k<w.heap.size->¬F k->w'.heap[k]?=w.heap[k]?
namespace But
variable {F G:Nat->Prop} {w w1 w2:Q}
theorem refl (F:Nat->Prop) (w:Q):But F w w:=⟨rfl,rfl,rfl,kh _,fun _ _ _=>rfl⟩
theorem trans (h:But F w w1) (k:But G w1 w2) (hG:∀i,i<w.heap.size->G i->F i):But F w w2:=
 ⟨k.os.trans h.os,k.tape.trans h.tape,k.output.trans h.output,yE h.size k.size,
  fun i hi hF=>(k.block i (uv hi h.size) (fun hg=>hF (hG i hi hg))).trans (h.block i hi hF)⟩
theorem mono (h:But F w w1) (hG:∀i,i<w.heap.size->F i->G i):But G w w1:=
 ⟨h.os,h.tape,h.output,h.size,fun i hi hg=>h.block i hi (fun hf=>hg (hG i hi hf))⟩
theorem alloc (h:But F w w1) (o:Obj):But F w (w1.alloc o):=
 ⟨h.os,h.tape,h.output,yE h.size (by simp),fun i hi hF=>(yN w1 o i (uv hi h.size)).trans (h.block i hi hF)⟩
theorem drew (h:But F w w1):But F w w1.drew:=⟨h.os,h.tape,h.output,h.size,h.block⟩
theorem setCell (h:But F w w1) {a:Addr} (ha:w.heap.size<=a.block\/F a.block) (v:E):But F w (w1.setCell a v):=by
 have hb:Below 0 w1 (w1.setCell a v):=(uc 0 w1).setCell (yy _) v;refine⟨hb.os.trans h.os,hb.tape.trans h.tape,hb.output.trans h.output,yE h.size hb.size,fun i hi hF=> ?_⟩;refine(ki w1 a v i ?_).trans (h.block i hi hF);rintro rfl;rcases ha with h'|h'
 ·omega
 ·exact hF h'
theorem grown (h:But F w w1) {row:Option Nat} (hg:w1.grownBy w2 row) (hr:∀k,row=T k->w.heap.size<=k\/F k):But F w w2:=
 ⟨hg.os.trans h.os,hg.tape.trans h.tape,hg.output.trans h.output,yE h.size hg.size,fun i hi hF=>
  (hg.block i (uv hi h.size) (fun e=>(hr i e.symm).elim (fun h'=>by omega) hF)).trans (h.block i hi hF)⟩
theorem cell (h:But F w w1) {a:Addr} (ha:a.block<w.heap.size) (hF:¬F a.block):w1.cell? a=w.cell? a:=I (h.block a.block ha hF)
theorem frozen (h:But F w w1) {a:Addr} (ha:a.block<w.heap.size) (hF:¬F a.block):w1.frozen? a=w.frozen? a:=K (h.block a.block ha hF)
theorem below (h:But F w w1) {B:Nat} (hB:B<=w.heap.size) (hF:∀k,F k->B<=k):Below B w w1:=
 ⟨h.os,h.tape,h.output,h.size,fun k hk=>h.block k (by omega) (fun hf=>by have:=hF k hf;omega)⟩
theorem yhJ (h:Lw w w1):But F w w1:=⟨h.os,h.tape,h.output,h.size,fun k hk _=>h.block k hk⟩
end But
end
section
namespace Pg
structure Fs where
 n:Nat
 next:Nat
 used:List Nat
 back:List Nat
 word:Nat->Nat->Int
namespace Fs
def new (n:Nat):Fs:=⟨n,0,[],[],fun _ _=>0⟩
structure Ok (S:Fs):Prop where
 perm:(S.used++S.back).Perm (List.range S.next)
 top:S.next<=S.n
 small:S.n<=128
 low:∀k i,0<=S.word k i
 high:∀k i,S.word k i<18446744073709551616
def inn (S:Fs) (k:Nat):Bool:=decide (k ∈ S.used)
def has (S:Fs) (k:Int):Bool:=decide (0<=k)&&S.inn k.toNat
def pick (S:Fs):Option Nat:=match S.back.getLast? with
 | some k=>T k
 | none=>if S.next<S.n then T S.next else J
def put (f:Nat->Nat->Int) (k i:Nat) (v:Int):Nat->Nat->Int:=fun a b=>if a=k/\b=i then v else f a b
def clear (f:Nat->Nat->Int) (k:Nat):Nat->Nat->Int:=fun a b=>if a=k then 0 else f a b
def takeN (S:Fs):Int:=match S.pick with
 | some k=>(k:Int)
 | none=> -1
def take (S:Fs):Fs:=match S.back.getLast? with
 | some k=>{S with used:=k::S.used,back:=S.back.dropLast,word:=clear S.word k}
 | none=>if S.next<S.n then{S with used:=S.next::S.used,next:=S.next+1,word:=clear S.word S.next}else S
def give (S:Fs) (k:Int):Fs:=if S.has k=V then{S with used:=S.used.erase k.toNat,back:=S.back++[k.toNat]}else S
def free (S:Fs):Int:=S.back.length+S.n-S.next
def at' (S:Fs) (k i:Int):Bool:=S.has k&&(decide (0<=i)&&decide (i<8))
def load (S:Fs) (k i:Int):Int:=if S.at' k i=V then S.word k.toNat i.toNat else 0
def store (S:Fs) (k i w:Int):Fs:=if S.at' k i=V then{S with word:=put S.word k.toNat i.toNat w}else S
def swaps (S:Fs) (k i old:Int):Bool:=S.at' k i&&decide (S.word k.toNat i.toNat=old)
def swap (S:Fs) (k i old w:Int):Fs:=if S.swaps k i old=V then{S with word:=put S.word k.toNat i.toNat w}else S
theorem yll (n:Nat) (h:n<=128):(new n).Ok:=⟨by simp[new],yy _,h,fun _ _=>by simp[new],fun _ _=>by simp[new]⟩
section
variable {S:Fs}
theorem Ok.len (h:S.Ok):S.used.length+S.back.length=S.next:=by simpa using h.perm.length_eq
theorem Ok.lt (h:S.Ok) {k:Nat} (hk:k ∈ S.used):k<S.next:=by
 have:k ∈ List.range S.next:=h.perm.mem_iff.1 (by simp[hk])
 simpa using this
theorem Ok.yk3 (h:S.Ok) {k:Nat} (hk:k ∈ S.back):k<S.next:=by
 have:k ∈ List.range S.next:=h.perm.mem_iff.1 (by simp[hk])
 simpa using this
theorem Ok.nodup (h:S.Ok):(S.used++S.back).Nodup:=h.perm.nodup_iff.2 List.nodup_range
theorem Ok.yh4 (h:S.Ok) {k:Int} (hk:S.has k=V):0<=k/\k<S.n/\k.toNat ∈ S.used:=by
 simp[has,inn]at hk;have:=h.lt hk.2;have:=h.top;exact⟨hk.1,by omega,hk.2⟩
theorem Ok.ymd (h:S.Ok) {k i:Int} (hk:S.at' k i=V):0<=k/\k<S.n/\0<=i/\i<8/\k.toNat ∈ S.used:=by
 simp only[at',yZ,decide_eq_true_eq]at hk;obtain⟨h0,h1,h2⟩:=h.yh4 hk.1;exact⟨h0,h1,hk.2.1,hk.2.2,h2⟩
theorem Ok.ylN (h:S.Ok) {k:Nat} (hk:S.pick=T k):k<S.n/\k ∉ S.used:=by
 unfold pick at hk;have htop:=h.top;have dZ:=h.nodup;split at hk
 ·rename_i j hj
  cases hk;have hm:=List.mem_of_getLast? hj;have:=h.yk3 hm;rw[yr]at dZ;exact⟨by omega,fun hu=>dZ.2.2 _ hu _ hm rfl⟩
 ·split at hk
  ·cases hk
   refine⟨by omega,fun hu=> ?_⟩;have:=h.lt hu;omega
  ·cases hk
theorem Ok.take (h:S.Ok):S.take.Ok:=by
 unfold Fs.take;have hp:=h.perm;split
 ·rename_i k hk
  refine⟨?_,h.top,h.small,fun a b=> ?_,fun a b=> ?_⟩
  ·have e:S.back=S.back.dropLast++[k]:=by
    obtain⟨l,hl⟩:=List.getLast?_eq_some_iff.1 hk;simp[hl]
   rw[e]at hp;refine List.Perm.trans ?_ hp
   show(k::S.used++S.back.dropLast).Perm (S.used++(S.back.dropLast++[k]))
   rw[<-yt];exact(yU (l₁:=[k]) (l₂:=S.used++S.back.dropLast))
  ·show 0<=clear S.word k a b
   unfold clear;split
   ·exact yp _
   ·exact h.low a b
  ·show clear S.word k a b<_
   unfold clear;split
   ·decide
   ·exact h.high a b
 ·rename_i hb
  have hb:S.back=[]:=by simpa using hb
  split
  ·rename_i Hf
   refine⟨?_,Hf,h.small,fun a b=> ?_,fun a b=> ?_⟩
   ·rw[hb,yg]at hp
    show(S.next::S.used++S.back).Perm (List.range (S.next+1))
    rw[hb,yg,List.range_succ];exact List.Perm.trans (List.Perm.cons _ hp) (yU (l₁:=[S.next]))
   ·show 0<=clear S.word S.next a b
    unfold clear;split
    ·exact yp _
    ·exact h.low a b
   ·show clear S.word S.next a b<_
    unfold clear;split
    ·decide
    ·exact h.high a b
  ·exact h
theorem Ok.give (h:S.Ok) (k:Int):(S.give k).Ok:=by
 unfold Fs.give;split
 ·rename_i hk
  obtain⟨_,_,hm⟩:=h.yh4 hk;refine⟨?_,h.top,h.small,h.low,h.high⟩
  show(S.used.erase k.toNat++(S.back++[k.toNat])).Perm (List.range S.next)
  refine List.Perm.trans ?_ h.perm;refine List.Perm.trans ?_ (List.Perm.append_right S.back (List.perm_cons_erase hm).symm);rw[<-yt];exact(yU (l₁:=S.used.erase k.toNat++S.back) (l₂:=[k.toNat]))
 ·exact h
theorem yma (h:S.Ok) (k i:Nat) {v:Int} (h0:0<=v) (h1:v<18446744073709551616):({S with word:=put S.word k i v}:Fs).Ok:=by
 refine⟨h.perm,h.top,h.small,fun a b=> ?_,fun a b=> ?_⟩
 ·show 0<=put S.word k i v a b
  unfold put;split
  ·exact h0
  ·exact h.low a b
 ·show put S.word k i v a b<_
  unfold put;split
  ·exact h1
  ·exact h.high a b
theorem Ok.store (h:S.Ok) (k i:Int) {v:Int} (h0:0<=v) (h1:v<18446744073709551616):(S.store k i v).Ok:=by
 unfold Fs.store;split
 ·exact yma h _ _ h0 h1
 ·exact h
theorem Ok.swap (h:S.Ok) (k i old:Int) {v:Int} (h0:0<=v) (h1:v<18446744073709551616):(S.swap k i old v).Ok:=by
 unfold Fs.swap;split
 ·exact yma h _ _ h0 h1
 ·exact h
theorem Ok.ykU (h:S.Ok):0<=S.free/\S.free<=128:=by
 have:=h.len;have:=h.top;have:=h.small;unfold free;omega
end
end Fs
end Pg
open Go.RowKit Go.Sort
set_option linter.unusedVariables false
theorem zb {w w':Q} {base e size n:Nat} {v:E} {xs:List E} (h:w.ownsRow base e size v n xs) (hk:∀k,v.ownBlock=T k->w'.heap[k]?=w.heap[k]?):w'.ownsRow base e size v n xs:=by
 refine⟨h.1,?_⟩;rcases h.2 with hn|⟨g,cap,cur,rfl,hb,PX,rest⟩
 ·exact .inl hn
 ·exact .inr ⟨g,cap,cur,rfl,hb,by rw[hk g rfl];exact PX,rest⟩
def ya3 (l:List Nat):List E:=l.map fun k:Nat=>yz R (k:Int)
structure zX (w:Q) (b g0 g1:Nat) (vb:E) (S:Pg.Fs):Prop where
 c0:w.cell? ⟨b,0,J⟩=T (ue (T ⟨g0,0,J⟩) S.n S.n)
 c1:w.cell? ⟨b,1,J⟩=T (ue (T ⟨g1,0,J⟩) S.n S.n)
 c2:w.cell? ⟨b,2,J⟩=T vb
 c3:w.cell? ⟨b,3,J⟩=T (C R S.next)
 fb:∀o,w.frozen? ⟨b,o,J⟩=N
 f0:∀o,w.frozen? ⟨g0,o,J⟩=N
 f1:∀o,w.frozen? ⟨g1,o,J⟩=N
 cw:∀k i,k<S.n->i<8->w.cell? ⟨g0,k*8+i,J⟩=T (C O (S.word k i))
 ci:∀k,k<S.n->w.cell? ⟨g1,k,J⟩=T (kO (S.inn k))
 own:w.ownsRow 0 3 1 vb S.back.length (ya3 S.back)
 l0:g0<w.heap.size
 l1:g1<w.heap.size
 n0:g0≠b
 n1:g1≠b
 n01:g0≠g1
 vb0:vb.ownBlock≠T g0
 vb1:vb.ownBlock≠T g1
 vbb:vb.ownBlock≠T b
def xg (b g0 g1:Nat) (vb:E):Nat->Prop:=fun k=>k=b\/k=g0\/k=g1\/vb.ownBlock=T k
theorem qD (b:Nat):∀(vs:List E) (o:Nat) (w:Q) (k:Nat),k≠b->(w.setCells b o vs).heap[k]?=w.heap[k]?
 | [],_,_,_,_=>rfl
 | v::r,o,w,k,h=>by rw[yd,qD b r (o+1) _ k h,ki _ _ _ _ h]
theorem qG (b:Nat):∀(vs:List E) (o:Nat) (w:Q),(w.setCells b o vs).heap.size=w.heap.size
 | [],_,_=>rfl
 | v::r,o,w=>by rw[yd,qG b r (o+1)];simp
theorem But.setCells {F:Nat->Prop} {w:Q} (b:Nat) (hb:w.heap.size<=b\/F b):∀(vs:List E) (o:Nat) (w1:Q),But F w w1->But F w (w1.setCells b o vs)
 | [],_,_,h=>h
 | v::r,o,w1,h=>But.setCells b hb r (o+1) _ (h.setCell (a:=⟨b,o,J⟩) hb v)
namespace zX
variable {w w':Q} {b g0 g1:Nat} {vb:E} {S:Pg.Fs}
theorem lb (h:zX w b g0 g1 vb S):b<w.heap.size:=ua _ _ h.c0
theorem lt (h:zX w b g0 g1 vb S) {k:Nat} (hk:xg b g0 g1 vb k):k<w.heap.size:=by
 rcases hk with rfl|rfl|rfl|hk
 ·exact ua _ _ h.c0
 ·exact h.l0
 ·exact h.l1
 ·exact(h.own.lt k hk).2
theorem keep (h:zX w b g0 g1 vb S) {F:Nat->Prop} (hb:But F w w') (hF:∀k,xg b g0 g1 vb k->¬F k):zX w' b g0 g1 vb S:=by
 have hk:∀k,xg b g0 g1 vb k->w'.heap[k]?=w.heap[k]?:=fun k hk=>hb.block k (h.lt hk) (hF k hk);have kb:=hk b (.inl rfl);have k0:=hk g0 (.inr (.inl rfl));have k1:=hk g1 (.inr (.inr (.inl rfl)))
 exact⟨(I kb).trans h.c0,(I kb).trans h.c1,(I kb).trans h.c2,(I kb).trans h.c3,
  fun o=>(K kb).trans (h.fb o),fun o=>(K k0).trans (h.f0 o),fun o=>(K k1).trans (h.f1 o),
  fun k i a c=>(I k0).trans (h.cw k i a c),fun k a=>(I k1).trans (h.ci k a),
  zb h.own fun k e=>hk k (.inr (.inr (.inr e))),uv h.l0 hb.size,uv h.l1 hb.size,h.n0,h.n1,h.n01,h.vb0,h.vb1,h.vbb⟩
theorem drewN (h:zX w b g0 g1 vb S) (n:Nat):zX (w.drewN n) b g0 g1 vb S:=
 h.keep (F:=fun _=>False) (But.yhJ (below_drewN (zR w) n)) (fun _ _=>id)
theorem yk1 (h:zX w b g0 g1 vb S) (m:Nat):zX (w.setCell ⟨b,3,J⟩ (C R (m:Int))) b g0 g1 vb {S with next:=m}:=by
 have hh:∀k,k≠b->(w.setCell ⟨b,3,J⟩ (C R (m:Int))).heap[k]?=w.heap[k]?:=fun k hk=>ki _ _ _ _ hk;have k0:=hh g0 h.n0;have k1:=hh g1 h.n1
 have hs:(w.setCell ⟨b,3,J⟩ (C R (m:Int))).heap.size=w.heap.size:=by simp
 refine⟨?_,?_,?_,D _ _ _ h.c3,fun o=>by simpa using h.fb o,fun o=>by simpa using h.f0 o,fun o=>by simpa using h.f1 o,
  fun k i a c=>(I k0).trans (h.cw k i a c),fun k a=>(I k1).trans (h.ci k a),
  zb h.own fun k e=>hh k (fun e'=>h.vbb (e'▸e)),hs.symm▸h.l0,hs.symm▸h.l1,h.n0,h.n1,h.n01,h.vb0,h.vb1,h.vbb⟩
 ·exact(Y _ _ _ _ (by simp)).trans h.c0
 ·exact(Y _ _ _ _ (by simp)).trans h.c1
 ·exact(Y _ _ _ _ (by simp)).trans h.c2
theorem yk0 (h:zX w b g0 g1 vb S) {vb':E} {l:List Nat} (ho:w.ownsRow 0 3 1 vb' l.length (ya3 l)) (v0:vb'.ownBlock≠T g0) (v1:vb'.ownBlock≠T g1) (v2:vb'.ownBlock≠T b):
 zX (w.setCell ⟨b,2,J⟩ vb') b g0 g1 vb' {S with back:=l}:=by
 have hh:∀k,k≠b->(w.setCell ⟨b,2,J⟩ vb').heap[k]?=w.heap[k]?:=fun k hk=>ki _ _ _ _ hk;have k0:=hh g0 h.n0;have k1:=hh g1 h.n1
 have hs:(w.setCell ⟨b,2,J⟩ vb').heap.size=w.heap.size:=by simp
 refine⟨?_,?_,D _ _ _ h.c2,?_,fun o=>by simpa using h.fb o,fun o=>by simpa using h.f0 o,fun o=>by simpa using h.f1 o,
  fun k i a c=>(I k0).trans (h.cw k i a c),fun k a=>(I k1).trans (h.ci k a),
  zb ho fun k e=>hh k (fun e'=>v2 (e'▸e)),hs.symm▸h.l0,hs.symm▸h.l1,h.n0,h.n1,h.n01,v0,v1,v2⟩
 ·exact(Y _ _ _ _ (by simp)).trans h.c0
 ·exact(Y _ _ _ _ (by simp)).trans h.c1
 ·exact(Y _ _ _ _ (by simp)).trans h.c3
theorem grow (h:zX w b g0 g1 vb S) (hs:w.heap.size<=w'.heap.size) (hk:∀k,k=b\/k=g0\/k=g1->w'.heap[k]?=w.heap[k]?) {vb':E} {l:List Nat} (ho:w'.ownsRow 0 3 1 vb' l.length (ya3 l)) (v0:vb'.ownBlock≠T g0) (v1:vb'.ownBlock≠T g1) (v2:vb'.ownBlock≠T b):
 zX (w'.setCell ⟨b,2,J⟩ vb') b g0 g1 vb' {S with back:=l}:=by
 have kb:=hk b (.inl rfl);have k0:=hk g0 (.inr (.inl rfl));have k1:=hk g1 (.inr (.inr rfl));have hh:∀k,k≠b->(w'.setCell ⟨b,2,J⟩ vb').heap[k]?=w'.heap[k]?:=fun k hk=>ki _ _ _ _ hk;have j0:=(hh g0 h.n0).trans k0;have j1:=(hh g1 h.n1).trans k1
 have nK:(w'.setCell ⟨b,2,J⟩ vb').heap.size=w'.heap.size:=by simp
 have l0:=h.l0;have l1:=h.l1
 refine⟨?_,?_,D _ _ _ ((I kb).trans h.c2),?_,fun o=> ?_,fun o=>(K j0).trans (h.f0 o),fun o=>(K j1).trans (h.f1 o),
  fun k i a c=>(I j0).trans (h.cw k i a c),fun k a=>(I j1).trans (h.ci k a),
  zb ho fun k e=>hh k (fun e'=>v2 (e'▸e)),by rw[nK];omega,by rw[nK];omega,h.n0,h.n1,h.n01,v0,v1,v2⟩
 ·exact(Y _ _ _ _ (by simp)).trans ((I kb).trans h.c0)
 ·exact(Y _ _ _ _ (by simp)).trans ((I kb).trans h.c1)
 ·exact(Y _ _ _ _ (by simp)).trans ((I kb).trans h.c3)
 ·rw[yi]
  exact(K kb).trans (h.fb o)
theorem mark (h:zX w b g0 g1 vb S) {k:Nat} (hk:k<S.n) (v:Bool) (l:List Nat) (hl:∀j,decide (j ∈ l)=if j=k then v else S.inn j):
 zX (w.setCell ⟨g1,k,J⟩ (kO v)) b g0 g1 vb {S with used:=l}:=by
 have hh:∀j,j≠g1->(w.setCell ⟨g1,k,J⟩ (kO v)).heap[j]?=w.heap[j]?:=fun j hj=>ki _ _ _ _ hj;have kb:=hh b (Ne.symm h.n1);have k0:=hh g0 h.n01
 have hs:(w.setCell ⟨g1,k,J⟩ (kO v)).heap.size=w.heap.size:=by simp
 refine⟨(I kb).trans h.c0,(I kb).trans h.c1,(I kb).trans h.c2,(I kb).trans h.c3,
  fun o=>by simpa using h.fb o,fun o=>by simpa using h.f0 o,fun o=>by simpa using h.f1 o,
  fun j i a c=>(I k0).trans (h.cw j i a c),fun j a=> ?_,
  zb h.own fun j e=>hh j (fun e'=>h.vb1 (e'▸e)),hs.symm▸h.l0,hs.symm▸h.l1,h.n0,h.n1,h.n01,h.vb0,h.vb1,h.vbb⟩
 show _=T (yk (decide (j ∈ l)))
 rw[hl j]
 by_cases e:j=k
 ·rw[iP e,e]
  exact D _ _ _ (h.ci k hk)
 ·rw[iN e]
  exact(Y _ _ _ _ (fun he=>e (by injection he with _ he;exact he.symm))).trans (h.ci j a)
theorem clear (h:zX w b g0 g1 vb S) {k:Nat} (hk:k<S.n) (zs:List E) (hz:zs.length=8) (hv:∀(j:Nat) (hj:j<zs.length),zs[j]=C O 0):
 zX (w.setCells g0 (k*8) zs) b g0 g1 vb {S with word:=Pg.Fs.clear S.word k}:=by
 have hh:∀j,j≠g0->(w.setCells g0 (k*8) zs).heap[j]?=w.heap[j]?:=fun j hj=>qD _ _ _ _ _ hj;have kb:=hh b (Ne.symm h.n0);have k1:=hh g1 (Ne.symm h.n01);have hs:=qG g0 zs (k*8) w
 refine⟨(I kb).trans h.c0,(I kb).trans h.c1,(I kb).trans h.c2,(I kb).trans h.c3,
  fun o=>(yI _ _ _ _ _).trans (h.fb o),fun o=>(yI _ _ _ _ _).trans (h.f0 o),fun o=>(yI _ _ _ _ _).trans (h.f1 o),
  fun j i a c=> ?_,fun j a=>(I k1).trans (h.ci j a),
  zb h.own fun j e=>hh j (fun e'=>h.vb0 (e'▸e)),hs.symm▸h.l0,hs.symm▸h.l1,h.n0,h.n1,h.n01,h.vb0,h.vb1,h.vbb⟩
 show _=T (yz O (Pg.Fs.clear S.word k j i))
 unfold Pg.Fs.clear
 by_cases e:j=k
 ·rw[iP e,e]
  have:=yD g0 zs (k*8) w (fun i hi=>by rw[h.cw k i hk (by omega)];rfl) i (by omega);rw[this,hv i (by omega)]
 ·rw[iN e]
  exact(yT _ _ _ _ _ (fun _ _=>by show j*8+i<k*8\/k*8+zs.length<=j*8+i;omega)).trans (h.cw j i a c)
theorem put (h:zX w b g0 g1 vb S) {k i:Nat} (hk:k<S.n) (hi:i<8) (v:Int):
 zX (w.setCell ⟨g0,k*8+i,J⟩ (C O v)) b g0 g1 vb {S with word:=Pg.Fs.put S.word k i v}:=by
 have hh:∀j,j≠g0->(w.setCell ⟨g0,k*8+i,J⟩ (C O v)).heap[j]?=w.heap[j]?:=fun j hj=>ki _ _ _ _ hj;have kb:=hh b (Ne.symm h.n0);have k1:=hh g1 (Ne.symm h.n01)
 have hs:(w.setCell ⟨g0,k*8+i,J⟩ (C O v)).heap.size=w.heap.size:=by simp
 refine⟨(I kb).trans h.c0,(I kb).trans h.c1,(I kb).trans h.c2,(I kb).trans h.c3,
  fun o=>by simpa using h.fb o,fun o=>by simpa using h.f0 o,fun o=>by simpa using h.f1 o,
  fun j m a c=> ?_,fun j a=>(I k1).trans (h.ci j a),
  zb h.own fun j e=>hh j (fun e'=>h.vb0 (e'▸e)),hs.symm▸h.l0,hs.symm▸h.l1,h.n0,h.n1,h.n01,h.vb0,h.vb1,h.vbb⟩
 show _=T (yz O (Pg.Fs.put S.word k i v j m))
 unfold Pg.Fs.put
 by_cases e:j=k/\m=i
 ·rw[iP e,e.1,e.2]
  exact D _ _ _ (h.cw k i hk hi)
 ·rw[iN e]
  exact(Y _ _ _ _ (fun he=>e (by injection he with _ he;omega))).trans (h.cw j m a c)
end zX
def yf9:Array E:=#[C O 0,C O 0,C O 0,C O 0,C O 0,C O 0,C O 0,C O 0]
theorem yga (j:Nat):yf9[j%yf9.size]! =C O 0:=by
 have:j%8<8:=yh _ (by decide)
 show yf9[j%8]! =_
 generalize j%8=m at*
 match m,this with
 | 0,_|1,_|2,_|3,_|4,_|5,_|6,_|7,_=>rfl
theorem zX.made {w:Q} {b g0 g1 n:Nat} {t0 t1 t2:TypeId} (hb:w.heap[b]?=T (.cells #[ue (T ⟨g0,0,J⟩) n n,ue (T ⟨g1,0,J⟩) n n,ue J 0 0,C R 0] t2 (0,0)))
 (h0:w.heap[g0]?=T (.cells (madeCells yf9 (n*8)) t0 (0,0))) (h1:w.heap[g1]?=T (.cells (madeCells #[kO N] n) t1 (0,0))) (n0:g0≠b) (n1:g1≠b) (n01:g0≠g1):zX w b g0 g1 (ue J 0 0) (Pg.Fs.new n):=by
 refine⟨?_,?_,?_,?_,fun o=>by simp[yO,hb],fun o=>by simp[yO,h0],fun o=>by simp[yO,h1],fun k i hk hi=> ?_,fun k hk=> ?_,yu _ _ _ _,(yY.1 h0).1,(yY.1 h1).1,n0,n1,n01,by simp[yB],by simp[yB],by simp[yB]⟩
 ·rw[cell_of_row w b 0 _ _ _ hb];rfl
 ·rw[cell_of_row w b 1 _ _ _ hb];rfl
 ·rw[cell_of_row w b 2 _ _ _ hb];rfl
 ·rw[cell_of_row w b 3 _ _ _ hb];rfl
 ·have hk:k<n:=hk
  have Hf:k*8+i<n*8:=by omega
  rw[cell_of_row w g0 _ _ _ _ h0,madeCells];simp only[yF,yR,Hf,if_true,Option.map_some,yga];rfl
 ·have hk:k<n:=hk
  rw[cell_of_row w g1 _ _ _ _ h1,madeCells];simp only[yF,yR,hk,if_true,Option.map_some];have:k%(#[yk N]:Array E).size=0:=Nat.mod_one k;rw[this];rfl
structure zj (w:Q) (b g0 g1:Nat) (vb:E) (S:Pg.Fs):Prop where
 raw:zX w b g0 g1 vb S
 ok:S.Ok
theorem zj.keep {w w':Q} {b g0 g1:Nat} {vb:E} {S:Pg.Fs} (h:zj w b g0 g1 vb S) {F:Nat->Prop} (hb:But F w w') (hF:∀k,xg b g0 g1 vb k->¬F k):zj w' b g0 g1 vb S:=⟨h.raw.keep hb hF,h.ok⟩
end
section
open Go.Sort
structure xx (w:Q) (b g:Nat) (vb:E) (S:Pg.Fs):Prop where
 c0:w.cell? ⟨b,0,J⟩=T (ue (T ⟨g,0,J⟩) S.n S.n)
 c1:w.cell? ⟨b,1,J⟩=T vb
 c2:w.cell? ⟨b,2,J⟩=T (C R S.next)
 fb:∀o,w.frozen? ⟨b,o,J⟩=N
 f0:∀o,w.frozen? ⟨g,o,J⟩=N
 ci:∀k,k<S.n->w.cell? ⟨g,k*9,J⟩=T (kO (S.inn k))
 cw:∀k i,k<S.n->i<8->w.cell? ⟨g,k*9+1+i,J⟩=T (C O (S.word k i))
 own:w.ownsRow 0 3 1 vb S.back.length (ya3 S.back)
 l0:g<w.heap.size
 n0:g≠b
 vb0:vb.ownBlock≠T g
 vbb:vb.ownBlock≠T b
def frF (b g:Nat) (vb:E):Nat->Prop:=fun k=>k=b\/k=g\/vb.ownBlock=T k
namespace xx
variable {w w':Q} {b g:Nat} {vb:E} {S:Pg.Fs}
theorem lb (h:xx w b g vb S):b<w.heap.size:=ua _ _ h.c0
theorem lt (h:xx w b g vb S) {k:Nat} (hk:frF b g vb k):k<w.heap.size:=by
 rcases hk with rfl|rfl|hk
 ·exact ua _ _ h.c0
 ·exact h.l0
 ·exact(h.own.lt k hk).2
theorem keep (h:xx w b g vb S) {F:Nat->Prop} (hb:But F w w') (hF:∀k,frF b g vb k->¬F k):xx w' b g vb S:=by
 have hk:∀k,frF b g vb k->w'.heap[k]?=w.heap[k]?:=fun k hk=>hb.block k (h.lt hk) (hF k hk);have kb:=hk b (.inl rfl);have k0:=hk g (.inr (.inl rfl))
 exact⟨(I kb).trans h.c0,(I kb).trans h.c1,(I kb).trans h.c2,
  fun o=>(K kb).trans (h.fb o),fun o=>(K k0).trans (h.f0 o),
  fun k a=>(I k0).trans (h.ci k a),fun k i a c=>(I k0).trans (h.cw k i a c),
  zb h.own fun k e=>hk k (.inr (.inr e)),uv h.l0 hb.size,h.n0,h.vb0,h.vbb⟩
theorem drewN (h:xx w b g vb S) (n:Nat):xx (w.drewN n) b g vb S:=
 h.keep (F:=fun _=>False) (But.yhJ (below_drewN (zR w) n)) (fun _ _=>id)
theorem yk1 (h:xx w b g vb S) (m:Nat):xx (w.setCell ⟨b,2,J⟩ (C R (m:Int))) b g vb {S with next:=m}:=by
 have hh:∀k,k≠b->(w.setCell ⟨b,2,J⟩ (C R (m:Int))).heap[k]?=w.heap[k]?:=fun k hk=>ki _ _ _ _ hk;have k0:=hh g h.n0
 have hs:(w.setCell ⟨b,2,J⟩ (C R (m:Int))).heap.size=w.heap.size:=by simp
 refine⟨?_,?_,D _ _ _ h.c2,fun o=>by simpa using h.fb o,fun o=>by simpa using h.f0 o,
  fun k a=>(I k0).trans (h.ci k a),fun k i a c=>(I k0).trans (h.cw k i a c),
  zb h.own fun k e=>hh k (fun e'=>h.vbb (e'▸e)),hs.symm▸h.l0,h.n0,h.vb0,h.vbb⟩
 ·exact(Y _ _ _ _ (by simp)).trans h.c0
 ·exact(Y _ _ _ _ (by simp)).trans h.c1
theorem grow (h:xx w b g vb S) (hs:w.heap.size<=w'.heap.size) (hk:∀k,k=b\/k=g->w'.heap[k]?=w.heap[k]?) {vb':E} {l:List Nat} (ho:w'.ownsRow 0 3 1 vb' l.length (ya3 l)) (v0:vb'.ownBlock≠T g) (v2:vb'.ownBlock≠T b):
 xx (w'.setCell ⟨b,1,J⟩ vb') b g vb' {S with back:=l}:=by
 have kb:=hk b (.inl rfl);have k0:=hk g (.inr rfl);have hh:∀k,k≠b->(w'.setCell ⟨b,1,J⟩ vb').heap[k]?=w'.heap[k]?:=fun k hk=>ki _ _ _ _ hk;have j0:=(hh g h.n0).trans k0
 have nK:(w'.setCell ⟨b,1,J⟩ vb').heap.size=w'.heap.size:=by simp
 have l0:=h.l0
 refine⟨?_,D _ _ _ ((I kb).trans h.c1),?_,fun o=> ?_,fun o=>(K j0).trans (h.f0 o),
  fun k a=>(I j0).trans (h.ci k a),fun k i a c=>(I j0).trans (h.cw k i a c),
  zb ho fun k e=>hh k (fun e'=>v2 (e'▸e)),by rw[nK];omega,h.n0,v0,v2⟩
 ·exact(Y _ _ _ _ (by simp)).trans ((I kb).trans h.c0)
 ·exact(Y _ _ _ _ (by simp)).trans ((I kb).trans h.c2)
 ·rw[yi]
  exact(K kb).trans (h.fb o)
theorem yk0 (h:xx w b g vb S) {vb':E} {l:List Nat} (ho:w.ownsRow 0 3 1 vb' l.length (ya3 l)) (v0:vb'.ownBlock≠T g) (v2:vb'.ownBlock≠T b):
 xx (w.setCell ⟨b,1,J⟩ vb') b g vb' {S with back:=l}:=h.grow (kh _) (fun _ _=>rfl) ho v0 v2
theorem mark (h:xx w b g vb S) {k:Nat} (hk:k<S.n) (v:Bool) (l:List Nat) (hl:∀j,decide (j ∈ l)=if j=k then v else S.inn j):
 xx (w.setCell ⟨g,k*9,J⟩ (kO v)) b g vb {S with used:=l}:=by
 have hh:∀j,j≠g->(w.setCell ⟨g,k*9,J⟩ (kO v)).heap[j]?=w.heap[j]?:=fun j hj=>ki _ _ _ _ hj;have kb:=hh b (Ne.symm h.n0)
 have hs:(w.setCell ⟨g,k*9,J⟩ (kO v)).heap.size=w.heap.size:=by simp
 refine⟨(I kb).trans h.c0,(I kb).trans h.c1,(I kb).trans h.c2,
  fun o=>by simpa using h.fb o,fun o=>by simpa using h.f0 o,fun j a=> ?_,fun j i a c=> ?_,
  zb h.own fun j e=>hh j (fun e'=>h.vb0 (e'▸e)),hs.symm▸h.l0,h.n0,h.vb0,h.vbb⟩
 ·show _=T (yk (decide (j ∈ l)))
  rw[hl j]
  by_cases e:j=k
  ·rw[iP e,e]
   exact D _ _ _ (h.ci k hk)
  ·rw[iN e]
   exact(Y _ _ _ _ (fun he=>e (by injection he with _ he;omega))).trans (h.ci j a)
 ·exact(Y _ _ _ _ (fun he=>by injection he with _ he;omega)).trans (h.cw j i a c)
theorem fill (h:xx w b g vb S) {k:Nat} (hk:k<S.n) (zs:List E) (hz:zs.length=9) (h0:zs[0]?=T (kO V)) (hv:∀j:Nat,j<8->zs[j+1]?=T (C O 0)):
 xx (w.setCells g (k*9) zs) b g vb {S with used:=k::S.used,word:=Pg.Fs.clear S.word k}:=by
 have hh:∀j,j≠g->(w.setCells g (k*9) zs).heap[j]?=w.heap[j]?:=fun j hj=>qD _ _ _ _ _ hj;have kb:=hh b (Ne.symm h.n0);have hs:=qG g zs (k*9) w
 have dD:∀i,i<zs.length->(w.setCells g (k*9) zs).cell? ⟨g,k*9+i,J⟩=zs[i]?:=by
  intro i hi
  have:=yD g zs (k*9) w (fun i hi=>by
   match i with
   | 0=>rw[show k*9+0=k*9 from rfl,h.ci k hk];rfl
   | i+1=>rw[show k*9+(i+1)=k*9+1+i by omega,h.cw k i hk (by omega)];rfl) i hi
  rw[this,List.getElem?_eq_getElem hi]
 refine⟨(I kb).trans h.c0,(I kb).trans h.c1,(I kb).trans h.c2,
  fun o=>(yI _ _ _ _ _).trans (h.fb o),fun o=>(yI _ _ _ _ _).trans (h.f0 o),
  fun j a=> ?_,fun j i a c=> ?_,
  zb h.own fun j e=>hh j (fun e'=>h.vb0 (e'▸e)),hs.symm▸h.l0,h.n0,h.vb0,h.vbb⟩
 ·show _=T (yk (decide (j ∈ k::S.used)))
  by_cases e:j=k
  ·subst e
   have:=dD 0 (by omega);simp only[ya]at this;rw[this,h0];simp
  ·have he:decide (j ∈ k::S.used)=S.inn j:=by simp[Pg.Fs.inn,e]
   rw[he];exact(yT _ _ _ _ _ (fun _ _=>by show j*9<k*9\/k*9+zs.length<=j*9;omega)).trans (h.ci j a)
 ·show _=T (yz O (Pg.Fs.clear S.word k j i))
  unfold Pg.Fs.clear
  by_cases e:j=k
  ·rw[iP e,e,show k*9+1+i=k*9+(i+1) by omega,dD (i+1) (by omega),hv i c]
  ·rw[iN e]
   exact(yT _ _ _ _ _ (fun _ _=>by show j*9+1+i<k*9\/k*9+zs.length<=j*9+1+i;omega)).trans (h.cw j i a c)
theorem put (h:xx w b g vb S) {k i:Nat} (hk:k<S.n) (hi:i<8) (v:Int):
 xx (w.setCell ⟨g,k*9+1+i,J⟩ (C O v)) b g vb {S with word:=Pg.Fs.put S.word k i v}:=by
 have hh:∀j,j≠g->(w.setCell ⟨g,k*9+1+i,J⟩ (C O v)).heap[j]?=w.heap[j]?:=fun j hj=>ki _ _ _ _ hj;have kb:=hh b (Ne.symm h.n0)
 have hs:(w.setCell ⟨g,k*9+1+i,J⟩ (C O v)).heap.size=w.heap.size:=by simp
 refine⟨(I kb).trans h.c0,(I kb).trans h.c1,(I kb).trans h.c2,
  fun o=>by simpa using h.fb o,fun o=>by simpa using h.f0 o,
  fun j a=>(Y _ _ _ _ (fun he=>by injection he with _ he;omega)).trans (h.ci j a),fun j m a c=> ?_,
  zb h.own fun j e=>hh j (fun e'=>h.vb0 (e'▸e)),hs.symm▸h.l0,h.n0,h.vb0,h.vbb⟩
 show _=T (yz O (Pg.Fs.put S.word k i v j m))
 unfold Pg.Fs.put
 by_cases e:j=k/\m=i
 ·rw[iP e,e.1,e.2]
  exact D _ _ _ (h.cw k i hk hi)
 ·rw[iN e]
  exact(Y _ _ _ _ (fun he=>e (by injection he with _ he;omega))).trans (h.cw j m a c)
end xx
def vL:Array E:=#[kO N,C O 0,C O 0,C O 0,C O 0,C O 0,C O 0,C O 0,C O 0]
theorem yeQ (k:Nat):vL[k*9%vL.size]! =kO N:=by
 have:k*9%9=0:=by omega
 show vL[k*9%9]! =_
 rw[this];rfl
theorem yeR (k i:Nat) (hi:i<8):vL[(k*9+1+i)%vL.size]! =C O 0:=by
 have:(k*9+1+i)%9=i+1:=by omega
 show vL[(k*9+1+i)%9]! =_
 rw[this]
 match i,hi with
 | 0,_|1,_|2,_|3,_|4,_|5,_|6,_|7,_=>rfl
theorem xx.made {w:Q} {b g n:Nat} {t0 t2:TypeId} (hb:w.heap[b]?=T (.cells #[ue (T ⟨g,0,J⟩) n n,ue J 0 0,C R 0] t2 (0,0)))
 (h0:w.heap[g]?=T (.cells (madeCells vL (n*9)) t0 (0,0))) (n0:g≠b):xx w b g (ue J 0 0) (Pg.Fs.new n):=by
 refine⟨?_,?_,?_,fun o=>by simp[yO,hb],fun o=>by simp[yO,h0],fun k hk=> ?_,fun k i hk hi=> ?_,yu _ _ _ _,(yY.1 h0).1,n0,by simp[yB],by simp[yB]⟩
 ·rw[cell_of_row w b 0 _ _ _ hb];rfl
 ·rw[cell_of_row w b 1 _ _ _ hb];rfl
 ·rw[cell_of_row w b 2 _ _ _ hb];rfl
 ·have hk:k<n:=hk
  have Hf:k*9<n*9:=by omega
  rw[cell_of_row w g _ _ _ _ h0,madeCells];simp only[yF,yR,Hf,if_true,Option.map_some,yeQ];rfl
 ·have hk:k<n:=hk
  have Hf:k*9+1+i<n*9:=by omega
  rw[cell_of_row w g _ _ _ _ h0,madeCells];simp only[yF,yR,Hf,if_true,Option.map_some,yeR k i hi];rfl
def zh (w:Q) (b:Nat) (S:Pg.Fs) (F:Nat->Prop):Prop:=∃g vb,xx w b g vb S/\S.Ok/\F=frF b g vb
theorem zh.lt {w:Q} {b:Nat} {S:Pg.Fs} {F:Nat->Prop} (h:zh w b S F) {k:Nat} (hk:F k):k<w.heap.size:=by
 obtain⟨g,vb,h,_,rfl⟩:=h;exact h.lt hk
theorem zh.ok {w:Q} {b:Nat} {S:Pg.Fs} {F:Nat->Prop} (h:zh w b S F):S.Ok:=by
 obtain⟨g,vb,_,h,_⟩:=h;exact h
theorem zh.keep {w w':Q} {b:Nat} {S:Pg.Fs} {F G:Nat->Prop} (h:zh w b S F) (hb:But G w w') (hF:∀k,F k->¬G k):zh w' b S F:=by
 obtain⟨g,vb,h,ok,rfl⟩:=h;exact⟨g,vb,h.keep hb hF,ok,rfl⟩
theorem zh.next {w w':Q} {b g:Nat} {vb vb':E} {S':Pg.Fs} (h1:xx w' b g vb' S') (ok:S'.Ok) (hb:But (frF b g vb) w w') (hv:vb'.ownBlock=vb.ownBlock\/∃k,vb'.ownBlock=T k/\w.heap.size<=k):
 ∃F',zh w' b S' F'/\But (frF b g vb) w w'/\∀k,F' k->frF b g vb k\/w.heap.size<=k:=by
 refine⟨_,⟨g,vb',h1,ok,rfl⟩,hb,fun k hk=> ?_⟩;rcases hk with rfl|rfl|hk
 ·exact .inl (.inl rfl)
 ·exact .inl (.inr (.inl rfl))
 ·rcases hv with e|⟨j,e,hj⟩
  ·exact .inl (.inr (.inr (e▸hk)))
  ·rw[hk]at e
   cases e;exact .inr hj
theorem jI {b g:Nat} {vb:E} {S:Pg.Fs} (k:Int) (w:Q) (h:xx w b g vb S) (ok:S.Ok):
 ur M 203 #[un (T ⟨b,0,J⟩),C R k] w fun e w'=>e=Z (kO (S.has k))/\w'=w:=by
 have rT:=h.c0;have hn:=ok.small
 by_cases h0:0<=k
 ·obtain⟨m,rfl⟩:=U h0
  by_cases h1:m<S.n
  ·have hm:=h.ci m h1
   have HH:yJ (S.has (m:Int)=S.inn m):=by simp[yJ,Pg.Fs.has]
   have i0:(0:Int)<=(m:Int):=by omega
   have i1:(m:Int)<(S.n:Int):=by omega
   go_enter Tryz.func203,Tryz.ntmps203
   go_wp2
   go_ret
   exact⟨zV HH.out.symm,rfl⟩
  ·have HH:yJ (S.has (m:Int)=N):=by
    cases hh:S.has (m:Int)
    ·rfl
    ·have:=ok.yh4 hh
     omega
   have i1:¬(m:Int)<(S.n:Int):=by omega
   go_enter Tryz.func203,Tryz.ntmps203
   go_wp2
   go_ret
   exact⟨zV HH.out.symm,rfl⟩
 ·have HH:yJ (S.has k=N):=by simp[yJ,Pg.Fs.has,h0]
  have d0:decide (0<=k)=N:=by simpa using h0
  go_enter Tryz.func203,Tryz.ntmps203
  go_wp2
  go_ret
  exact⟨zV HH.out.symm,rfl⟩
theorem yfJ {b g:Nat} {vb:E} {S:Pg.Fs} (w:Q) (h:xx w b g vb S) (ok:S.Ok):
 ur M 67 #[un (T ⟨b,0,J⟩)] w fun e w'=>e=Z (C R S.free)/\Lw w w':=by
 have rT:=h.c0;have rO:=h.c1;have tY:=h.c2;have hl:=ok.len;have ht:=ok.top;have hs:=ok.small;have HF:yJ (S.free=S.back.length+S.n-S.next):=rfl
 have hb:S.back.length<=128:=by omega
 have hx:S.next<=128:=by omega
 rcases h.own.2 with ⟨rfl,Hg⟩|⟨g,cap,cur,rfl,hg⟩
 ·rw[Hg]at HF
  clear hl ht Hg hb
  go_enter Tryz.func67,Tryz.ntmps67
  go_wp2
  go_quiet (fail)
  go_wp2
  go_ret
  refine⟨?_,below_drewN (zR _) _⟩;rw[HF.out]
  first|rfl|simp
 ·clear hl ht hg
  generalize S.back.length=m at*
  go_enter Tryz.func67,Tryz.ntmps67
  go_wp2
  go_quiet (fail)
  go_wp2
  go_ret
  exact⟨zy (by rw[HF.out]),below_drewN (zR _) _⟩
def Pg.Fs.picked (S:Pg.Fs):Pg.Fs:=match S.back.getLast? with
 | some k=>{S with back:=S.back.dropLast}
 | none=>if S.next<S.n then{S with next:=S.next+1}else S
theorem yfR {b g:Nat} {vb:E} {S:Pg.Fs} (w:Q) (h:xx w b g vb S) (ok:S.Ok):
 ur M 85 #[un (T ⟨b,0,J⟩)] w fun e w'=>e=Z (C R S.takeN)/\∃vb',xx w' b g vb' S.picked/\But (frF b g vb) w w'/\vb'.ownBlock=vb.ownBlock:=by
 have rT:=h.c0;have rO:=h.c1;have tY:=h.c2;have GL:=h.fb;have hs:=ok.small;have ht:=ok.top
 by_cases hb:S.back=[]
 ·have ho:=h.own
  rw[hb]at ho
  by_cases hn:S.next<S.n
  ·have e1:S.takeN=(S.next:Int):=by simp[Pg.Fs.takeN,Pg.Fs.pick,hb,hn]
   have e2:S.picked={S with next:=S.next+1}:=by simp[Pg.Fs.picked,hb,hn]
   have fin:∀nq,yJ (∃vb',xx ((w.drewN nq).setCell ⟨b,2,J⟩ (C R (S.next+1))) b g vb' S.picked/\But (frF b g vb) w ((w.drewN nq).setCell ⟨b,2,J⟩ (C R (S.next+1)))/\vb'.ownBlock=vb.ownBlock):=by
    intro nq;rw[e2];exact⟨vb,(h.drewN nq).yk1 (S.next+1),(But.yhJ (below_drewN (zR w) nq)).setCell (.inr (.inl rfl)) _,rfl⟩
   rw[e1]
   have i1:((S.next:Int)==(S.n:Int))=N:=by simp;omega
   clear e1 e2;rcases ho.2 with ⟨rfl,Hg⟩|⟨g',cap,cur,rfl,hg⟩
   all_goals
    clear ho h
    go_enter Tryz.func85,Tryz.ntmps85
    go_wp2
    go_quiet (fail)
    go_wp2
    go_ret
    exact⟨rfl,(fin _).out⟩
  ·have Dp:S.next=S.n:=by omega
   have e1:S.takeN= -1:=by simp[Pg.Fs.takeN,Pg.Fs.pick,hb,hn]
   have e2:S.picked=S:=by simp[Pg.Fs.picked,hb,hn]
   have fin:∀nq,yJ (∃vb',xx (w.drewN nq) b g vb' S.picked/\But (frF b g vb) w (w.drewN nq)/\vb'.ownBlock=vb.ownBlock):=by
    intro nq;rw[e2];exact⟨vb,h.drewN nq,But.yhJ (below_drewN (zR w) nq),rfl⟩
   rw[e1]
   have i1:((S.next:Int)==(S.n:Int))=V:=by simp;omega
   clear e1 e2;rcases ho.2 with ⟨rfl,Hg⟩|⟨g',cap,cur,rfl,hg⟩
   all_goals
    clear ho h
    go_enter Tryz.func85,Tryz.ntmps85
    go_wp2
    go_quiet (fail)
    go_wp2
    go_ret
    exact⟨rfl,(fin _).out⟩
 ·obtain⟨l,k,hl⟩:∃l k,S.back=l++[k]:=⟨_,_,(List.dropLast_concat_getLast hb).symm⟩
  have hk:k<S.n:=by
   have:=ok.yk3 (k:=k) (by rw[hl];simp);omega
  have ho:=h.own
  have Hg:S.back.length=l.length+1:=by rw[hl];simp
  rw[Hg]at ho;obtain⟨g',cap,rfl,_,hgl⟩:=ho.form (by omega)
  have kD:l.length+1<=cap:=by
   rcases ho.2 with ⟨h',_⟩|⟨g',cap',cur,h',_,_,fK,_⟩
   ·cases h'
   ·cases h';exact fK
  have aR:S.back.length<=128:=by have:=ok.len;omega
  have GZ:l.length<128:=by omega
  have pR:w.cell? ⟨g',l.length,J⟩=T (C R k):=by
   rw[ho.cellAt l.length (by omega),ya3,hl];simp
  have ai:w.ownsRow 0 3 1 (ue (T ⟨g',0,J⟩) l.length cap) l.length (ya3 l):=by
   have e:ya3 S.back=ya3 l++[C R (k:Int)]:=by simp[ya3,hl]
   rw[e]at ho;exact ownsRow_pop (by simp[ya3]) ho
  have e1:S.takeN=(k:Int):=by simp[Pg.Fs.takeN,Pg.Fs.pick,hl]
  have e2:S.picked={S with back:=l}:=by simp[Pg.Fs.picked,hl]
  have fin:yJ (∃vb',xx (w.setCell ⟨b,1,J⟩ (ue (T ⟨g',0,J⟩) l.length cap)) b g vb' S.picked/\But (frF b g (ue (T ⟨g',0,J⟩) (l.length+1) cap)) w (w.setCell ⟨b,1,J⟩ (ue (T ⟨g',0,J⟩) l.length cap))/\vb'.ownBlock=(ym (T ⟨g',0,J⟩) (l.length+1) cap).ownBlock):=by
   rw[e2];exact⟨_,h.yk0 ai h.vb0 h.vbb,(But.refl _ w).setCell (.inr (.inl rfl)) _,rfl⟩
  rw[e1]
  have j1:(l.length:Int)<=(cap:Int):=by omega
  have j0:(0:Int)<=(l.length:Int):=by omega
  clear ho h ai Hg hl hb e1 e2;generalize l.length=m at*
  go_enter Tryz.func85,Tryz.ntmps85
  go_wp2
  go_ret
  exact⟨rfl,fin.out⟩
theorem ybC {b g:Nat} {vb:E} {S:Pg.Fs} (k i:Int) (w:Q) (h:xx w b g vb S) (ok:S.Ok):
 ur M 201 #[un (T ⟨b,0,J⟩),C R k,C R i] w fun e w'=>e=Z (.pointer (bif S.at' k i then T ⟨g,k.toNat*9+1+i.toNat,J⟩else J))/\w'=w:=by
 have HT:=jI k w h ok;have rT:=h.c0;have hs:=ok.small;cases e1:S.has k
 ·have HA:yJ (S.at' k i=N):=by simp[yJ,Pg.Fs.at',e1]
  rw[HA.out];rw[e1]at HT;clear e1 h
  go_enter Tryz.func201,Tryz.ntmps201
  go_wp2_with (go_at_call 203;refine HT.mono ?_;rintro e w' ⟨rfl,hw⟩;subst w')
  go_ret
  exact⟨rfl,rfl⟩
 ·rw[e1]at HT
  by_cases h0:0<=i
  ·by_cases h8:i<8
   ·have HA:yJ (S.at' k i=V):=by simp[yJ,Pg.Fs.at',e1,h0,h8]
    rw[HA.out];obtain⟨k0,k1,_⟩:=ok.yh4 e1;obtain⟨a,rfl⟩:=U k0;obtain⟨c,rfl⟩:=U h0
    have i0:(0:Int)<=(a:Int):=by omega
    have i1:(a:Int)<(S.n:Int):=by omega
    have hl:¬(c:Int)<0:=by omega
    have hl8:¬(8:Int)<=(c:Int):=by omega
    clear e1 h
    go_enter Tryz.func201,Tryz.ntmps201
    go_wp2_with (go_at_call 203;refine HT.mono ?_;rintro e w' ⟨rfl,hw⟩;subst w')
    go_ret
    exact⟨rfl,rfl⟩
   ·have HA:yJ (S.at' k i=N):=by simp[yJ,Pg.Fs.at',h8]
    rw[HA.out]
    have hl:¬i<0:=by omega
    have hl8:(8:Int)<=i:=by omega
    clear e1 h
    go_enter Tryz.func201,Tryz.ntmps201
    go_wp2_with (go_at_call 203;refine HT.mono ?_;rintro e w' ⟨rfl,hw⟩;subst w')
    go_ret
    exact⟨rfl,rfl⟩
  ·have HA:yJ (S.at' k i=N):=by simp[yJ,Pg.Fs.at',h0]
   rw[HA.out]
   have hl:i<0:=by omega
   clear e1 h
   go_enter Tryz.func201,Tryz.ntmps201
   go_wp2_with (go_at_call 203;refine HT.mono ?_;rintro e w' ⟨rfl,hw⟩;subst w')
   go_ret
   exact⟨rfl,rfl⟩
theorem vK {b:Nat} {S:Pg.Fs} {F:Nat->Prop} (k:Int) (w:Q) (h:zh w b S F):
 ur M 203 #[un (T ⟨b,0,J⟩),C R k] w fun e w'=>e=Z (kO (S.has k))/\Lw w w':=by
 obtain⟨g,vb,h,ok,rfl⟩:=h;exact xy (jI k w h ok)
theorem yaW {b:Nat} {S:Pg.Fs} {F:Nat->Prop} (w:Q) (h:zh w b S F):
 ur M 67 #[un (T ⟨b,0,J⟩)] w fun e w'=>e=Z (C R S.free)/\Lw w w':=by
 obtain⟨g,vb,h,ok,rfl⟩:=h;exact yfJ w h ok
def yf6:List E:=[kO V,C O 0,C O 0,C O 0,C O 0,C O 0,C O 0,C O 0,C O 0]
theorem yf7:∀j:Nat,j<8->yf6[j+1]?=T (C O 0)
 | 0,_|1,_|2,_|3,_|4,_|5,_|6,_|7,_=>rfl
 | j+8,hj=>absurd hj (by omega)
theorem yaY {b:Nat} {S:Pg.Fs} {F:Nat->Prop} (w:Q) (h:zh w b S F):
 ur M 46 #[un (T ⟨b,0,J⟩)] w fun e w'=>e=Z (C R S.takeN)/\∃F',zh w' b S.take F'/\But F w w'/\∀k,F' k->F k\/w.heap.size<=k:=by
 obtain⟨g,vb,h,ok,rfl⟩:=h;have HN:=yfR w h ok
 cases hp:S.pick with
 | none=>
   have e1:S.takeN= -1:=by simp[Pg.Fs.takeN,hp]
   have e2:S.picked=S/\S.take=S:=by
    unfold Pg.Fs.pick at hp
    cases hb:S.back.getLast? with
    | some k=>rw[hb]at hp;cases hp
    | none=>
      rw[hb]at hp
      by_cases hn:S.next<S.n
      ·simp[hn]at hp
      ·simp[Pg.Fs.picked,Pg.Fs.take,hb,hn]
   rw[e1]at HN ⊢;rw[e2.1]at HN;rw[e2.2];clear e1 e2 h
   go_enter Tryz.func46,Tryz.ntmps46
   go_wp2_with fail
   refine HN.mono ?_;rintro e w1 ⟨rfl,vb1,h1,Ha,nE⟩;have fin:yJ _:=zh.next h1 ok Ha (.inl nE);clear h1 Ha nE
   go_wp2
   go_ret
   exact⟨rfl,fin.out⟩
 | some k=>
   have e1:S.takeN=(k:Int):=by simp[Pg.Fs.takeN,hp]
   have hk:=(ok.ylN hp).1
   have e2:S.take={S.picked with used:=k::S.picked.used,word:=Pg.Fs.clear S.picked.word k}/\S.picked.n=S.n:=by
    unfold Pg.Fs.pick at hp
    cases hb:S.back.getLast? with
    | some j=>
      rw[hb]at hp;cases hp;simp[Pg.Fs.picked,Pg.Fs.take,hb]
    | none=>
      rw[hb]at hp
      by_cases hn:S.next<S.n
      ·simp[hn]at hp
       subst hp;simp[Pg.Fs.picked,Pg.Fs.take,hb,hn]
      ·simp[hn]at hp
   have hs:=ok.small
   have i0:(0:Int)<=(k:Int):=by omega
   have i1:(k:Int)<(S.n:Int):=by omega
   have i2:((k:Int)== -1)=N:=by simp
   rw[e1]at HN ⊢;clear e1 h
   go_enter Tryz.func46,Tryz.ntmps46
   go_wp2_with fail
   refine HN.mono ?_;rintro e w1 ⟨rfl,vb1,h1,Ha,nE⟩;have rT:=h1.c0;rw[e2.2]at rT;have nX:=h1.f0
   have aT:k<S.picked.n:=by rw[e2.2];exact hk
   have t0:=h1.ci k aT;have t1:=h1.cw k 0 aT (by omega);have t2:=h1.cw k 1 aT (by omega);have t3:=h1.cw k 2 aT (by omega);have t4:=h1.cw k 3 aT (by omega);have t5:=h1.cw k 4 aT (by omega);have t6:=h1.cw k 5 aT (by omega);have t7:=h1.cw k 6 aT (by omega);have t8:=h1.cw k 7 aT (by omega)
   have fin:yJ (∃F',zh (w1.setCells g (k*9) yf6) b S.take F'/\But (frF b g vb) w (w1.setCells g (k*9) yf6)/\∀k,F' k->frF b g vb k\/w.heap.size<=k):=by
    refine zh.next (vb':=vb1) ?_ ok.take (But.setCells g (.inr (.inr (.inl rfl))) _ _ _ Ha) (.inl nE);rw[e2.1];exact h1.fill aT yf6 rfl rfl yf7
   clear h1 Ha nE HN e2
   go_wp2
   go_ret
   exact⟨rfl,fin.out⟩
theorem yfL:(Tryz.prog.info? 3).map (fun i=>(i.zero,i.size,i.bytes))=T (T (C R 0),1,8):=by kernel_rfl
theorem yfK {b g:Nat} {vb:E} {S:Pg.Fs} (m:Nat) (w:Q) (h:xx w b g vb S) (ok:S.Ok) (hh:S.has (m:Int)=V):
 ur M 184 #[un (T ⟨b,0,J⟩),C R (m:Int)] w fun e w'=>e=Z (kO V)/\∃F',zh w' b (S.give (m:Int)) F'/\But (frF b g vb) w w'/\∀k,F' k->frF b g vb k\/w.heap.size<=k:=by
 have rT:=h.c0;have GL:=h.fb;have nX:=h.f0;have hs:=ok.small;have n0:=h.n0
 have hn:m<S.n:=by have:=ok.yh4 hh;omega
 have hi:=h.ci m hn
 have i0:(0:Int)<=(m:Int):=by omega
 have i1:(m:Int)<(S.n:Int):=by omega
 have hT:=jI (m:Int) w h ok;rw[hh]at hT
 have hl:∀j,decide (j ∈ S.used.erase m)=if j=m then N else S.inn j:=by
  intro j;have dZ:S.used.Nodup:=(yr.1 ok.nodup).1
  by_cases e:j=m
  ·simp[e,dZ.mem_erase_iff]
  ·simp[e,dZ.mem_erase_iff,Pg.Fs.inn]
 have hM:=h.mark hn N (S.used.erase m) hl
 have aR:S.back.length<=128:=by have:=ok.len;have:=ok.top;omega
 have Hq:=hM.own;have rO:=hM.c1;have rY:=hM.lb;obtain⟨q0,hq,rW,tJ,rX⟩:=info_parts yfL;have HM:yJ _:=hM;have HX:yJ _:=hh;clear hM h hl hh
 go_enter Tryz.func184,Tryz.ntmps184
 go_wp2_with (first
  | (go_at_call 203;refine hT.mono ?_;rintro e w' ⟨rfl,hw⟩;subst w')
  | (at_builtin;refine wpList_append_lies _ rfl _ _ 45 rfl 0 3 q0 (C R 0) 1 8 Tryz.underlying45 hq rW tJ rX rfl (by decide) _ _ _ rfl (Hq.alloc _) ⟨w.heap.size,0,J⟩ 1 1 [C R (m:Int)] rfl rfl ?c1 ?c2 (by decide) ?c3 ?c4 (yy _) (w.heap.size+1) (by simp) ?_))
 case c1=>
  intro j u hj
  match j,hj with
  | 0,hj=>simp at hj;subst hj;simp[Addr.add,go_sem]
 case c2=>intro u hu;simp at hu;subst hu;rfl
 case c3=>unfold maxLen;omega
 case c4=>omega
 intro g' cap w3 tC Hr hat Hf;have h1:=HM.out
 have hk:∀k,k=b\/k=g->w3.heap[k]?=(w.setCell ⟨g,m*9,J⟩ (kO N)).heap[k]?:=by
  intro k hk
  have gp:k<(w.setCell ⟨g,m*9,J⟩ (kO N)).heap.size:=by
   rcases hk with rfl|rfl
   ·exact h1.lb
   ·exact h1.l0
  have kL:T k≠vb.ownBlock:=by
   rcases hk with rfl|rfl
   ·exact fun e=>h1.vbb e.symm
   ·exact fun e=>h1.vb0 e.symm
  rw[Hr.block k (by simp at gp ⊢;omega) kL];exact yN _ _ _ gp
 have sN:(w.setCell ⟨g,m*9,J⟩ (kO N)).heap.size=w.heap.size:=by simp
 have Ho:∀k,k=b\/k=g->(ym (T ⟨g',0,J⟩) (S.back.length+1) cap).ownBlock≠T k:=by
  intro k hk e
  have e:g'=k:=by simpa[yB]using e
  subst e;rcases hat with hat|hat
  ·rcases hk with rfl|rfl
   ·exact h1.vbb hat
   ·exact h1.vb0 hat
  ·have:=h1.lb;have:=h1.l0
   omega
 have hG:=h1.grow (w':=w3) (l:=S.back++[m]) (by have:=Hr.size;simp at this ⊢;omega) hk (by simpa[ya3]using tC) (Ho g (.inr rfl)) (Ho b (.inl rfl));have kc:w3.cell? ⟨b,1,J⟩=T vb:=(I (hk b (.inl rfl))).trans h1.c1;have kf:w3.frozen? ⟨b,1,J⟩=N:=(K (hk b (.inl rfl))).trans (h1.fb 1)
 have fin:yJ (∃F',zh (w3.setCell ⟨b,1,J⟩ (ue (T ⟨g',0,J⟩) (S.back.length+1) cap)) b (S.give (m:Int)) F'/\But (frF b g vb) w (w3.setCell ⟨b,1,J⟩ (ue (T ⟨g',0,J⟩) (S.back.length+1) cap))/\∀k,F' k->frF b g vb k\/w.heap.size<=k):=by
  have e:S.give (m:Int)={{S with used:=S.used.erase m}with back:=S.back++[m]}:=by
   simp[Pg.Fs.give,HX.out]
  refine zh.next (vb':=ue (T ⟨g',0,J⟩) (S.back.length+1) cap) (by rw[e];exact hG) (ok.give _) ?_ ?_
  ·refine(((((But.refl _ w).setCell (.inr (.inr (.inl rfl))) _).alloc _).grown Hr fun k hk=> .inr (.inr (.inr hk)))).setCell (.inr (.inl rfl)) _
  ·rcases hat with hat|hat
   ·exact .inl hat.symm
   ·exact .inr ⟨g',rfl,by omega⟩
 clear hk Ho hG h1 tC Hr Hq rO hat Hf
 go_wp2
 go_ret
 exact⟨rfl,fin.out⟩
theorem ydQ {b:Nat} {S:Pg.Fs} {F:Nat->Prop} (k:Int) (w:Q) (h:zh w b S F):
 ur M 184 #[un (T ⟨b,0,J⟩),C R k] w fun e w'=>e=Z (kO (S.has k))/\∃F',zh w' b (S.give k) F'/\But F w w'/\∀k,F' k->F k\/w.heap.size<=k:=by
 obtain⟨g,vb,h,ok,rfl⟩:=h;cases hh:S.has k
 ·have hT:=jI k w h ok
  rw[hh]at hT
  have e:S.give k=S:=by simp[Pg.Fs.give,hh]
  rw[e];have fin:yJ _:=zh.next h ok (But.refl (frF b g vb) w) (.inl rfl);clear h
  go_enter Tryz.func184,Tryz.ntmps184
  go_wp2_with (go_at_call 203;refine hT.mono ?_;rintro e w' ⟨rfl,hw⟩;subst w')
  go_ret
  exact⟨rfl,fin.out⟩
 ·obtain⟨m,rfl⟩:=U (ok.yh4 hh).1
  exact yfK m w h ok hh
theorem jt {b:Nat} {S:Pg.Fs} {F:Nat->Prop} (k i:Int) (w:Q) (h:zh w b S F):
 ur M 171 #[un (T ⟨b,0,J⟩),C R k,C R i] w fun e w'=>e=Z (yQ #[C O (S.load k i),kO (S.at' k i)])/\w'=w:=by
 obtain⟨g,vb,h,ok,rfl⟩:=h;have HW:=ybC k i w h ok;cases hh:S.at' k i
 ·have e:S.load k i=0:=by simp[Pg.Fs.load,hh]
  rw[e];rw[hh]at HW;simp only[cond]at HW;clear h
  go_enter Tryz.func171,Tryz.ntmps171
  go_wp2_with (go_at_call 201;refine HW.mono ?_;rintro e w' ⟨rfl,hw⟩;subst w')
  go_ret2
  exact⟨rfl,rfl⟩
 ·have e:S.load k i=S.word k.toNat i.toNat:=by simp[Pg.Fs.load,hh]
  rw[e];rw[hh]at HW;simp only[cond]at HW;obtain⟨k0,k1,i0,i8,_⟩:=ok.ymd hh;have hc:=h.cw k.toNat i.toNat (by omega) (by omega);clear h;generalize S.word k.toNat i.toNat=v at*;generalize k.toNat*9+1+i.toNat=o at*
  go_enter Tryz.func171,Tryz.ntmps171
  go_wp2_with (go_at_call 201;refine HW.mono ?_;rintro e w' ⟨rfl,hw⟩;subst w')
  go_ret2
  exact⟨rfl,rfl⟩
theorem yaX {b:Nat} {S:Pg.Fs} {F:Nat->Prop} (k i:Int) (w:Q) (h:zh w b S F):
 ur M 171 #[un (T ⟨b,0,J⟩),C R k,C R i] w fun e w'=>e=Z (yQ #[C O (S.load k i),kO (S.at' k i)])/\Lw w w':=xy (jt k i w h)
theorem ycT {b:Nat} {S:Pg.Fs} {F:Nat->Prop} (k i v:Int) (h0:0<=v) (h1:v<18446744073709551616) (w:Q) (h:zh w b S F):
 ur M 169 #[un (T ⟨b,0,J⟩),C R k,C R i,C O v] w fun e w'=>e=Z (kO (S.at' k i))/\∃F',zh w' b (S.store k i v) F'/\But F w w'/\∀k,F' k->F k\/w.heap.size<=k:=by
 obtain⟨g,vb,h,ok,rfl⟩:=h;have HW:=ybC k i w h ok;cases hh:S.at' k i
 ·have e:S.store k i v=S:=by simp[Pg.Fs.store,hh]
  rw[e];rw[hh]at HW;simp only[cond]at HW;have fin:yJ _:=zh.next h ok (But.refl (frF b g vb) w) (.inl rfl);clear h
  go_enter Tryz.func169,Tryz.ntmps169
  go_wp2_with (go_at_call 201;refine HW.mono ?_;rintro e w' ⟨rfl,hw⟩;subst w')
  go_ret
  exact⟨rfl,fin.out⟩
 ·have e:S.store k i v={S with word:=Pg.Fs.put S.word k.toNat i.toNat v}:=by simp[Pg.Fs.store,hh]
  have ok':=ok.store k i h0 h1;rw[e]at ok' ⊢;rw[hh]at HW;simp only[cond]at HW;obtain⟨k0,k1,i0,i8,_⟩:=ok.ymd hh;have hc:=h.cw k.toNat i.toNat (by omega) (by omega);have hf:=h.f0 (k.toNat*9+1+i.toNat)
  have fin:yJ (∃F',zh (w.setCell ⟨g,k.toNat*9+1+i.toNat,J⟩ (C O v)) b {S with word:=Pg.Fs.put S.word k.toNat i.toNat v} F'/\But (frF b g vb) w (w.setCell ⟨g,k.toNat*9+1+i.toNat,J⟩ (C O v))/\∀k,F' k->frF b g vb k\/w.heap.size<=k):=
   zh.next (h.put (by omega) (by omega) v) ok' ((But.refl _ w).setCell (.inr (.inr (.inl rfl))) _) (.inl rfl)
  clear h;generalize k.toNat*9+1+i.toNat=o at*
  go_enter Tryz.func169,Tryz.ntmps169
  go_wp2_with (go_at_call 201;refine HW.mono ?_;rintro e w' ⟨rfl,hw⟩;subst w')
  go_ret
  exact⟨rfl,fin.out⟩
theorem ydR {b:Nat} {S:Pg.Fs} {F:Nat->Prop} (k i old v:Int) (h0:0<=v) (h1:v<18446744073709551616) (w:Q) (h:zh w b S F):
 ur M 206 #[un (T ⟨b,0,J⟩),C R k,C R i,C O old,C O v] w fun e w'=>e=Z (kO (S.swaps k i old))/\∃F',zh w' b (S.swap k i old v) F'/\But F w w'/\∀k,F' k->F k\/w.heap.size<=k:=by
 obtain⟨g,vb,h,ok,rfl⟩:=h;have HW:=ybC k i w h ok;cases hh:S.at' k i
 ·have es:S.swaps k i old=N:=by simp[Pg.Fs.swaps,hh]
  have e:S.swap k i old v=S:=by simp[Pg.Fs.swap,es]
  rw[e,es];rw[hh]at HW;simp only[cond]at HW;have fin:yJ _:=zh.next h ok (But.refl (frF b g vb) w) (.inl rfl);clear h
  go_enter Tryz.func206,Tryz.ntmps206
  go_wp2_with (go_at_call 201;refine HW.mono ?_;rintro e w' ⟨rfl,hw⟩;subst w')
  go_ret
  exact⟨rfl,fin.out⟩
 ·rw[hh]at HW
  simp only[cond]at HW;obtain⟨k0,k1,i0,i8,_⟩:=ok.ymd hh;have hc:=h.cw k.toNat i.toNat (by omega) (by omega);have hf:=h.f0 (k.toNat*9+1+i.toNat)
  by_cases hw:S.word k.toNat i.toNat=old
  ·have es:S.swaps k i old=V:=by simp[Pg.Fs.swaps,hh,hw]
   have e:S.swap k i old v={S with word:=Pg.Fs.put S.word k.toNat i.toNat v}:=by simp[Pg.Fs.swap,es]
   have ok':=ok.swap k i old h0 h1;rw[e]at ok' ⊢;rw[es]
   have fin:yJ (∃F',zh (w.setCell ⟨g,k.toNat*9+1+i.toNat,J⟩ (C O v)) b {S with word:=Pg.Fs.put S.word k.toNat i.toNat v} F'/\But (frF b g vb) w (w.setCell ⟨g,k.toNat*9+1+i.toNat,J⟩ (C O v))/\∀k,F' k->frF b g vb k\/w.heap.size<=k):=
    zh.next (h.put (by omega) (by omega) v) ok' ((But.refl _ w).setCell (.inr (.inr (.inl rfl))) _) (.inl rfl)
   clear h;rw[hw]at hc;generalize k.toNat*9+1+i.toNat=o at*;clear hw
   go_enter Tryz.func206,Tryz.ntmps206
   go_wp2_with (go_at_call 201;refine HW.mono ?_;rintro e w' ⟨rfl,hw⟩;subst w')
   go_ret
   exact⟨rfl,fin.out⟩
  ·have es:S.swaps k i old=N:=by simp[Pg.Fs.swaps,hw]
   have e:S.swap k i old v=S:=by simp[Pg.Fs.swap,es]
   rw[e,es];have fin:yJ _:=zh.next h ok (But.refl (frF b g vb) w) (.inl rfl);clear h
   have Ho:(S.word k.toNat i.toNat==old)=N:=by simpa using hw
   generalize S.word k.toNat i.toNat=x at*;generalize k.toNat*9+1+i.toNat=o at*;clear hw
   go_enter Tryz.func206,Tryz.ntmps206
   go_wp2_with (go_at_call 201;refine HW.mono ?_;rintro e w' ⟨rfl,hw⟩;subst w')
   go_ret
   exact⟨rfl,fin.out⟩
theorem yeP (n:Int) (hn:n<0\/128<n) (w:Q):
 ur M 45 #[C R n] w fun e w'=>e=Z (yQ #[un J,yP #[C R 1,C R (-1)]])/\Lw w w':=by
 by_cases h0:n<0
 ·go_enter Tryz.func45,Tryz.ntmps45
  go_wp2
  refine yK (v:=yQ #[un J,yP #[C R 1,C R (-1)]]) ?_ rfl ⟨rfl,?_⟩
  ·simp[results,Tryz.results45,go_sem]
  ·exact zA (zR w) _
 ·have h1:128<n:=by omega
  go_enter Tryz.func45,Tryz.ntmps45
  go_wp2
  refine yK (v:=yQ #[un J,yP #[C R 1,C R (-1)]]) ?_ rfl ⟨rfl,?_⟩
  ·simp[results,Tryz.results45,go_sem]
  ·exact zA (zR w) _
theorem yeV:(Tryz.prog.info? 166).map (fun i=>(i.zero,i.size,i.bytes))=T (T (yP #[kO N,C O 0,C O 0,C O 0,C O 0,C O 0,C O 0,C O 0,C O 0]),9,72):=by kernel_rfl
theorem yeO (n:Nat) (hn:n<=128) (w:Q):
 ur M 45 #[C R (n:Int)] w fun e w'=>∃b F,e=Z (yQ #[un (T ⟨b,0,J⟩),yP #[C R 0,C R 0]])/\zh w' b (Pg.Fs.new n) F/\Lw w w'/\∀k,F k->w.heap.size<=k:=by
 obtain⟨q0,hq,rW,tJ,rX⟩:=info_parts yeV
 have m0:∀w:Q,(Instr.makeSlice 161 (C R (n:Int)) (C R (n:Int))).run M w=_:=fun w=>
  run_make w 161 166 q0 _ Tryz.underlying161 hq rW R R n n (by omega) (yp _) (by rw[rX];omega) (by omega)
 rw[tJ]at m0;simp only[yv]at m0
 have d0:¬(n:Int)<0:=by omega
 have d1:¬(128:Int)<(n:Int):=by omega
 go_enter Tryz.func45,Tryz.ntmps45
 go_wp2
 refine yK (v:=yQ #[un (T ⟨w.heap.size+1+1,0,J⟩),yP #[C R 0,C R 0]]) ?_ rfl ?_
 ·simp[results,Tryz.results45,go_sem]
 refine⟨w.heap.size+1+1,rfl,frF (w.heap.size+1+1) (w.heap.size+1) (ue J 0 0),⟨w.heap.size+1,ue J 0 0,?_,Pg.Fs.yll n hn,rfl⟩,?_,?_⟩
 ·refine xx.made (t0:=166) (t2:=163) ?_ ?_ (by omega)
  ·exact(jl w _ _ _).2.2
  ·exact(jl w _ _ _).2.1
 ·exact zA (zA (zA (zR w) _) _) _
 ·intro k hk
  rcases hk with rfl|rfl|hk
  ·omega
  ·omega
  ·simp[yB]at hk
end
theorem zr (n e:Int) (w:Q):
 ur M 173 #[C R n,C R e] w fun r w'=>r=Z (kO (Pg.below n e))/\w'=w:=by
 by_cases h:0<=n
 ·have hd:decide (0<=n)=V:=by simpa using h
  go_enter Tryz.func173,Tryz.ntmps173
  go_wp2
  go_ret
  exact⟨by simp[Pg.below,hd],rfl⟩
 ·have hd:decide (0<=n)=N:=by simpa using h
  go_enter Tryz.func173,Tryz.ntmps173
  go_wp2
  go_ret
  exact⟨by simp[Pg.below,hd],rfl⟩
theorem xO (s:Int) (w:Q):
 ur M 153 #[C R s] w fun r w'=>r=Z (C R (Pg.span s))/\w'=w:=by
 go_enter Tryz.func153,Tryz.ntmps153
 go_wp2
 all_goals
  go_ret
  exact⟨by simp_all[Pg.span],rfl⟩
theorem xj (n:Int) (w:Q):
 ur M 172 #[C R n] w fun r w'=>r=Z (kO (Pg.below n 4096))/\w'=w:=by
 go_enter Tryz.func172,Tryz.ntmps172
 go_wp2_with (go_at_call 173;refine(zr _ _ _).mono ?_;rintro e w' ⟨rfl,rfl⟩)
 go_ret
 exact⟨rfl,rfl⟩
theorem zP (n:Int) (w:Q):
 ur M 174 #[C R n] w fun r w'=>r=Z (kO (Pg.below n 8))/\w'=w:=by
 go_enter Tryz.func174,Tryz.ntmps174
 go_wp2_with (go_at_call 173;refine(zr _ _ _).mono ?_;rintro e w' ⟨rfl,rfl⟩)
 go_ret
 exact⟨rfl,rfl⟩
theorem ydV (k:Int) (w:Q):
 ur M 175 #[C R k] w fun r w'=>r=Z (kO (Pg.isKind k))/\w'=w:=by
 by_cases h0:(k==0)=V
 ·go_enter Tryz.func175,Tryz.ntmps175
  go_wp2
  go_ret
  exact⟨by simp[Pg.isKind,h0],rfl⟩
 ·have h0:(k==0)=N:=by simpa using h0
  by_cases h1:(k==1)=V
  ·go_enter Tryz.func175,Tryz.ntmps175
   go_wp2
   go_ret
   exact⟨by simp[Pg.isKind,h1],rfl⟩
  ·have h1:(k==1)=N:=by simpa using h1
   go_enter Tryz.func175,Tryz.ntmps175
   go_wp2
   go_ret
   exact⟨by simp[Pg.isKind,h0,h1],rfl⟩
theorem yfz (p k:Int) (u:Bool) (w:Q):
 ur M 202 #[yP #[C R p,C R k,kO u]] w fun r w'=>r=Z (C R (Pg.asks k u:Int))/\Lw w w':=by
 cases u
 all_goals
  go_enter Tryz.func202,Tryz.ntmps202
  go_wp2
  all_goals
   go_ret
   exact⟨by simp_all[Pg.asks]<;>rfl,(uc _ _).alloc (kh _) _⟩
theorem je (p s f r q:Int) (hp:Pg.fits p) (hq:Pg.fits q) (w:Q):
 ur M 178 #[yP #[C R p,C R s,C R f,C R r],C R q] w fun e w'=>e=Z (kO (Pg.over p s q))/\Lw w w':=by
 have hs:=Pg.yh2 s
 by_cases h:p<=q
 ·have hd:decide (p<=q)=V:=by simpa using h
  go_enter Tryz.func178,Tryz.ntmps178
  go_wp2
  go_quiet ((go_at_call 153;exact Calls.quiet_of_same (xO _ _)))
  go_wp2
  go_ret
  exact⟨by rw[<-Pg.over_yes hp hq h];rfl,below_drewN ((uc _ _).alloc (kh _) _) _⟩
 ·have hd:decide (p<=q)=N:=by simpa using h
  go_enter Tryz.func178,Tryz.ntmps178
  go_wp2
  go_quiet ((go_at_call 153;exact Calls.quiet_of_same (xO _ _)))
  go_wp2
  go_ret
  exact⟨by rw[Pg.over_no hd];rfl,below_drewN ((uc _ _).alloc (kh _) _) _⟩
theorem zY (p s f r:Int) (w:Q):
 ur M 139 #[yP #[C R p,C R s,C R f,C R r]] w fun e w'=>e=Z (C R (Pg.check p s f r))/\Lw w w':=by
 have hs:=Pg.yh2 s
 by_cases h0:Pg.span s=0
 ·have hb:(Pg.span s==0)=V:=by simpa using h0
  have H:yJ (Pg.span s=0):=h0;clear h0
  go_enter Tryz.func139,Tryz.ntmps139
  go_wp2_with (first
   | (go_at_call 153;refine(xO _ _).mono ?_;rintro e w' ⟨rfl,rfl⟩)
   | (go_at_call 172;refine(xj _ _).mono ?_;rintro e w' ⟨rfl,rfl⟩)
   | (go_at_call 173;refine(zr _ _ _).mono ?_;rintro e w' ⟨rfl,rfl⟩)
   | (go_at_call 174;refine(zP _ _).mono ?_;rintro e w' ⟨rfl,rfl⟩))
  go_ret
  exact⟨by rw[Pg.yj8 H.out];rfl,(uc _ _).alloc (kh _) _⟩
 ·have hb:(Pg.span s==0)=N:=by simpa using h0
  have H:yJ (Pg.span s≠0):=h0
  have h1:1<=Pg.span s:=by omega
  clear h0
  by_cases hr:(!Pg.below p 4096|| !Pg.below f 1048576|| !Pg.below r 8)=V
  ·have HR:yJ ((!Pg.below p 4096|| !Pg.below f 1048576|| !Pg.below r 8)=V):=hr
   clear hr;cases b1:Pg.below p 4096
   ·go_enter Tryz.func139,Tryz.ntmps139
    go_wp2_with (first
     | (go_at_call 153;refine(xO _ _).mono ?_;rintro e w' ⟨rfl,rfl⟩)
     | (go_at_call 172;refine(xj _ _).mono ?_;rintro e w' ⟨rfl,rfl⟩)
     | (go_at_call 173;refine(zr _ _ _).mono ?_;rintro e w' ⟨rfl,rfl⟩)
     | (go_at_call 174;refine(zP _ _).mono ?_;rintro e w' ⟨rfl,rfl⟩))
    go_ret
    exact⟨by rw[Pg.yiE H.out HR.out];rfl,(uc _ _).alloc (kh _) _⟩
   ·cases b2:Pg.below f 1048576
    ·go_enter Tryz.func139,Tryz.ntmps139
     go_wp2_with (first
      | (go_at_call 153;refine(xO _ _).mono ?_;rintro e w' ⟨rfl,rfl⟩)
      | (go_at_call 172;refine(xj _ _).mono ?_;rintro e w' ⟨rfl,rfl⟩)
      | (go_at_call 173;refine(zr _ _ _).mono ?_;rintro e w' ⟨rfl,rfl⟩)
      | (go_at_call 174;refine(zP _ _).mono ?_;rintro e w' ⟨rfl,rfl⟩))
     go_ret
     exact⟨by rw[Pg.yiE H.out HR.out];rfl,(uc _ _).alloc (kh _) _⟩
    ·cases b3:Pg.below r 8
     ·go_enter Tryz.func139,Tryz.ntmps139
      go_wp2_with (first
       | (go_at_call 153;refine(xO _ _).mono ?_;rintro e w' ⟨rfl,rfl⟩)
       | (go_at_call 172;refine(xj _ _).mono ?_;rintro e w' ⟨rfl,rfl⟩)
       | (go_at_call 173;refine(zr _ _ _).mono ?_;rintro e w' ⟨rfl,rfl⟩)
       | (go_at_call 174;refine(zP _ _).mono ?_;rintro e w' ⟨rfl,rfl⟩))
      go_ret
      exact⟨by rw[Pg.yiE H.out HR.out];rfl,(uc _ _).alloc (kh _) _⟩
     ·exact absurd HR.out (by simp[b1,b2,b3])
  ·have b1:Pg.below p 4096=V:=by cases h:Pg.below p 4096<;>simp_all
   have b2:Pg.below f 1048576=V:=by cases h:Pg.below f 1048576<;>simp_all
   have b3:Pg.below r 8=V:=by cases h:Pg.below r 8<;>simp_all
   clear hr;have c1:=Pg.zB.1 b1;have c2:=Pg.zB.1 b2;have HA:yJ (Pg.check p s f r=if p%Pg.span s=0/\f%Pg.span s=0 then 0 else 3):=Pg.yin H.out b1 b2 b3
   by_cases d1:p%Pg.span s=0
   ·have e1:(p%Pg.span s !=0)=N:=by simp[d1]
    have D1:yJ (p%Pg.span s=0):=d1;clear d1
    by_cases d2:f%Pg.span s=0
    ·have e2:(f%Pg.span s !=0)=N:=by simp[d2]
     have D2:yJ (f%Pg.span s=0):=d2;clear d2
     go_enter Tryz.func139,Tryz.ntmps139
     go_wp2_with (first
      | (go_at_call 153;refine(xO _ _).mono ?_;rintro e w' ⟨rfl,rfl⟩)
      | (go_at_call 172;refine(xj _ _).mono ?_;rintro e w' ⟨rfl,rfl⟩)
      | (go_at_call 173;refine(zr _ _ _).mono ?_;rintro e w' ⟨rfl,rfl⟩)
      | (go_at_call 174;refine(zP _ _).mono ?_;rintro e w' ⟨rfl,rfl⟩))
     go_ret
     exact⟨by rw[HA.out,iP ⟨D1.out,D2.out⟩];rfl,(uc _ _).alloc (kh _) _⟩
    ·have e2:(f%Pg.span s !=0)=V:=by simp[d2]
     have D2:yJ (¬f%Pg.span s=0):=d2;clear d2
     go_enter Tryz.func139,Tryz.ntmps139
     go_wp2_with (first
      | (go_at_call 153;refine(xO _ _).mono ?_;rintro e w' ⟨rfl,rfl⟩)
      | (go_at_call 172;refine(xj _ _).mono ?_;rintro e w' ⟨rfl,rfl⟩)
      | (go_at_call 173;refine(zr _ _ _).mono ?_;rintro e w' ⟨rfl,rfl⟩)
      | (go_at_call 174;refine(zP _ _).mono ?_;rintro e w' ⟨rfl,rfl⟩))
     go_ret
     exact⟨by rw[HA.out,iN (fun h=>D2.out h.2)];rfl,(uc _ _).alloc (kh _) _⟩
   ·have e1:(p%Pg.span s !=0)=V:=by simp[d1]
    have D1:yJ (¬p%Pg.span s=0):=d1;clear d1
    go_enter Tryz.func139,Tryz.ntmps139
    go_wp2_with (first
     | (go_at_call 153;refine(xO _ _).mono ?_;rintro e w' ⟨rfl,rfl⟩)
     | (go_at_call 172;refine(xj _ _).mono ?_;rintro e w' ⟨rfl,rfl⟩)
     | (go_at_call 173;refine(zr _ _ _).mono ?_;rintro e w' ⟨rfl,rfl⟩)
     | (go_at_call 174;refine(zP _ _).mono ?_;rintro e w' ⟨rfl,rfl⟩))
    go_ret
    exact⟨by rw[HA.out,iN (fun h=>D1.out h.1)];rfl,(uc _ _).alloc (kh _) _⟩
theorem ybu (p s f r p' s' f' r':Int) (hp:Pg.fits p) (hq:Pg.fits p') (w:Q):
 ur M 212 #[yP #[C R p,C R s,C R f,C R r],yP #[C R p',C R s',C R f',C R r']] w fun e w'=>e=Z (kO (Pg.meet p s p' s'))/\Lw w w':=by
 cases h:Pg.over p s p'
 ·have HM:yJ (Pg.meet p s p' s'=Pg.over p' s' p):=by simp[yJ,Pg.meet,h]
  go_enter Tryz.func212,Tryz.ntmps212
  go_wp2_with fail
  refine(je _ _ _ _ _ hp hq _).mono ?_;rintro e w1 ⟨rfl,Ha⟩;obtain⟨rO,si⟩:=xV Ha
  go_wp2_with fail
  refine(je _ _ _ _ _ hq hp _).mono ?_;rintro e w2 ⟨rfl,Hd⟩
  go_wp2
  go_ret
  exact⟨by rw[HM.out];rfl,zT (zT (zA (zA (zR _) _) _) Ha) Hd⟩
 ·have HM:yJ (Pg.meet p s p' s'=V):=by simp[yJ,Pg.meet,h]
  go_enter Tryz.func212,Tryz.ntmps212
  go_wp2_with fail
  refine(je _ _ _ _ _ hp hq _).mono ?_;rintro e w1 ⟨rfl,Ha⟩;obtain⟨rO,si⟩:=xV Ha
  go_wp2
  go_ret
  exact⟨by rw[HM.out];rfl,zT (zA (zA (zR _) _) _) Ha⟩
theorem ybt (r p k:Int) (u:Bool) (w:Q):
 ur M 179 #[C R r,yP #[C R p,C R k,kO u]] w fun e w'=>e=Z (kO (Pg.may r k u))/\Lw w w':=by
 have HM:yJ _:=Pg.may_eq r k u
 go_enter Tryz.func179,Tryz.ntmps179
 go_wp2_with fail
 refine(yfz _ _ _ _).mono ?_;rintro e w1 ⟨rfl,Ha⟩;generalize ha:Pg.asks k u=a at*;have HA:=ha;clear ha
 go_wp2
 go_ret
 exact⟨by rw[<-HM.out];rfl,zT (zA (zR _) _) Ha⟩
theorem zN (p k:Int) (u:Bool) (w:Q):
 ur M 140 #[yP #[C R p,C R k,kO u]] w fun e w'=>e=Z (C R (Pg.zK p k))/\Lw w w':=by
 cases h1:Pg.isKind k<;>cases h2:Pg.below p 4096
 all_goals
  go_enter Tryz.func140,Tryz.ntmps140
  go_wp2_with (first
   | (go_at_call 175;refine(ydV _ _).mono ?_;rintro e w' ⟨rfl,rfl⟩)
   | (go_at_call 172;refine(xj _ _).mono ?_;rintro e w' ⟨rfl,rfl⟩))
  go_ret
  exact⟨by simp[Pg.zK,h1,h2],(uc _ _).alloc (kh _) _⟩
theorem ycy (p s f r q k:Int) (u:Bool) (w:Q):
 ur M 143 #[yP #[C R p,C R s,C R f,C R r],yP #[C R q,C R k,kO u]] w fun e w'=>
  e=Z (if Pg.may r k u=V then yP #[C R 0,C R (wrap64 (f+wrap64 (q-p))),C R r]else yP #[C R 2,C R 0,C R 0])/\Lw w w':=by
 cases h:Pg.may r k u
 ·go_enter Tryz.func143,Tryz.ntmps143
  go_wp2_with fail
  refine(ybt _ _ _ _ _).mono ?_;rintro e w1 ⟨rfl,Ha⟩;obtain⟨rO,si⟩:=xV Ha
  have hz:w.heap.size+2<w1.heap.size:=by have:=Ha.size;simp at this;omega
  go_wp2
  refine yK (v:=yP #[C R 2,C R 0,C R 0]) ?_ rfl ⟨by simp,?_⟩
  ·simp[results,Tryz.results143,go_sem,rO]
  ·exact(((zT (zA (zA (zA (zR _) _) _) _) Ha).setCell (by simp;omega) _).setCell (by simp;omega) _).setCell (by simp;omega) _
 ·go_enter Tryz.func143,Tryz.ntmps143
  go_wp2_with fail
  refine(ybt _ _ _ _ _).mono ?_;rintro e w1 ⟨rfl,Ha⟩;obtain⟨rO,si⟩:=xV Ha
  have hz:w.heap.size+2<w1.heap.size:=by have:=Ha.size;simp at this;omega
  go_wp2
  refine yK (v:=yP #[C R 0,C R (wrap64 (f+wrap64 (q-p))),C R r]) ?_ rfl ⟨by simp,?_⟩
  ·simp[results,Tryz.results143,go_sem,rO]
  ·exact(((zT (zA (zA (zA (zR _) _) _) _) Ha).setCell (by simp;omega) _).setCell (by simp;omega) _).setCell (by simp;omega) _
theorem jO (p s f r q k:Int) (u:Bool) (w:Q):
 ur M 143 #[yP #[C R p,C R s,C R f,C R r],yP #[C R q,C R k,kO u]] w fun e w'=>
  e=Z (yP #[C R (Pg.aEnd r k u),C R (Pg.yie p f r q k u),C R (Pg.yh1 r k u)])/\Lw w w':=by
 refine(ycy p s f r q k u w).mono ?_;rintro e w' ⟨rfl,hb⟩;refine⟨?_,hb⟩;unfold Pg.aEnd Pg.yie Pg.yh1
 split<;>rfl
theorem vO (p l:Int) (w:Q):
 ur M 196 #[C R p,C R l] w fun e w'=>e=Z (C R (Pg.index p l))/\w'=w:=by
 cases h1:Pg.below p 4096
 ·have HI:yJ (Pg.index p l= -1):=by simp[yJ,Pg.index,h1]
  go_enter Tryz.func196,Tryz.ntmps196
  go_wp2_with (first
   | (go_at_call 173;refine(zr _ _ _).mono ?_;rintro e w' ⟨rfl,rfl⟩)
   | (go_at_call 172;refine(xj _ _).mono ?_;rintro e w' ⟨rfl,rfl⟩))
  go_ret
  exact⟨by rw[HI.out];rfl,rfl⟩
 ·cases h2:Pg.below l 4
  ·have HI:yJ (Pg.index p l= -1):=by simp[yJ,Pg.index,h2]
   go_enter Tryz.func196,Tryz.ntmps196
   go_wp2_with (first
    | (go_at_call 173;refine(zr _ _ _).mono ?_;rintro e w' ⟨rfl,rfl⟩)
    | (go_at_call 172;refine(xj _ _).mono ?_;rintro e w' ⟨rfl,rfl⟩))
   go_ret
   exact⟨by rw[HI.out];rfl,rfl⟩
  ·have HI:yJ (Pg.index p l=p/8^l.toNat%8):=by simp[yJ,Pg.index,h1,h2]
   have c1:=Pg.zB.1 h1;have c2:=Pg.zB.1 h2
   go_enter Tryz.func196,Tryz.ntmps196
   go_wp2_with (first
    | (go_at_call 173;refine(zr _ _ _).mono ?_;rintro e w' ⟨rfl,rfl⟩)
    | (go_at_call 172;refine(xj _ _).mono ?_;rintro e w' ⟨rfl,rfl⟩))
   go_loop [0,14] (fun a i=>∃(k:Nat) (q:Int),(k:Int)<=l/\i=C R k/\a=C R q/\0<=q/\q<4096/\yJ (q=p/8^k)) (fun _ i=>(l-intOf i).toNat)
   case atStart=>exact⟨0,p,by omega,rfl,rfl,by omega,by omega,by simp[yJ]⟩
   case round=>
    obtain⟨k,q,hk,rfl,rfl,q0,q1,HQ⟩:=hrel
    by_cases Hf:(k:Int)<l
    ·go_wp2
     go_round
     case rel=>exact⟨k+1,q/8,by omega,by go_num,rfl,by omega,by omega,by simp only[yJ];rw[HQ.out,yS (Int.pow_nonneg (by decide)),<-yq]⟩
     case measure=>simp[intOf];omega
    ·go_wp2
     go_ret
     have gp:l.toNat=k:=by omega
     exact⟨by rw[HI.out,gp,<-HQ.out];rfl,rfl⟩
namespace Pg
def yhN (t l:Bool) (r:Int) (u d:Bool) (f lv:Int):Int:=
 if lv<0\/3<lv then 1
 else if t=N then(if l=V\/r≠0\/u=V\/d=V\/f≠0 then 7 else 0)
 else if r<0\/7<r\/f<0\/1048576<=f then 1
 else if (l=V/\lv=3)\/(l=N/\lv=0)then 2
 else if l=V then(if f%span lv=0 then 0 else 3)
 else if r≠7\/u=V\/d=V then 7 else 0
def b01 (b:Bool):Int:=if b=V then 1 else 0
def yiY (t l:Bool) (r:Int) (u d:Bool) (f lv:Int):Int:=
 if t=V then f*4096+r*2+1+32*b01 u+64*b01 d+(if l=V/\lv≠0 then 128 else 0)else 0
def enc (t l:Bool) (r:Int) (u d:Bool) (f lv:Int):Int:=if yhN t l r u d f lv=0 then yiY t l r u d f lv else 0
def wBad (w lv:Int):Bool:=decide (w≠0/\¬(w%2=1/\w/16%2=0/\w/256%16=0/\w<4294967296/\¬(lv=0/\w/128%2=1)))
def yir (w lv:Int):Bool:=decide (lv=0)||decide (w/128%2=1)
def yio (w:Int):Bool:=decide (w/32%2=1)
def yh3 (w:Int):Bool:=decide (w/64%2=1)
def yhV (w lv:Int):Int:=
 if lv<0\/3<lv then 1 else if wBad w lv=V then 7 else if w=0 then 0
 else yhN V (yir w lv) (w/2%8) (yio w) (yh3 w) (w/4096) lv
def yhZ (w lv:Int):Bool:=decide (yhV w lv=0)&&decide (w≠0)
def xL (w lv:Int):Bool:=yhZ w lv&&yir w lv
def xR (w lv:Int):Int:=if yhZ w lv=V then w/2%8 else 0
def xU (w lv:Int):Bool:=yhZ w lv&&yio w
def xD (w lv:Int):Bool:=yhZ w lv&&yh3 w
def xF (w lv:Int):Int:=if yhZ w lv=V then w/4096 else 0
def lOk (t l:Bool) (r:Int) (u d:Bool) (f lv at':Int):Bool:=decide (yhN t l r u d f lv=0)&&l&&below at' 4096
def ykn (t l:Bool) (r:Int) (u d:Bool) (f lv at':Int):Int:=if lOk t l r u d f lv at'=V then at'-at'%span lv else 0
def ykX (t l:Bool) (r:Int) (u d:Bool) (f lv at':Int):Int:=if lOk t l r u d f lv at'=V then lv else 0
def yjR (t l:Bool) (r:Int) (u d:Bool) (f lv at':Int):Int:=if lOk t l r u d f lv at'=V then f else 0
def yiU (t l:Bool) (r:Int) (u d:Bool) (f lv at':Int):Int:=if lOk t l r u d f lv at'=V then r else 0
def bit (w:Int) (k:Nat):Bool:=decide (w/2^k%2=1)
def known (k:Nat):Bool:=decide (k<=3)||(decide (5<=k)&&decide (k<=7))||(decide (12<=k)&&decide (k<=31))
def yif (w lv:Int) (k:Nat):Bool:=bit w k&&(!known k|| !bit w 0||(decide (k=7)&&decide (lv=0)))
theorem yi7:∀(n:Nat) (v:Int),0<=v->v<2^n->(∀j,j<n->v/2^j%2=0)->v=0
 | 0,v,h0,h1,_=>by simp at h1;omega
 | n+1,v,h0,h1,h=>by
   have e0:v%2=0:=by simpa using h 0 (by omega)
   have h2:v/2=0:=by
    refine yi7 n (v/2) (by omega) ?_ ?_
    ·rw[yq]at h1;omega
    ·intro j hj
     have:=h (j+1) (by omega);rw[yq,Int.mul_comm,<-yS (by omega)]at this;exact this
   omega
theorem ylB {w:Int} {k:Nat} (h:bit w k=N):w/2^k%2=0:=by
 simp[bit]at h;omega
theorem good_of_bits {w lv:Int} (h0:0<=w) (h1:w<18446744073709551616) (h:∀k,k<64->yif w lv k=N):wBad w lv=N:=by
 cases hb:bit w 0
 ·have hz:w=0:=by
   refine yi7 64 w h0 (by simpa using h1) ?_;intro j hj;refine ylB ?_;have:=h j hj;cases hj:bit w j
   ·rfl
   ·simp[yif,hj,hb]at this
  simp[wBad,hz]
 ·have hu:∀k,k<64->known k=N->w/2^k%2=0:=by
   intro k hk mg;refine ylB ?_;have:=h k hk;cases hj:bit w k
   ·rfl
   ·simp[yif,hj,mg]at this
  have e0:w%2=1:=by simpa[bit]using hb
  have e4:w/16%2=0:=by simpa using hu 4 (by omega) (by decide)
  have e8:w/256%16=0:=by
   have a8:w/256%2=0:=by simpa using hu 8 (by omega) (by decide)
   have a9:w/512%2=0:=by simpa using hu 9 (by omega) (by decide)
   have a10:w/1024%2=0:=by simpa using hu 10 (by omega) (by decide)
   have a11:w/2048%2=0:=by simpa using hu 11 (by omega) (by decide)
   omega
  have e32:w<4294967296:=by
   have:w/4294967296=0:=by
    refine yi7 32 _ (by omega) (by simp;omega) ?_;intro j hj;have:=hu (32+j) (by omega) (by simp[known];omega);rw[yw,<-yS (by decide)]at this
    simpa using this
   omega
  have e7:¬(lv=0/\w/128%2=1):=by
   rintro ⟨hl,h7⟩;have:=h 7 (by omega)
   have rZ:bit w 7=V:=by simpa[bit]using h7
   simp[yif,rZ,hl]at this
  simp[wBad,e0,e4,e8,e32];intro _ hl;exact fun h7=>absurd ⟨hl,h7⟩ e7
theorem bits_of_good {w lv:Int} (h0:0<=w) {k:Nat} (hk:k<64) (h:yif w lv k=V):wBad w lv=V:=by
 simp only[yif,yZ,yW,yo]at h;obtain⟨hb,hc⟩:=h
 have hb':w/2^k%2=1:=by simpa[bit]using hb
 have hw:w≠0:=by
  intro e;subst e;simp at hb'
 simp only[wBad,decide_eq_true_eq];refine⟨hw,?_⟩;rintro ⟨e0,e4,e8,e32,e7⟩;rcases hc with (hc|hc)|hc
 ·have:k=4\/k=8\/k=9\/k=10\/k=11\/32<=k:=by simp[known]at hc;omega
  rcases this with e|e|e|e|e|e
  ·subst e;simp at hb';omega
  ·subst e;simp at hb';omega
  ·subst e;simp at hb';omega
  ·subst e;simp at hb';omega
  ·subst e;simp at hb';omega
  ·obtain⟨j,rfl⟩:∃j,k=32+j:=⟨k-32,by omega⟩
   rw[yw,<-yS (by decide)]at hb'
   have:w/2^32=0:=by simp;omega
   rw[this]at hb';simp at hb'
 ·simp[bit]at hc;omega
 ·simp at hc
  obtain⟨rfl,hl⟩:=hc;exact e7 ⟨hl,by simpa using hb'⟩
theorem bitBad_off {w lv:Int} {k:Nat} (h:bit w k=N):yif w lv k=N:=by simp[yif,h]
theorem yky {w lv:Int} {k:Nat} (hk:known k=V) (h0:bit w 0=V) (h7:¬(k:Int)=7\/¬lv=0):yif w lv k=N:=by
 have:¬(k=7/\lv=0):=by omega
 simp[yif,hk,h0];intro _ h;omega
theorem bitBad_unknown {w lv:Int} {k:Nat} (h:bit w k=V) (hk:known k=N):yif w lv k=V:=by simp[yif,h,hk]
theorem bitBad_zero {w lv:Int} {k:Nat} (h:bit w k=V) (h0:bit w 0=N):yif w lv k=V:=by simp[yif,h,h0]
theorem bitBad_seven {w lv:Int} {k:Nat} (h:bit w k=V) (h7:(k:Int)=7) (hl:lv=0):yif w lv k=V:=by
 have:k=7:=by omega
 subst this;simp[yif,h,hl]
theorem yh0 {t l:Bool} {r:Int} {u d:Bool} {f lv:Int} (h:yhN t l r u d f lv=0):
 (0<=lv/\lv<=3)/\((t=N/\l=N/\r=0/\u=N/\d=N/\f=0)\/
   (t=V/\0<=r/\r<=7/\0<=f/\f<1048576/\((l=V/\lv<=2/\f%span lv=0)\/(l=N/\1<=lv/\r=7/\u=N/\d=N)))):=by
 unfold yhN at h;split at h
 ·omega
 ·rename_i h1
  refine⟨by omega,?_⟩;split at h
  ·rename_i ht
   left;split at h
   ·omega
   ·rename_i h2
    cases l<;>cases u<;>cases d<;>simp_all
  ·rename_i ht
   right
   have ht:t=V:=by simpa using ht
   split at h
   ·omega
   ·rename_i h3
    split at h
    ·omega
    ·rename_i h4
     refine⟨ht,by omega,by omega,by omega,by omega,?_⟩;split at h
     ·rename_i h5
      left;split at h
      ·rename_i h6
       refine⟨h5,?_,h6⟩;subst h5;simp at h4;omega
      ·omega
     ·rename_i h5
      have h5:l=N:=by simpa using h5
      right;split at h
      ·omega
      ·rename_i h6
       subst h5;simp at h4;refine⟨rfl,by omega,?_⟩
       cases u<;>cases d<;>simp_all
theorem yjx {r:Int} {u d:Bool} {f lv:Int} (hl:0<=lv) (su:lv<=2) (r0:0<=r) (r1:r<=7) (f0:0<=f) (f1:f<1048576) (hs:f%span lv=0):yhN V V r u d f lv=0:=by
 unfold yhN;rw[iN (by omega),iN (by decide),iN (by omega),iN (by simp;omega),iP rfl,iP hs]
theorem fault_table {f lv:Int} (hl:1<=lv) (su:lv<=3) (f0:0<=f) (f1:f<1048576):yhN V N 7 N N f lv=0:=by
 unfold yhN;rw[iN (by omega),iN (by decide),iN (by omega),iN (by simp;omega),iN (by decide),iN (by decide)]
theorem yj9 {lv:Int} (hl:0<=lv) (su:lv<=3):yhN N N 0 N N 0 lv=0:=by
 unfold yhN;rw[iN (by omega),iP rfl,iN (by decide)]
theorem yi9 {t l:Bool} {r:Int} {u d:Bool} {f lv:Int} (h:yhN t l r u d f lv=0):enc t l r u d f lv=yiY t l r u d f lv:=by simp[enc,h]
theorem yiN (b:Bool):(b=V/\b01 b=1)\/(b=N/\b01 b=0):=by cases b<;>simp[b01]
theorem yji {t l:Bool} {r:Int} {u d:Bool} {f lv:Int} (h:yhN t l r u d f lv=0):
 0<=enc t l r u d f lv/\enc t l r u d f lv<18446744073709551616/\yhV (enc t l r u d f lv) lv=0/\(enc t l r u d f lv=0 ↔ t=N)/\
 yhZ (enc t l r u d f lv) lv=t/\xL (enc t l r u d f lv) lv=l/\xR (enc t l r u d f lv) lv=r/\xU (enc t l r u d f lv) lv=u/\xD (enc t l r u d f lv) lv=d/\xF (enc t l r u d f lv) lv=f:=by
 rw[yi9 h];obtain⟨⟨l0,l3⟩,hc⟩:=yh0 h
 have rQ:¬(lv<0\/3<lv):=by omega
 rcases hc with ⟨rfl,rfl,rfl,rfl,rfl,rfl⟩|⟨rfl,r0,r1,f0,f1,hc⟩
 ·have hw:yiY N N 0 N N 0 lv=0:=rfl
  have hd:yhV 0 lv=0:=by simp[yhV,rQ,wBad]
  rw[hw];refine⟨by omega,by omega,hd,by simp,?_⟩;simp[xL,xR,xU,xD,xF,yhZ]
 ·have hw:yiY V l r u d f lv=f*4096+r*2+1+32*b01 u+64*b01 d+(if l=V/\lv≠0 then 128 else 0):=by simp[yiY]
  generalize hm:(if l=V/\lv≠0 then(128:Int)else 0)=m at hw
  have sD:(m=128/\l=V/\lv≠0)\/(m=0/\¬(l=V/\lv≠0)):=by
   split at hm
   ·rename_i h';exact .inl ⟨hm.symm,h'⟩
   ·rename_i h';exact .inr ⟨hm.symm,h'⟩
  have hu:=yiN u;have hd:=yiN d;generalize yiY V l r u d f lv=w at*
  have bu:0<=b01 u/\b01 u<=1:=by omega
  have bd:0<=b01 d/\b01 d<=1:=by omega
  have m0:0<=m/\m<=128:=by omega
  have e1:w/2%8=r:=by omega
  have e4:w/4096=f:=by omega
  have eU:yio w=u:=by
   rcases hu with ⟨h1,h2⟩|⟨h1,h2⟩<;>rw[h1]<;>simp[yio]<;>omega
  have eD:yh3 w=d:=by
   rcases hd with ⟨h1,h2⟩|⟨h1,h2⟩<;>rw[h1]<;>simp[yh3]<;>omega
  have eL:yir w lv=l:=by
   by_cases hz:lv=0
   ·have:l=V:=by
     rcases hc with ⟨h1,_⟩|⟨_,h2,_⟩
     ·exact h1
     ·omega
    simp[yir,hz,this]
   ·rcases sD with ⟨h1,h2,_⟩|⟨h1,h2⟩
    ·rw[h2];simp[yir,hz];omega
    ·have:l=N:=by
      cases l
      ·rfl
      ·exact absurd ⟨rfl,hz⟩ h2
     rw[this];simp[yir,hz];omega
  have Dt:w≠0:=by omega
  have fT:wBad w lv=N:=by
   simp only[wBad,decide_eq_false_iff_not];intro hh;refine hh.2 ⟨by omega,by omega,by omega,by omega,?_⟩;rintro ⟨hz,h7⟩
   have:m=0:=by
    rcases sD with ⟨_,_,h3⟩|⟨h1,_⟩
    ·exact absurd hz h3
    ·exact h1
   omega
  have Hz:yhV w lv=0:=by
   simp only[yhV,rQ,if_false,fT,yM,Dt];rw[eL,e1,eU,eD,e4];exact h
  have hg:yhZ w lv=V:=by simp[yhZ,Hz,Dt]
  refine⟨by omega,by omega,Hz,by simp[Dt],hg,?_,?_,?_,?_,?_⟩
  ·simp[xL,hg,eL]
  ·simp[xR,hg,e1]
  ·simp[xU,hg,eU]
  ·simp[xD,hg,eD]
  ·simp[xF,hg,e4]
theorem ykR {w lv:Int} (w0:0<=w) (h:yhV w lv=0):
 yhN (yhZ w lv) (xL w lv) (xR w lv) (xU w lv) (xD w lv) (xF w lv) lv=0/\enc (yhZ w lv) (xL w lv) (xR w lv) (xU w lv) (xD w lv) (xF w lv) lv=w:=by
 by_cases hz:w=0
 ·subst hz
  have hg:yhZ 0 lv=N:=by simp[yhZ]
  have rQ:¬(lv<0\/3<lv):=by
   intro hl;simp[yhV,hl]at h
  have:yhN N N 0 N N 0 lv=0:=yj9 (by omega) (by omega)
  have e:xL 0 lv=N/\xR 0 lv=0/\xU 0 lv=N/\xD 0 lv=N/\xF 0 lv=0:=by simp[xL,xR,xU,xD,xF,hg]
  rw[hg,e.1,e.2.1,e.2.2.1,e.2.2.2.1,e.2.2.2.2];refine⟨this,?_⟩;rw[yi9 this];rfl
 ·have hg:yhZ w lv=V:=by simp[yhZ,h,hz]
  have rQ:¬(lv<0\/3<lv):=by
   intro hl;simp[yhV,hl]at h
  have fT:wBad w lv=N:=by
   cases hb:wBad w lv
   ·rfl
   ·simp[yhV,rQ,hb]at h
  have hf:yhN V (yir w lv) (w/2%8) (yio w) (yh3 w) (w/4096) lv=0:=by
   simp only[yhV,rQ,if_false,fT,yM,hz]at h;exact h
  have e:xL w lv=yir w lv/\xR w lv=w/2%8/\xU w lv=yio w/\xD w lv=yh3 w/\xF w lv=w/4096:=by simp[xL,xR,xU,xD,xF,hg]
  rw[hg,e.1,e.2.1,e.2.2.1,e.2.2.2.1,e.2.2.2.2];refine⟨hf,?_⟩;rw[yi9 hf];have Hd:=Classical.not_not.1 (fun hn=>of_decide_eq_false fT ⟨hz,hn⟩);obtain⟨b0,b4,b8,b32,b7⟩:=Hd
  have hu:b01 (yio w)=w/32%2:=by
   unfold b01 yio
   split<;>simp_all<;>omega
  have hd:b01 (yh3 w)=w/64%2:=by
   unfold b01 yh3
   split<;>simp_all<;>omega
  have hl:(if yir w lv=V/\lv≠0 then(128:Int)else 0)=128*(w/128%2):=by
   by_cases h7:w/128%2=1
   ·have mJ:lv≠0:=fun e=>b7 ⟨e,h7⟩
    rw[iP ⟨by simp[yir,h7],mJ⟩];omega
   ·rw[iN]
    ·omega
    ·rintro ⟨h1,h2⟩
     simp[yir,h2,h7]at h1
  simp only[yiY,if_true,hu,hd,hl];omega
theorem kint (k:Nat):
 (decide ((k:Int)<=3)=V/\known k=V)\/
 (decide ((k:Int)<=3)=N/\decide (5<=(k:Int))=N/\decide (12<=(k:Int))=N/\known k=N)\/
 (decide ((k:Int)<=3)=N/\decide (5<=(k:Int))=V/\decide ((k:Int)<=7)=V/\known k=V)\/
 (decide ((k:Int)<=3)=N/\decide (5<=(k:Int))=V/\decide ((k:Int)<=7)=N/\decide (12<=(k:Int))=N/\known k=N)\/
 (decide ((k:Int)<=3)=N/\decide (5<=(k:Int))=V/\decide ((k:Int)<=7)=N/\decide (12<=(k:Int))=V/\decide ((k:Int)<=31)=V/\known k=V)\/
 (decide ((k:Int)<=3)=N/\decide (5<=(k:Int))=V/\decide ((k:Int)<=7)=N/\decide (12<=(k:Int))=V/\decide ((k:Int)<=31)=N/\known k=N):=by
 simp[known];omega
def decV (W lv:Int):E:=yQ #[yP #[kO (Pg.yhZ W lv),kO (Pg.xL W lv),C R (Pg.xR W lv),kO (Pg.xU W lv),kO (Pg.xD W lv),C R (Pg.xF W lv)],C R (Pg.yhV W lv)]
theorem yjH {W lv:Int} {c:Int} (h:Pg.yhV W lv=c) (hg:Pg.yhZ W lv=N):Pg.decV W lv=yQ #[yP #[kO N,kO N,C R 0,kO N,kO N,C R 0],C R c]:=by
 simp[Pg.decV,Pg.xL,Pg.xR,Pg.xU,Pg.xD,Pg.xF,hg,h]
theorem decV_good {W lv:Int} (h:Pg.yhV W lv=0) (hw:W≠0):Pg.decV W lv=yQ #[yP #[kO V,kO (Pg.yir W lv),C R (W/2%8),kO (Pg.yio W),kO (Pg.yh3 W),C R (W/4096)],C R 0]:=by
 have hg:Pg.yhZ W lv=V:=by simp[Pg.yhZ,h,hw]
 simp[Pg.decV,Pg.xL,Pg.xR,Pg.xU,Pg.xD,Pg.xF,hg,h]
def mapV (t l:Bool) (r:Int) (u d:Bool) (f lv at':Int):E:=yP #[C R (Pg.ykn t l r u d f lv at'),C R (Pg.ykX t l r u d f lv at'),C R (Pg.yjR t l r u d f lv at'),C R (Pg.yiU t l r u d f lv at')]
theorem ykq {t l:Bool} {r:Int} {u d:Bool} {f lv at':Int} (h:Pg.lOk t l r u d f lv at'=N):Pg.mapV t l r u d f lv at'=yP #[C R 0,C R 0,C R 0,C R 0]:=by
 simp[Pg.mapV,Pg.ykn,Pg.ykX,Pg.yjR,Pg.yiU,h]
theorem yli {t l:Bool} {r:Int} {u d:Bool} {f lv at':Int} (h:Pg.lOk t l r u d f lv at'=V):Pg.mapV t l r u d f lv at'=yP #[C R (at'-at'%Pg.span lv),C R lv,C R f,C R r]:=by
 simp[Pg.mapV,Pg.ykn,Pg.ykX,Pg.yjR,Pg.yiU,h]
theorem enc_inj {t l:Bool} {r:Int} {u d:Bool} {f lv:Int} {t' l':Bool} {r':Int} {u' d':Bool} {f':Int} (h:yhN t l r u d f lv=0) (h':yhN t' l' r' u' d' f' lv=0)
 (e:enc t l r u d f lv=enc t' l' r' u' d' f' lv):t=t'/\l=l'/\r=r'/\u=u'/\d=d'/\f=f':=by
 obtain⟨_,_,_,_,a1,a2,a3,a4,a5,a6⟩:=yji h;obtain⟨_,_,_,_,b1,b2,b3,b4,b5,b6⟩:=yji h';rw[e]at a1 a2 a3 a4 a5 a6;exact⟨a1.symm.trans b1,a2.symm.trans b2,a3.symm.trans b3,a4.symm.trans b4,a5.symm.trans b5,a6.symm.trans b6⟩
theorem xor_marks (y w:Nat) (h7:y/128=w/128) (h5:y%32=w%32) (hy:y<18446744073709551616) (hw:w<18446744073709551616):
 bits .andNot O (bits .xor O (y:Int) (w:Int)) 96=0:=by
 have hz:y^^^w<18446744073709551616:=Nat.xor_lt_two_pow (n:=64) hy hw;have e0:(96:Int)=((96:Nat):Int):=rfl;rw[u64_xor_nat y w hy hw,e0,u64_andNot_nat _ 96 hz (by decide)]
 have d7:(y^^^w)/2^7=0:=by
  rw[Nat.xor_div_two_pow];have:y/2^7=w/2^7:=h7;rw[this,yb]
 have d5:(y^^^w)%2^5=0:=by
  rw[Nat.xor_mod_two_pow];have:y%2^5=w%2^5:=h5;rw[this,yb]
 generalize y^^^w=z at*
 have:z=0\/z=32\/z=64\/z=96:=by omega
 rcases this with e|e|e|e<;>subst e<;>decide
theorem marks {t:Bool} {r:Int} {u d:Bool} {f lv:Int} (us di:Bool) (h:yhN t V r u d f lv=0):
 t=V/\yhN t V r us di f lv=0/\bits .andNot O (bits .xor O (enc t V r us di f lv) (enc t V r u d f lv)) 96=0/\
 (enc t V r us di f lv=enc t V r u d f lv ↔ us=u/\di=d):=by
 obtain⟨⟨l0,l3⟩,hc⟩:=yh0 h;rcases hc with ⟨_,h1,_⟩|⟨ht,r0,r1,f0,f1,⟨_,h2,h3⟩|⟨h1,_⟩⟩
 ·cases h1
 ·subst ht
  have hx:yhN V V r us di f lv=0:=yjx l0 h2 r0 r1 f0 f1 h3;refine⟨rfl,hx,?_,?_⟩
  ·obtain⟨a0,a1,_⟩:=yji hx
   obtain⟨b0,b1,_⟩:=yji h
   have hy:enc V V r us di f lv=f*4096+r*2+1+32*b01 us+64*b01 di+(if lv≠0 then 128 else 0):=by rw[yi9 hx];simp[yiY]
   have hw:enc V V r u d f lv=f*4096+r*2+1+32*b01 u+64*b01 d+(if lv≠0 then 128 else 0):=by rw[yi9 h];simp[yiY]
   have c1:=yiN us;have c2:=yiN di;have c3:=yiN u;have c4:=yiN d;generalize enc V V r us di f lv=y at*;generalize enc V V r u d f lv=w at*;obtain⟨y',rfl⟩:=U a0;obtain⟨w',rfl⟩:=U b0;generalize hm:(if lv≠0 then(128:Int)else 0)=m at*
   have sD:m=128\/m=0:=by
    split at hm<;>omega
   have e5:y'%32=w'%32:=by omega
   have e7:y'/128=w'/128:=by omega
   exact xor_marks y' w' e7 e5 (by omega) (by omega)
  ·constructor
   ·intro e
    obtain⟨_,_,_,h4,h5,_⟩:=enc_inj hx h e;exact⟨h4,h5⟩
   ·rintro ⟨rfl,rfl⟩
    rfl
 ·cases h1
end Pg
namespace Pg
theorem yjG (W k n:Nat):W&&&((2^n-1)*2^k)=(W/2^k%2^n)*2^k:=by
 apply Nat.eq_of_testBit_eq
 intro i;rw[Nat.testBit_and,yA,yA,Nat.testBit_two_pow_sub_one,Nat.testBit_mod_two_pow,Nat.testBit_div_two_pow]
 by_cases h:k<=i
 ·have e:i-k+k=i:=by omega
  simp[h,e,Bool.and_comm]
 ·simp[h]
theorem yj7 (W:Int) (h0:0<=W) (h1:W<18446744073709551616) (k n m:Nat) (hm:(2^n-1)*2^k=m) (hb:m<18446744073709551616):
 bits .and O W (m:Int)=(W/2^k%2^n)*2^k:=by
 obtain⟨v,rfl⟩:=U h0;rw[u64_and_nat v m (by omega) hb,<-hm,yjG];simp
theorem and1 (W:Int) (h0:0<=W) (h1:W<18446744073709551616):bits .and O W 1=W%2:=by
 have:=yj7 W h0 h1 0 1 1 rfl (by decide);simpa using this
theorem and32 (W:Int) (h0:0<=W) (h1:W<18446744073709551616):bits .and O W 32=W/32%2*32:=by
 have:=yj7 W h0 h1 5 1 32 rfl (by decide);simpa using this
theorem and64 (W:Int) (h0:0<=W) (h1:W<18446744073709551616):bits .and O W 64=W/64%2*64:=by
 have:=yj7 W h0 h1 6 1 64 rfl (by decide);simpa using this
theorem ylA (W:Int) (h0:0<=W) (h1:W<18446744073709551616):bits .and O W 128=W/128%2*128:=by
 have:=yj7 W h0 h1 7 1 128 rfl (by decide);simpa using this
theorem and14 (W:Int) (h0:0<=W) (h1:W<18446744073709551616):bits .and O W 14=W/2%8*2:=by
 have:=yj7 W h0 h1 1 3 14 rfl (by decide);simpa using this
theorem andF (W:Int) (h0:0<=W) (h1:W<18446744073709551616):bits .and O W 4294963200=W/4096%1048576*4096:=by
 have:=yj7 W h0 h1 12 20 4294963200 rfl (by decide);simpa using this
theorem known_not (W:Int) (h0:0<=W) (h1:W<18446744073709551616):bits .andNot O W 4294963439=0 ↔ W/16%2=0/\W/256%16=0/\W<4294967296:=by
 obtain⟨v,rfl⟩:=U h0;have e0:(4294963439:Int)=((4294963439:Nat):Int):=rfl
 have e1:(18446744073709551615-4294963439:Nat)=((2^1-1)*2^4|||(2^4-1)*2^8)|||(2^32-1)*2^32:=by decide
 rw[e0,u64_andNot_nat v _ (by omega) (by decide),e1,yH,yH,yjG,yjG,yjG]
 have:((((v/2^4%2^1*2^4|||v/2^8%2^4*2^8)|||v/2^32%2^32*2^32:Nat):Int)=0) ↔ (v/2^4%2^1*2^4=0/\v/2^8%2^4*2^8=0)/\v/2^32%2^32*2^32=0:=by
  rw[Int.natCast_eq_zero,yn,yn]
 rw[this];omega
theorem wBad_eq (W lv:Int) (h0:0<=W) (h1:W<18446744073709551616):
 wBad W lv=(bits .andNot O W 4294963439 !=0||((bits .and O W 1==0)&&(W !=0))||((bits .and O W 128 !=0)&&(lv==0))):=by
 rw[and1 W h0 h1,ylA W h0 h1,yG];have hk:=known_not W h0 h1;simp only[wBad,decide_eq_true_eq,yW,yZ,bne_iff_ne,ne_eq,beq_iff_eq];rw[hk];omega
theorem or_low (F x y:Nat) (hx:x<4096) (hy:y<4096):(4096*F+x)|||y=4096*F+(x|||y):=by
 have e1:2^12*F+x=2^12*F|||x:=yC hx F;have e2:2^12*F+(x|||y)=2^12*F|||(x|||y):=yC (Nat.or_lt_two_pow (n:=12) hx hy) F
 show(2^12*F+x)|||y=2^12*F+(x|||y)
 rw[e1,e2,Nat.or_assoc]
theorem or_bit (f x:Int) (f0:0<=f) (f1:f<1048576) (x0:0<=x) (x1:x<4096) (y z:Nat) (hy:y<4096) (hz:x.toNat|||y=z):
 bits .or O (f*4096+x) (y:Int)=f*4096+z:=by
 obtain⟨F,rfl⟩:=U f0;obtain⟨X,rfl⟩:=U x0
 have e:((F:Int)*4096+(X:Int))=((4096*F+X:Nat):Int):=by omega
 rw[e,u64_or_nat _ y (by omega) (by omega),or_low F X y (by omega) hy];rw[yv]at hz;rw[hz];omega
theorem or_frame (f x:Int) (f0:0<=f) (f1:f<1048576) (x0:0<=x) (x1:x<4096):bits .or O x (f*4096)=f*4096+x:=by
 obtain⟨F,rfl⟩:=U f0;obtain⟨X,rfl⟩:=U x0
 have e:((F:Int)*4096)=((4096*F:Nat):Int):=by omega
 have e1:2^12*F+X=2^12*F|||X:=yC (by omega) F;rw[e,u64_or_nat X _ (by omega) (by omega),Nat.or_comm];have:(4096*F|||X)=4096*F+X:=e1.symm;rw[this];omega
theorem word_or (r f:Int) (r0:0<=r) (r1:r<=7) (f0:0<=f) (f1:f<1048576):
 bits .or O (bits .or O 1 (r*2)) (f*4096)=f*4096+(r*2+1)/\
 bits .or O (f*4096+(r*2+1)) 32=f*4096+(r*2+33)/\bits .or O (f*4096+(r*2+1)) 64=f*4096+(r*2+65)/\bits .or O (f*4096+(r*2+33)) 64=f*4096+(r*2+97)/\
 bits .or O (f*4096+(r*2+1)) 128=f*4096+(r*2+129)/\bits .or O (f*4096+(r*2+33)) 128=f*4096+(r*2+161)/\bits .or O (f*4096+(r*2+65)) 128=f*4096+(r*2+193)/\bits .or O (f*4096+(r*2+97)) 128=f*4096+(r*2+225):=by
 have hr:r=0\/r=1\/r=2\/r=3\/r=4\/r=5\/r=6\/r=7:=by omega
 rcases hr with rfl|rfl|rfl|rfl|rfl|rfl|rfl|rfl
 all_goals
  refine⟨?_,?_,?_,?_,?_,?_,?_,?_⟩
  ·exact or_frame f _ f0 f1 (by decide) (by decide)
  ·exact or_bit f _ f0 f1 (by decide) (by decide) 32 _ (by decide) rfl
  ·exact or_bit f _ f0 f1 (by decide) (by decide) 64 _ (by decide) rfl
  ·exact or_bit f _ f0 f1 (by decide) (by decide) 64 _ (by decide) rfl
  ·exact or_bit f _ f0 f1 (by decide) (by decide) 128 _ (by decide) rfl
  ·exact or_bit f _ f0 f1 (by decide) (by decide) 128 _ (by decide) rfl
  ·exact or_bit f _ f0 f1 (by decide) (by decide) 128 _ (by decide) rfl
  ·exact or_bit f _ f0 f1 (by decide) (by decide) 128 _ (by decide) rfl
theorem check_small (f r:Int):check 0 0 f r=if r<0\/7<r\/f<0\/1048576<=f then 1 else 0:=by
 have hs:span 0=1:=rfl;split
 ·rename_i h
  refine yiE (by decide) ?_;simp only[below,yW,yo,Bool.and_eq_false_iff,decide_eq_false_iff_not];omega
 ·rename_i h
  rw[yin (by decide) (zB.2 (by omega)) (zB.2 (by omega)) (zB.2 (by omega)),hs];simp
theorem check_leaf {f r lv:Int} (h:¬(r<0\/7<r\/f<0\/1048576<=f)) (l0:0<=lv) (l2:lv<=2):check 0 lv f r=if f%span lv=0 then 0 else 3:=by
 have hs:=yhX lv;rw[yin (by omega) (zB.2 (by omega)) (zB.2 (by omega)) (zB.2 (by omega))];simp
end Pg
namespace Pg
structure Mp where
 p:Int
 s:Int
 f:Int
 r:Int
def Mp.zz:Mp:=⟨0,0,0,0⟩
namespace Mp
def code (m:Mp):Int:=check m.p m.s m.f m.r
def has (m:Mp) (q:Int):Bool:=over m.p m.s q
def meets (a b:Mp):Bool:=meet a.p a.s b.p b.s
def rts (m:Mp) (r:Int):Mp:=⟨m.p,m.s,m.f,r⟩
def val (m:Mp):E:=yP #[C R m.p,C R m.s,C R m.f,C R m.r]
theorem yjA (a b:Mp):a.meets b=b.meets a:=by simp[meets,meet,Bool.or_comm]
end Mp
structure Good (L:List Mp):Prop where
 ok:∀m,m ∈ L->m.code=0
 up:L.Pairwise fun a b=>a.p<b.p/\a.meets b=N
theorem yjW {m:Mp} (h:m.code=0):0<=m.p/\m.p<4096/\fits m.p/\fits m.s/\fits m.f/\fits m.r:=by
 obtain⟨h0,h1,h2,h3,h4,h5,h6,_,_⟩:=yhT h
 have hs:m.s=0\/m.s=1\/m.s=2:=by
  rcases yhX m.s with ⟨e,_⟩|⟨e,_⟩|⟨e,_⟩|⟨_,_,_,e⟩
  ·exact .inl e
  ·exact .inr (.inl e)
  ·exact .inr (.inr e)
  ·exact absurd e h0
 refine⟨h1,h2,?_,?_,?_,?_⟩<;>unfold fits<;>omega
theorem ylr:∀(L:List Mp) (a:Int),(∀m,m ∈ L->a<=m.p)->(L.Pairwise fun x y=>x.p<y.p)->(∀m,m ∈ L->m.p<4096)->(L.length:Int)<=max 0 (4096-a)
 | [],_,_,_,_=>by simp;omega
 | x::r,a,h,hp,hl=>by
   rw[kp]at hp;have h1:=h x (by simp);have h2:=hl x (by simp);have:=ylr r (x.p+1) (fun m hm=>by have:=hp.1 m hm;omega) hp.2 (fun m hm=>hl m (by simp[hm]));simp only[List.length_cons];omega
theorem Good.len {L:List Mp} (h:Good L):L.length<=4096:=by
 have:=ylr L 0 (fun m hm=>(yjW (h.ok m hm)).1) (h.up.imp fun⟨h,_⟩=>h) (fun m hm=>(yjW (h.ok m hm)).2.1);omega
theorem Good.nil:Good []:=⟨fun _ h=>by simp at h,List.Pairwise.nil⟩
def fnd (L:List Mp) (q:Int):Option Nat:=L.findIdx? fun m=>m.has q
def fndN (L:List Mp) (q:Int):Int:=match fnd L q with
 | some k=>(k:Int)
 | none=> -1
def ins (m:Mp):List Mp->List Mp
 | []=>[m]
 | x::r=>if m.p<x.p then m::x::r else x::ins m r
def addC (L:List Mp) (m:Mp):Int:=if m.code≠0 then m.code else if (L.any fun x=>x.meets m)=V then 4 else 0
def addL (L:List Mp) (m:Mp):List Mp:=if addC L m=0 then ins m L else L
def yij (L:List Mp) (q:Int):Int:=if below q 4096=V then(if fnd L q=J then 5 else 0)else 1
def at' (L:List Mp) (q:Int):Mp:=match fnd L q with
 | some k=>L.getD k .zz
 | none=> .zz
def yjp (L:List Mp) (q:Int):Mp:=if yij L q=0 then at' L q else .zz
def yiL (L:List Mp) (q:Int):List Mp:=if yij L q=0 then(match fnd L q with
 | some k=>L.eraseIdx k
 | none=>L)else L
def yiV (L:List Mp) (q r:Int):Int:=if below r 8=V then yij L q else 1
def ykt (L:List Mp) (q r:Int):Mp:=if yiV L q r=0 then(at' L q).rts r else .zz
def yjm (L:List Mp) (q r:Int):List Mp:=if yiV L q r=0 then(match fnd L q with
 | some k=>L.set k ((L.getD k .zz).rts r)
 | none=>L)else L
def ansE (L:List Mp) (q k:Int) (u:Bool):Int:=match fnd L q with
 | some j=>aEnd (L.getD j .zz).r k u
 | none=>1
def ansF (L:List Mp) (q k:Int) (u:Bool):Int:=match fnd L q with
 | some j=>yie (L.getD j .zz).p (L.getD j .zz).f (L.getD j .zz).r q k u
 | none=>0
def ansR (L:List Mp) (q k:Int) (u:Bool):Int:=match fnd L q with
 | some j=>yh1 (L.getD j .zz).r k u
 | none=>0
theorem yjg {L:List Mp} {j:Nat} (hj:j<L.length):L.getD j .zz=L[j]:=by simp[List.getD,hj]
theorem fnd_some {L:List Mp} {q:Int} {k:Nat} (h:fnd L q=T k):k<L.length/\(L.getD k .zz).has q=V/\∀j,j<k->(L.getD j .zz).has q=N:=by
 obtain⟨hk,h1,h2⟩:=yV.1 h;refine⟨hk,by rw[yjg hk];exact h1,fun j hj=> ?_⟩;rw[yjg (by omega)]
 simpa using h2 j hj
theorem yl4 {L:List Mp} {q:Int} {k:Nat} (hk:k<L.length) (h1:(L.getD k .zz).has q=V) (h2:∀j,j<k->(L.getD j .zz).has q=N):fnd L q=T k:=by
 refine yV.2 ⟨hk,by rw[<-yjg hk];exact h1,fun j hj=> ?_⟩;have:=h2 j hj;rw[yjg (by omega)]at this
 simpa using this
theorem yl3 {L:List Mp} {q:Int} (h:∀j,j<L.length->(L.getD j .zz).has q=N):fnd L q=J:=by
 refine List.findIdx?_eq_none_iff.2 fun m hm=> ?_;obtain⟨j,hj,rfl⟩:=List.mem_iff_getElem.1 hm;have:=h j hj;rw[yjg hj]at this
 simpa using this
theorem ylf (m:Mp):∀L:List Mp,(ins m L).Perm (m::L)
 | []=>List.Perm.refl _
 | x::r=>by
   unfold ins;split
   ·exact List.Perm.refl _
   ·exact((ylf m r).cons x).trans (List.Perm.swap m x r)
theorem ylE {m x:Mp} {L:List Mp}:x ∈ ins m L ↔ x=m\/x ∈ L:=by
 rw[(ylf m L).mem_iff];simp
theorem ylk {a b:Mp} (ha:a.code=0) (h:a.meets b=N):a.p≠b.p:=by
 intro e
 have hs:0<span a.s:=by
  have:=(yhT ha).1;have:=(yh2 a.s).1;omega
 unfold Mp.meets at h;rw[ykr]at h;simp only[decide_eq_false_iff_not]at h;exact h (.inl ⟨by omega,by omega⟩)
theorem yl7 {m:Mp} (hm:m.code=0):∀{L:List Mp},(∀x,x ∈ L->x.code=0)->(∀x,x ∈ L->x.meets m=N)->(L.Pairwise fun a b=>a.p<b.p/\a.meets b=N)->(ins m L).Pairwise fun a b=>a.p<b.p/\a.meets b=N
 | [],_,_,_=>by simp[ins]
 | x::r,d9,hme,hp=>by
   rw[kp]at hp;have hx:=hme x (by simp);have Ho:=ylk (d9 x (by simp)) hx;unfold ins;split
   ·rename_i Hf
    refine kp.2 ⟨fun y hy=> ?_,kp.2 hp⟩;rcases yc.1 hy with rfl|hy
    ·exact⟨Hf,by rw[Mp.yjA];exact hx⟩
    ·exact⟨by have:=(hp.1 y hy).1;omega,by rw[Mp.yjA];exact hme y (by simp[hy])⟩
   ·refine kp.2 ⟨fun y hy=> ?_,yl7 hm (fun y hy=>d9 y (by simp[hy])) (fun y hy=>hme y (by simp[hy])) hp.2⟩
    rcases ylE.1 hy with rfl|hy
    ·exact⟨by omega,hx⟩
    ·exact hp.1 y hy
theorem addC_zero {L:List Mp} {m:Mp} (h:addC L m=0):m.code=0/\∀x,x ∈ L->x.meets m=N:=by
 unfold addC at h
 by_cases hc:m.code=0
 ·refine⟨hc,fun x hx=> ?_⟩
  cases hm:x.meets m
  ·rfl
  ·have:(L.any fun x=>x.meets m)=V:=List.any_eq_true.2 ⟨x,hx,hm⟩
   simp[hc,this]at h
 ·simp[hc]at h
theorem Good.add {L:List Mp} (h:Good L) (m:Mp):Good (addL L m):=by
 unfold addL;split
 ·rename_i hc
  obtain⟨h1,h2⟩:=addC_zero hc;exact⟨fun x hx=>(ylE.1 hx).elim (fun e=>e▸h1) (h.ok x),yl7 h1 h.ok h2 h.up⟩
 ·exact h
theorem Good.erase {L:List Mp} (h:Good L) (k:Nat):Good (L.eraseIdx k):=
 ⟨fun m hm=>h.ok m (List.mem_of_mem_eraseIdx hm),h.up.sublist (List.eraseIdx_sublist _ _)⟩
def hlf (L:List Mp) (m:Mp) (j:Nat):List Mp:=if ((L.take j).any fun y=>decide (m.p<y.p))=V then ins m (L.take j)else L.take j
theorem ykE {m:Mp}:∀{L:List Mp} {k:Nat} (_:k<L.length),m.p=(L.getD k .zz).p->(L.Pairwise fun a b=>a.p<b.p)->ins m (L.eraseIdx k)=L.set k m
 | [],_,h,_,_=>by simp at h
 | x::r,0,_,hp,hu=>by
   rw[kp]at hu;simp at hp
   match r,hu with
   | [],_=>rfl
   | y::t,hu=>
     have:=hu.1 y (by simp);simp[ins];intro h;omega
 | x::r,k+1,h,hp,hu=>by
   rw[kp]at hu
   have hk:k<r.length:=by simpa using h
   have hp':m.p=(r.getD k .zz).p:=by simpa using hp
   have hm:r.getD k .zz ∈ r:=by rw[yjg hk];exact yX _
   have h1:=hu.1 _ hm
   have hx:¬m.p<x.p:=by omega
   simp only[yL,ins,hx,if_false,List.set_cons_succ];rw[ykE hk hp' hu.2]
theorem yjN:∀{L:List Mp} {k:Nat} (_:k<L.length),(L.Pairwise fun a b=>a.p<b.p/\a.meets b=N)->∀x,x ∈ L.eraseIdx k->x.meets (L.getD k .zz)=N
 | [],_,h,_,_,_=>by simp at h
 | y::r,0,_,hu,x,hx=>by
   rw[kp]at hu;simp at hx ⊢;rw[Mp.yjA];exact(hu.1 x hx).2
 | y::r,k+1,h,hu,x,hx=>by
   rw[kp]at hu
   have hk:k<r.length:=by simpa using h
   have hm:r.getD k .zz ∈ r:=by rw[yjg hk];exact yX _
   have e:(y::r).getD (k+1) .zz=r.getD k .zz:=by simp
   rw[e];simp only[yL,yc]at hx;rcases hx with rfl|hx
   ·exact(hu.1 _ hm).2
   ·exact yjN hk hu.2 x hx
theorem prot_add {L:List Mp} (h:Good L) {k:Nat} (hk:k<L.length) {r:Int} (hr:below r 8=V):
 addC (L.eraseIdx k) ((L.getD k .zz).rts r)=0/\addL (L.eraseIdx k) ((L.getD k .zz).rts r)=L.set k ((L.getD k .zz).rts r):=by
 have hm:L.getD k .zz ∈ L:=by rw[yjg hk];exact yX _
 have d9:=h.ok _ hm;have ha:=yjN hk h.up;have hi:=ykE (m:=(L.getD k .zz).rts r) hk rfl (h.up.imp fun⟨h,_⟩=>h);clear hm;generalize L.getD k .zz=y at*;obtain⟨p,s,f,r0⟩:=y
 have hc:(Mp.mk p s f r).code=0:=by
  obtain⟨h0,h1,h2,h3,h4,_,_,h7,h8⟩:=yhT d9
  show check p s f r=0
  rw[yin h0 (zB.2 ⟨h1,h2⟩) (zB.2 ⟨h3,h4⟩) hr];exact iP ⟨h7,h8⟩
 have Ik:((L.eraseIdx k).any fun x=>x.meets (Mp.mk p s f r))=N:=by
  rw[List.any_eq_false];intro x hx;have:x.meets (Mp.mk p s f r)=N:=ha x hx;simp[this]
 have e:addC (L.eraseIdx k) (Mp.mk p s f r)=0:=by simp[addC,hc,Ik]
 exact⟨e,by show addL (L.eraseIdx k) (Mp.mk p s f r)=_;rw[addL,iP e];exact hi⟩
end Pg
section
open Go.Sort
def zC (L:List Pg.Mp):List E:=L.flatMap fun m=>[C R m.p,C R m.s,C R m.f,C R m.r]
theorem xZ:∀L:List Pg.Mp,(zC L).length=L.length*4
 | []=>rfl
 | x::r=>by
   have:=xZ r;simp[zC]at this ⊢;omega
theorem xh (A B:List Pg.Mp):zC (A++B)=zC A++zC B:=by simp[zC]
theorem vV (m:Pg.Mp):zC [m]=[C R m.p,C R m.s,C R m.f,C R m.r]:=by simp[zC]
theorem ycc (A:List Pg.Mp) (m:Pg.Mp):zC (A++[m])=zC A++[C R m.p,C R m.s,C R m.f,C R m.r]:=by rw[xh,vV]
theorem ya2:∀(L:List Pg.Mp) (j:Nat),j<L.length->
 (zC L)[j*4]?=T (C R (L.getD j .zz).p)/\(zC L)[j*4+1]?=T (C R (L.getD j .zz).s)/\(zC L)[j*4+2]?=T (C R (L.getD j .zz).f)/\(zC L)[j*4+3]?=T (C R (L.getD j .zz).r)
 | [],j,h=>by simp at h
 | x::r,0,_=>by simp[zC]
 | x::r,j+1,h=>by
   have:=ya2 r j (by simpa using h)
   have e:∀i,(zC (x::r))[(j+1)*4+i]?=(zC r)[j*4+i]?:=by
    intro i
    have e1:zC (x::r)=[C R x.p,C R x.s,C R x.f,C R x.r]++zC r:=by simp[zC]
    rw[e1,List.getElem?_append_right (by simp;omega)]
    congr 1
    simp;omega
   have e0:=e 0;simp only[ya]at e0;rw[e0,e 1,e 2,e 3]
   simpa using this
def ybJ (w:Q) (g o:Nat) (m:Pg.Mp):Prop:=
 w.cell? ⟨g,o,J⟩=T (C R m.p)/\w.cell? ⟨g,o+1,J⟩=T (C R m.s)/\w.cell? ⟨g,o+2,J⟩=T (C R m.f)/\w.cell? ⟨g,o+3,J⟩=T (C R m.r)
def zm (w:Q) (ad:Option Addr) (L:List Pg.Mp):Prop:=∀j,j<L.length->∃g,ad=T ⟨g,0,J⟩/\g<w.heap.size/\ybJ w g (j*4) (L.getD j .zz)
theorem ybJ.below {w w':Q} {g o:Nat} {m:Pg.Mp} (h:ybJ w g o m) {B:Nat} (hb:Below B w w') (hg:g<B):ybJ w' g o m:=
 ⟨(hb.cell (p:=⟨g,o,J⟩) hg).trans h.1,(hb.cell (p:=⟨g,o+1,J⟩) hg).trans h.2.1,(hb.cell (p:=⟨g,o+2,J⟩) hg).trans h.2.2.1,(hb.cell (p:=⟨g,o+3,J⟩) hg).trans h.2.2.2⟩
theorem zm.below {w w':Q} {ad:Option Addr} {L:List Pg.Mp} (h:zm w ad L) (hb:Lw w w'):zm w' ad L:=by
 intro j hj;obtain⟨g,e,hg,hm⟩:=h j hj;exact⟨g,e,uv hg hb.size,hm.below hb hg⟩
theorem zF {w:Q} {base:Nat} {e:TypeId} {size n:Nat} {v:E} {xs:List E} (h:w.ownsRow base e size v n xs):∃ad cap,v=ue ad n cap:=by
 rcases h.2 with ⟨rfl,rfl⟩|⟨g,cap,cur,rfl,_⟩
 ·exact⟨J,0,rfl⟩
 ·exact⟨_,_,rfl⟩
theorem jx {w:Q} {base:Nat} {ad:Option Addr} {n cap:Nat} {L:List Pg.Mp} (h:w.ownsRow base 39 4 (ue ad n cap) L.length (zC L)):zm w ad L:=by
 intro j hj;obtain⟨g,cap',e,_,hg⟩:=h.form (by omega);cases e;have hc:=ya2 L j hj;refine⟨g,rfl,hg,?_,?_,?_,?_⟩
 ·rw[h.cellAt _ (by omega)];exact hc.1
 ·rw[h.cellAt _ (by omega)];exact hc.2.1
 ·rw[h.cellAt _ (by omega)];exact hc.2.2.1
 ·rw[h.cellAt _ (by omega)];exact hc.2.2.2
theorem zc {F:Nat->Prop} {w w':Q} {base:Nat} {e:TypeId} {size n:Nat} {v:E} {xs:List E} (h:w.ownsRow base e size v n xs) (hb:But F w w') (hF:∀k,v.ownBlock=T k->¬F k):w'.ownsRow base e size v n xs:=
 zb h fun k hk=>hb.block k (h.lt k hk).2 (hF k hk)
theorem zn {w w':Q} {base:Nat} {e:TypeId} {size n:Nat} {v:E} {xs:List E} (h:w.ownsRow base e size v n xs) (hb:Lw w w'):w'.ownsRow base e size v n xs:=
 zb h fun k hk=>hb.block k (h.lt k hk).2
theorem ybv {w:Q} {base:Nat} {e:TypeId} {size n:Nat} {v:E} {xs:List E} (h:w.ownsRow base e size v n xs):w.ownsRow 0 e size v n xs:=
 ⟨h.1,h.2.imp id fun⟨g,cap,cur,a,_,r⟩=>⟨g,cap,cur,a,yy _,r⟩⟩
theorem yd5 {wx w w3:Q} {e:TypeId} {n size:Nat} {v:E} {xs:List E} {o:Obj} (hb:Lw wx w) (hr:w.ownsRow wx.heap.size e size v n xs) (hg:(w.alloc o).grownBy w3 v.ownBlock):Lw wx w3:=by
 have hB:But (fun j=>v.ownBlock=T j) w w3:=((But.refl _ w).alloc o).grown hg fun j hj=> .inr hj;exact hb.trans (hB.below hb.size fun k hk=>(hr.lt k hk).1)
def bkF (b:Nat) (vb:E):Nat->Prop:=fun k=>k=b\/vb.ownBlock=T k
namespace BkAt
variable {w w':Q} {b:Nat} {vb vb':E} {L L':List Pg.Mp}
end BkAt
theorem ju:(Tryz.prog.info? 39).map (fun i=>(i.zero,i.size,i.bytes))=T (T (yP #[C R 0,C R 0,C R 0,C R 0]),4,32):=by kernel_rfl
theorem qS (L:List Pg.Mp):∀u,u ∈ zC L->u.oneCell'=V:=by
 intro u hu;obtain⟨m,_,hm⟩:=List.mem_flatMap.1 hu;simp at hm
 rcases hm with rfl|rfl|rfl|rfl<;>rfl
theorem vw {F:Nat->Prop} {w w1:Q} (h:But F w w1) (r:Nat) (hr:w.heap.size<=r\/F r) (x0 x1 x2 x3:E):
 But F w ((((w1.setCell ⟨r,0,J⟩ x0).setCell ⟨r,1,J⟩ x1).setCell ⟨r,2,J⟩ x2).setCell ⟨r,3,J⟩ x3):=
 (((h.setCell (a:=⟨r,0,J⟩) hr x0).setCell (a:=⟨r,1,J⟩) hr x1).setCell (a:=⟨r,2,J⟩) hr x2).setCell (a:=⟨r,3,J⟩) hr x3
theorem zu {w w1:Q} (h:Lw w w1) (r:Nat) (hr:w.heap.size<=r) (x0 x1 x2 x3:E):
 Lw w ((((w1.setCell ⟨r,0,J⟩ x0).setCell ⟨r,1,J⟩ x1).setCell ⟨r,2,J⟩ x2).setCell ⟨r,3,J⟩ x3):=
 (vw (F:=fun _=>False) (But.yhJ h) r (.inl hr) x0 x1 x2 x3).below (kh _) (fun _ h=>h.elim)
end
end Go.Proofs.YtdphiompijbelaaGreat
