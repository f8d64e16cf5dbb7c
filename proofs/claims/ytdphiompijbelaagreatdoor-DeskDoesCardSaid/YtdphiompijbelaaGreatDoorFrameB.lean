import Derived.WalkKit
import Derived.WalkLawsBesides
import Derived.WalkSmall
import Derived.WalkSpells
import Derived.BigQuiet
import Derived.Lib.QuietBelow
import Derived.Test.YtdphiompijbelaaGreatDoorChecked
import Derived.OwnWalk
import Derived.Laws.IdiomCopy
import Derived.Test.YtdphiompijbelaaGreatDoorRows
import Derived.ProofKit
import Derived.OpenShut
import Derived.Lib.SmallJoins
import Derived.Deep.Slices
import Derived.Laws.LoneSync
set_option linter.all false
set_option maxRecDepth 100000
open Array renaming getElem?_eq_some_iff->yJ,getElem?_range->yF,getElem?_map->yQ,size->A
open Go.RowKit.Below renaming heap_setCell->kh,refl->uK,heap_alloc->yB
open Nat renaming le_refl->km,lt_of_lt_of_le->uv,two_pow_add_eq_or_of_lt->us,le_trans->yS,and_or_distrib_left->yC,zero_le->yH,mod_lt->yW
open Go renaming World->kp,Value->un,Calls->ua,heap_alloc_new->yY,cell_later->yK,bodyPost_ret->yD
open List renaming pairwise_cons->ki,findIdx?_eq_some_iff_getElem->ue,eraseIdx_cons_succ->yR,mem_cons->yE
open Go.Proofs.Tryz renaming prog->kW
open Go.Ending renaming returned->O
open Int renaming eq_ofNat_of_zero_le->U,ediv_ediv_of_nonneg->ur,pow_succ->yA,pow_add->yL,le_refl->yG
open Go.IntKind renaming i64->V,u64->ks
open Go.Value renaming int->Y,bool->kA,agg->ud,ownBlock->yT,slice->yU,tuple->yO,int->yX,bool->yy
open Option renaming none->P,some->Z
open Bool renaming false->J,true->N,and_eq_true->yP,or_eq_true->yN,not_eq_true'->yZ
open Go.World renaming cell?_of_block->I,cell?_setCell_other->Q,frozen?_of_block->kO,cell?_setCell_same->uD,block_lt_of_cell?->uc,frozen?_setCells->yI,frozen?->yV,setCells->yM,heap->M
open Go.World renaming cell?->ψ,setCell->φ,ownsRow->π
open List renaming length->ρ
namespace Go.Proofs.YtdphiompijbelaaGreatDoor
namespace Pg
end Pg
open Go.Proofs.Tryz Pg
open Go.RowKit
variable {a c d e f h:Bool} {b g k u w:Int} {i j l m:Nat} {s t v:un} {p q r:kp}
section
abbrev Lw (w w':Go.World):Prop:=Go.RowKit.Below (A (M w)) w w'
theorem iP{c:Prop}{h:Decidable c}(k:c){α:Sort _}{t e:α}:(if c then t else e)=t:=if_pos k
theorem iN{c:Prop}{h:Decidable c}(k:¬c){α:Sort _}{t e:α}:(if c then t else e)=e:=if_neg k
def Hh(p:Prop):Prop:=p
theorem Hh.o{p:Prop}(h:Hh p):p:=h
theorem eY{α:Type}(a:α):∃x,x=a:=⟨_,rfl⟩
theorem ω{p:Prop}(h:p:=by omega):p:=h
theorem δ{p:Prop}(h:p:=by decide):p:=h
theorem ς{p:Prop}(h:p:=by simp):p:=h
theorem κ{p:Prop}(h:p:=by kernel_rfl):p:=h
theorem γ{p:Prop}(h:p:=by grind):p:=h
theorem ξ{p:Prop}(h:p:=by simp_all):p:=h
theorem ζ{p:Prop}(h:p:=by simp[go_sem]):p:=h
theorem χ{p:Prop}(h:p:=by {simp;omega}):p:=h
theorem η{p:Prop}(h:p):Hh p:=h
namespace Pg
def r8(x:Int):Nat:=(BitVec.ofInt 64 x).toNat%8
theorem and_small(n m:Nat)(h:m<8):n&&&m=(n%8)&&&m:=by have k:m=7&&&m:=by{have:m=0\/m=1\/m=2\/m=3\/m=4\/m=5\/m=6\/m=7:=ω;grind};have e:=Nat.and_two_pow_sub_one_eq_mod n 3;grind
theorem ofInt_small(y:Nat)(h:y<8):(BitVec.ofInt 64 (y:Int)).toNat=y:=by grind
theorem wrap_i64_small(n:Nat)(h:n<8):IntKind.i64.wrap (n:Int)=n:=by simp[IntKind.wrap,IntKind.bits,IntKind.signed];omega
theorem and_lt8(a m:Nat)(h:m<8):a&&&m<8:=Nat.lt_of_le_of_lt Nat.and_le_right h
theorem yl3(x:Int)(m:Nat)(h:m<8):bits .and V x (m:Int)=((r8 x&&&m:Nat):Int):=by show IntKind.i64.wrap ((BitVec.ofInt 64 x&&&BitVec.ofInt 64 (m:Int)).toNat:Int)=_;rw[BitVec.toNat_and,ofInt_small m h,and_small _ m h];exact wrap_i64_small _ (and_lt8 _ m h)
theorem r8_lt(x:Int):r8 x<8:=yW _ δ
theorem u64_of_wrap64(n:Int)(h:0<=n)(k:n<18446744073709551616):IntKind.u64.wrap (wrap64 n)=n:=by grind [IntKind.wrap,IntKind.bits,IntKind.signed,wrap64]
def below(n e:Int):Bool:=decide (0<=n)&&decide (n<e)
def span(s:Int):Int:=if s=0 then 1 else if s=1 then 8 else if s=2 then 64 else 0
def isKind(k:Int):Bool:=k==0||k==1||k==2
def check(p s f r:Int):Int:=if span s=0 then 2 else if (!below p 4096|| !below f 1048576|| !below r 8)=N then 1 else if p%span s=0/\f%span s=0 then 0 else 3
def over(h k p:Int):Bool:=decide (h<=p)&&decide (p-h<span k)
def meet(h w k a:Int):Bool:=over h w k||over k a h
def asks(k:Int)(u:Bool):Nat:=(if k=1 then 1 else if k=2 then 4 else 0)+(if u then 2 else 0)
def may(r k:Int)(u:Bool):Bool:=(r8 r&&&asks k u)==asks k u
def zK(p k:Int):Int:=if isKind k=N then(if below p 4096=N then 0 else 1)else 2
def index(p l:Int):Int:=if (below p 4096&&below l 4)=N then p/8^l.toNat%8 else-1
def aEnd(r k:Int)(u:Bool):Int:=if may r k u=N then 0 else 2
def yk4(p f r q k:Int)(u:Bool):Int:=if may r k u=N then wrap64 (f+wrap64 (q-p))else 0
def ykK(r k:Int)(u:Bool):Int:=if may r k u=N then r else 0
def fits(n:Int):Prop:= -9223372036854775808<=n/\n<=9223372036854775807
theorem asks_lt(k:Int)(u:Bool):asks k u<8:=by grind [asks]
theorem ykx(s:Int):(s=0/\span s=1)\/(s=1/\span s=8)\/(s=2/\span s=64)\/(s≠0/\s≠1/\s≠2/\span s=0):=by grind [span]
theorem yk3(s:Int):0<=span s/\span s<=64:=by grind [ykx]
theorem over_no(h:decide (w<=b)=J):over w u b=J:=by simp[over,h]
theorem over_yes(k:fits w)(a:fits b)(h:w<=b):decide (IntKind.u64.wrap (wrap64 (b-w))<span u)=over w u b:=by grind [fits,over,u64_of_wrap64]
theorem may_eq(r k:Int)(u:Bool):(bits .and V r (asks k u:Int)==(asks k u:Int))=may r k u:=by rw[yl3 r _ (asks_lt k u)];unfold may;grind
theorem ynq(h:span u=0):check w u b g=2:=by simp[check,h]
theorem ylr(h:span u≠0)(k:(!below w 4096|| !below b 1048576|| !below g 8)=N):check w u b g=1:=by simp_all[check]
theorem yk7(h:span u≠0)(k:below w 4096=N)(a:below b 1048576=N)(c:below g 8=N):check w u b g=if w%span u=0/\b%span u=0 then 0 else 3:=by simp_all[check]
theorem zB:below w u=N ↔ 0<=w/\w<u:=by simp[below]
theorem index_at(h:0<=w)(k:w<4096):index w 0=w%8/\index w 1=w/8%8/\index w 2=w/64%8/\index w 3=w/512:=by grind [below,index]
theorem ykB(h:check w u b g=0):span u≠0/\0<=w/\w<4096/\0<=b/\b<1048576/\0<=g/\g<8/\w%span u=0/\b%span u=0:=by unfold check at h;split at h;{omega};grind [below]
def sameUpto(p q:Int):Nat->Bool|0=>N|k+1=>sameUpto p q k&&(index p (k:Int)==index q (k:Int))
def cnt(k w h:Int):Nat->Int|0=>0|j+1=>cnt k w h j+(if over k w (h+(j:Int))=N then 1 else 0)
theorem cnt_eq(k w h:Int)(j:Nat):cnt k w h j=max 0 (min (h+j) (k+span w)-max h k):=by induction j with|zero=>simp only[cnt];omega|succ j a=>grind [cnt,over,span]
theorem ynR(a s b t:Int):meet a s b t=decide ((a<=b/\b-a<span s)\/(b<=a/\a-b<span t)):=by simp[meet,over]
theorem meets{a k f g b w i j:Int}(h:check a k f g=0)(e:check b w i j=0):(cnt b w a (span k).toNat=0/\meet a k b w=J/\meet b w a k=J)\/(0<cnt b w a (span k).toNat/\cnt b w a (span k).toNat=min (span k) (span w)/\meet a k b w=N/\meet b w a k=N):=by obtain⟨n,r,s,_,_,_,_,o,_⟩:=ykB h;obtain⟨l,p,q,_,_,_,_,m,_⟩:=ykB e;rw[cnt_eq,ynR,ynR];simp only[decide_eq_false_iff_not,decide_eq_true_eq];rcases ykx k with ⟨_,c⟩|⟨_,c⟩|⟨_,c⟩|⟨_,_,_,c⟩<;>rcases ykx w with ⟨_,d⟩|⟨_,d⟩|⟨_,d⟩|⟨_,_,_,d⟩;all_goals rw[c]at n o;rw[d]at l m;rw[c,d];omega
theorem below_not:below w u=J ↔ w<0\/u<=w:=by simp[below];omega
end Pg
open Go.RowKit Go.Sort
set_option linter.unusedVariables false
theorem qi{W k:kp}(w:Lw W k):(∀b o,b<A (M W)->ψ k ⟨b,o,P⟩=ψ W ⟨b,o,P⟩)/\(∀b o,b<A (M W)->yV k ⟨b,o,P⟩=yV W ⟨b,o,P⟩):=⟨λb o h=>w.cell (p:=⟨b,o,P⟩) h,λb o h=>w.frozen (p:=⟨b,o,P⟩) h⟩
theorem zT(h:Lw p q)(k:Lw q r):Lw p r:=h.trans (k.mono h.size)
theorem zA(h:Lw p q)(o:Obj):Lw p (q.alloc o):=h.alloc h.size o
theorem zR(w:kp):Lw w w:=uK _ _
theorem xA{a:Program}{f:FuncId}{k:Array un}(h:ua a f k p λe w=>e=O s/\w=p):ua a f k p λe w=>e=O s/\Lw p w:=h.mono λ_ _ ⟨b,c⟩=>⟨b,c▸zR p⟩
theorem yaI(k:Lw p q)(h:ψ p ⟨m,0,P⟩=Z s/\ψ p ⟨m,1,P⟩=Z t/\ψ p ⟨m,2,P⟩=Z v):ψ q ⟨m,0,P⟩=Z s/\ψ q ⟨m,1,P⟩=Z t/\ψ q ⟨m,2,P⟩=Z v:=by grind [yK]
theorem xI{b:Nat}{v0 v1 v2 v3:un}(k:Lw p q)(h:ψ p ⟨b,0,P⟩=Z v0/\ψ p ⟨b,1,P⟩=Z v1/\ψ p ⟨b,2,P⟩=Z v2/\ψ p ⟨b,3,P⟩=Z v3):ψ q ⟨b,0,P⟩=Z v0/\ψ q ⟨b,1,P⟩=Z v1/\ψ q ⟨b,2,P⟩=Z v2/\ψ q ⟨b,3,P⟩=Z v3:=by grind [yK]
theorem ycU{a:Addr}(k:Lw p q)(h:ψ p a=Z s)(w:yV p a=J):yV q a=J:=(k.frozen (uc _ _ h)).trans w
theorem xJ{b:Nat}{v0 v1 v2 v3 v4 v5:un}(k:Lw p q)(h:ψ p ⟨b,0,P⟩=Z v0/\ψ p ⟨b,1,P⟩=Z v1/\ψ p ⟨b,2,P⟩=Z v2/\ψ p ⟨b,3,P⟩=Z v3/\ψ p ⟨b,4,P⟩=Z v4/\ψ p ⟨b,5,P⟩=Z v5):ψ q ⟨b,0,P⟩=Z v0/\ψ q ⟨b,1,P⟩=Z v1/\ψ q ⟨b,2,P⟩=Z v2/\ψ q ⟨b,3,P⟩=Z v3/\ψ q ⟨b,4,P⟩=Z v4/\ψ q ⟨b,5,P⟩=Z v5:=by grind [yK]
theorem yaU{b d e f g i v0 v1 v2 v3 v4 v5:un}(w:Lw p q)(k:A (M p)<=m)(h:ψ q ⟨m,0,P⟩=Z b/\ψ q ⟨m,1,P⟩=Z d/\ψ q ⟨m,2,P⟩=Z e/\ψ q ⟨m,3,P⟩=Z f/\ψ q ⟨m,4,P⟩=Z g/\ψ q ⟨m,5,P⟩=Z i):Lw p (φ (φ (φ (φ (φ (φ q ⟨m,0,P⟩ v0) ⟨m,1,P⟩ v1) ⟨m,2,P⟩ v2) ⟨m,3,P⟩ v3) ⟨m,4,P⟩ v4) ⟨m,5,P⟩ v5)/\ (ψ (φ (φ (φ (φ (φ (φ q ⟨m,0,P⟩ v0) ⟨m,1,P⟩ v1) ⟨m,2,P⟩ v2) ⟨m,3,P⟩ v3) ⟨m,4,P⟩ v4) ⟨m,5,P⟩ v5) ⟨m,0,P⟩=Z v0/\ψ (φ (φ (φ (φ (φ (φ q ⟨m,0,P⟩ v0) ⟨m,1,P⟩ v1) ⟨m,2,P⟩ v2) ⟨m,3,P⟩ v3) ⟨m,4,P⟩ v4) ⟨m,5,P⟩ v5) ⟨m,1,P⟩=Z v1/\ψ (φ (φ (φ (φ (φ (φ q ⟨m,0,P⟩ v0) ⟨m,1,P⟩ v1) ⟨m,2,P⟩ v2) ⟨m,3,P⟩ v3) ⟨m,4,P⟩ v4) ⟨m,5,P⟩ v5) ⟨m,2,P⟩=Z v2/\ψ (φ (φ (φ (φ (φ (φ q ⟨m,0,P⟩ v0) ⟨m,1,P⟩ v1) ⟨m,2,P⟩ v2) ⟨m,3,P⟩ v3) ⟨m,4,P⟩ v4) ⟨m,5,P⟩ v5) ⟨m,3,P⟩=Z v3/\ψ (φ (φ (φ (φ (φ (φ q ⟨m,0,P⟩ v0) ⟨m,1,P⟩ v1) ⟨m,2,P⟩ v2) ⟨m,3,P⟩ v3) ⟨m,4,P⟩ v4) ⟨m,5,P⟩ v5) ⟨m,4,P⟩=Z v4/\ψ (φ (φ (φ (φ (φ (φ q ⟨m,0,P⟩ v0) ⟨m,1,P⟩ v1) ⟨m,2,P⟩ v2) ⟨m,3,P⟩ v3) ⟨m,4,P⟩ v4) ⟨m,5,P⟩ v5) ⟨m,5,P⟩=Z v5)/\ (∀c o v,c≠m->ψ q ⟨c,o,P⟩=Z v->ψ (φ (φ (φ (φ (φ (φ q ⟨m,0,P⟩ v0) ⟨m,1,P⟩ v1) ⟨m,2,P⟩ v2) ⟨m,3,P⟩ v3) ⟨m,4,P⟩ v4) ⟨m,5,P⟩ v5) ⟨c,o,P⟩=Z v)/\ (∀c o,yV (φ (φ (φ (φ (φ (φ q ⟨m,0,P⟩ v0) ⟨m,1,P⟩ v1) ⟨m,2,P⟩ v2) ⟨m,3,P⟩ v3) ⟨m,4,P⟩ v4) ⟨m,5,P⟩ v5) ⟨c,o,P⟩=yV q ⟨c,o,P⟩):=by refine⟨(((((w.setCell k _).setCell k _).setCell k _).setCell k _).setCell k _).setCell k _,?_,?_,?_⟩;{simp[go_sem,h]};{intro c o v _ a;simp[go_sem,a]};simp_all
theorem zY{k:IntKind}(h:w=u):Ending.returned (Y k w)=O (Y k u):=by rw[h]
theorem yck{k a:IntKind}(h:w=u)(c:b=g):Ending.returned (yO #[Y k w,Y a b])=O (yO #[Y k u,Y a g]):=by rw[h,c]
theorem xC(h:a=c):Ending.returned (kA a)=O (kA c):=by rw[h]
theorem xi(h: -9223372036854775808<=w)(k:w<=9223372036854775807):IntKind.i64.wrap w=w:=by rw[IntKind.wrap_i64];omega
theorem jB(w:kp)(a b c:Obj):(((w.alloc a).alloc b).alloc c).heap[A (M w)]?=Z a/\(((w.alloc a).alloc b).alloc c).heap[A (M w)+1]?=Z b/\(((w.alloc a).alloc b).alloc c).heap[A (M w)+1+1]?=Z c:=by have h:((w.alloc a).alloc b).heap.size=A (M w)+1+1:=ς;refine⟨?_,?_,?_⟩;{grind [yB,yY]};{grind [yB,yY]};rw[<-h];exact yY ((w.alloc a).alloc b) c
structure But (F:Nat->Prop) (w w':kp):Prop where
 os:w'.os=w.os
 tape:w'.tape=w.tape
 output:w'.output=w.output
 size:A (M w)<=A (M w')
 block:∀k,k<A (M w)->¬F k->w'.heap[k]?=w.heap[k]?
namespace But
variable {F G:Nat->Prop} {w w1 w2:kp}
theorem refl(F:Nat->Prop)(w:kp):But F w w:=⟨rfl,rfl,rfl,km _,λ_ _ _=>rfl⟩
theorem trans(h:But F w w1)(k:But G w1 w2)(b:∀i,i<A (M w)->G i->F i):But F w w2:=⟨k.os.trans h.os,k.tape.trans h.tape,k.output.trans h.output,yS h.size k.size,λi a hF=>(k.block i (uv a h.size) (λc=>hF (b i a c))).trans (h.block i a hF)⟩
theorem mono(h:But F w w1)(a:∀i,i<A (M w)->F i->G i):But G w w1:=⟨h.os,h.tape,h.output,h.size,λi k c=>h.block i k (λb=>c (a i k b))⟩
theorem alloc(h:But F w w1)(o:Obj):But F w (w1.alloc o):=⟨h.os,h.tape,h.output,yS h.size ς,λi k hF=>(yB w1 o i (uv k h.size)).trans (h.block i k hF)⟩
theorem drew(h:But F w w1):But F w w1.drew:=⟨h.os,h.tape,h.output,h.size,h.block⟩
theorem setCell(h:But F w w1){a:Addr}(c:A (M w)<=a.block\/F a.block)(v:un):But F w (w1.setCell a v):=by have k:Below 0 w1 (w1.setCell a v):=(uK 0 w1).setCell (yH _) v;refine⟨k.os.trans h.os,k.tape.trans h.tape,k.output.trans h.output,yS h.size k.size,λi b hF=> ?_⟩;refine(kh w1 a v i ?_).trans (h.block i b hF);grind
theorem grown(h:But F w w1){b:Option Nat}(a:w1.grownBy w2 b)(d:∀k,b=Z k->A (M w)<=k\/F k):But F w w2:=⟨a.os.trans h.os,a.tape.trans h.tape,a.output.trans h.output,yS h.size a.size,λi c hF=>(a.block i (uv c h.size) (λe=>(d i e.symm).elim (λf=>ω) hF)).trans (h.block i c hF)⟩
theorem cell(h:But F w w1){a:Addr}(k:a.block<A (M w))(hF:¬F a.block):ψ w1 a=ψ w a:=I (h.block a.block k hF)
theorem frozen(h:But F w w1){a:Addr}(k:a.block<A (M w))(hF:¬F a.block):yV w1 a=yV w a:=kO (h.block a.block k hF)
theorem below(h:But F w w1){B:Nat}(a:B<=A (M w))(hF:∀k,F k->B<=k):Below B w w1:=⟨h.os,h.tape,h.output,h.size,λk c=>h.block k ω (λb=>γ)⟩
theorem ykg(h:Lw w w1):But F w w1:=⟨h.os,h.tape,h.output,h.size,λk a _=>h.block k a⟩
end But
end
section
namespace Pg
def ykk(t l:Bool)(r:Int)(u d:Bool)(f h:Int):Int:=if h<0\/3<h then 1 else if t=J then(if l=N\/r≠0\/u=N\/d=N\/f≠0 then 7 else 0)else if r<0\/7<r\/f<0\/1048576<=f then 1 else if (l=N/\h=3)\/(l=J/\h=0)then 2 else if l=N then(if f%span h=0 then 0 else 3)else if r≠7\/u=N\/d=N then 7 else 0
def b01(b:Bool):Int:=if b=N then 1 else 0
def ymd(t l:Bool)(r:Int)(u d:Bool)(f h:Int):Int:=if t=N then f*4096+r*2+1+32*b01 u+64*b01 d+(if l=N/\h≠0 then 128 else 0)else 0
def enc(t l:Bool)(r:Int)(u d:Bool)(f h:Int):Int:=if ykk t l r u d f h=0 then ymd t l r u d f h else 0
def wBad(w h:Int):Bool:=decide (w≠0/\¬(w%2=1/\w/16%2=0/\w/256%16=0/\w<4294967296/\¬(h=0/\w/128%2=1)))
def ylh(w h:Int):Bool:=decide (h=0)||decide (w/128%2=1)
def yk8(w:Int):Bool:=decide (w/32%2=1)
def ykI(w:Int):Bool:=decide (w/64%2=1)
def ykv(w h:Int):Int:=if h<0\/3<h then 1 else if wBad w h=N then 7 else if w=0 then 0 else ykk N (ylh w h) (w/2%8) (yk8 w) (ykI w) (w/4096) h
def ykC(w h:Int):Bool:=decide (ykv w h=0)&&decide (w≠0)
def xL(w h:Int):Bool:=ykC w h&&ylh w h
def xR(w h:Int):Int:=if ykC w h=N then w/2%8 else 0
def xU(w h:Int):Bool:=ykC w h&&yk8 w
def xD(w h:Int):Bool:=ykC w h&&ykI w
def xF(w h:Int):Int:=if ykC w h=N then w/4096 else 0
def lOk(t l:Bool)(r:Int)(u d:Bool)(f k h:Int):Bool:=decide (ykk t l r u d f k=0)&&l&&below h 4096
def ynL(t l:Bool)(r:Int)(u d:Bool)(f k h:Int):Int:=if lOk t l r u d f k h=N then h-h%span k else 0
def you(t l:Bool)(r:Int)(u d:Bool)(f k h:Int):Int:=if lOk t l r u d f k h=N then k else 0
def ym4(t l:Bool)(r:Int)(u d:Bool)(f k h:Int):Int:=if lOk t l r u d f k h=N then f else 0
def ylL(t l:Bool)(r:Int)(u d:Bool)(f k h:Int):Int:=if lOk t l r u d f k h=N then r else 0
def bit(w:Int)(k:Nat):Bool:=decide (w/2^k%2=1)
def known(k:Nat):Bool:=decide (k<=3)||(decide (5<=k)&&decide (k<=7))||(decide (12<=k)&&decide (k<=31))
def ykX(w h:Int)(k:Nat):Bool:=bit w k&&(!known k|| !bit w 0||(decide (k=7)&&decide (h=0)))
theorem ylZ:∀(n:Nat)(v:Int),0<=v->v<2^n->(∀j,j<n->v/2^j%2=0)->v=0|0,v,h0,h1,_=>by omega|n+1,v,h0,h1,h=>by have k:v%2=0:=by{simpa using h 0 ω};have w:v/2=0:=by{refine ylZ n (v/2) ω ?_ ?_;{omega};grind [yA,Int.mul_comm,ur]};omega
theorem bit_off(h:bit w m=J):w/2^m%2=0:=by simp[bit]at h;omega
theorem good_of_bits(l:0<=w)(m:w<18446744073709551616)(h:∀k,k<64->ykX w u k=J):wBad w u=J:=by cases hb:bit w 0;{have p:w=0:=by{refine ylZ 64 w l (by simpa using m) ?_;intro j b;refine bit_off ?_;have:=h j b;cases b:bit w j;{rfl};simp[ykX,b,hb]at this};simp[wBad,p]};have a:∀k,k<64->known k=J->w/2^k%2=0:=by{grind [bit,ykX]};have f:w%2=1:=by{simpa[bit]using hb};have g:w/16%2=0:=by{simpa using a 4 ω δ};have i:w/256%16=0:=by{have r:w/256%2=0:=by{simpa using a 8 ω δ};have s:w/512%2=0:=by{simpa using a 9 ω δ};have d:w/1024%2=0:=by{simpa using a 10 ω δ};have e:w/2048%2=0:=by{simpa using a 11 ω δ};omega};have c:w<4294967296:=by{have:w/4294967296=0:=by{refine ylZ 32 _ ω ω ?_;intro j b;have:=a (32+j) ω (by simp[known];omega);rw[yL,<-ur δ]at this;simpa using this};omega};have t:¬(u=0/\w/128%2=1):=by{rintro ⟨o,n⟩;have:=h 7 ω;have q:bit w 7=N:=by{simpa[bit]using n};simp[ykX,q,o]at this};simp[wBad,f,g,i,c];omega
theorem bits_of_good(n:0<=w)(o:m<64)(h:ykX w u m=N):wBad w u=N:=by simp only[ykX,yP,yN,yZ]at h;obtain⟨c,k⟩:=h;have a:w/2^m%2=1:=by{simpa[bit]using c};have d:w≠0:=by{intro e;simp_all};simp only[wBad,decide_eq_true_eq];refine⟨d,?_⟩;rintro ⟨f,g,l,b,i⟩;rcases k with (k|k)|k;{have:m=4\/m=8\/m=9\/m=10\/m=11\/32<=m:=by{simp[known]at k;omega};rcases this with e|e|e|e|e|e;{simp_all};{grind};{grind};{grind};{grind};obtain⟨j,rfl⟩:∃j,m=32+j:=⟨m-32,ω⟩;rw[yL,<-ur δ]at a;have:w/2^32=0:=ω;simp_all};{simp[bit]at k;omega};simp_all
theorem bitBad_off(h:bit w m=J):ykX w u m=J:=by simp[ykX,h]
theorem yn3(a:known m=N)(h:bit w 0=N)(k:¬(m:Int)=7\/¬u=0):ykX w u m=J:=by grind [ykX]
theorem bitBad_unknown(h:bit w m=N)(k:known m=J):ykX w u m=N:=by simp[ykX,h,k]
theorem bitBad_zero(h:bit w m=N)(k:bit w 0=J):ykX w u m=N:=by simp[ykX,h,k]
theorem bitBad_seven(h:bit w m=N)(k:(m:Int)=7)(a:u=0):ykX w u m=N:=by grind [ykX]
theorem ykF(h:ykk a c w d e u b=0):(0<=b/\b<=3)/\((a=J/\c=J/\w=0/\d=J/\e=J/\u=0)\/(a=N/\0<=w/\w<=7/\0<=u/\u<1048576/\((c=N/\b<=2/\u%span b=0)\/(c=J/\1<=b/\w=7/\d=J/\e=J)))):=by unfold ykk at h;split at h;{omega};split at h;{simp_all};split at h;{omega};grind
theorem ymz(d:0<=b)(i:b<=2)(f:0<=w)(g:w<=7)(h:0<=u)(k:u<1048576)(e:u%span b=0):ykk N N w a c u b=0:=by unfold ykk;grind
theorem fault_table(a:1<=u)(b:u<=3)(h:0<=w)(k:w<1048576):ykk N J 7 J J w u=0:=by grind [ykk]
theorem yns(h:0<=w)(k:w<=3):ykk J J 0 J J 0 w=0:=by unfold ykk;simp_all
theorem yl4(h:ykk a c w d e u b=0):enc a c w d e u b=ymd a c w d e u b:=by simp[enc,h]
theorem ylD(b:Bool):(b=N/\b01 b=1)\/(b=J/\b01 b=0):=by simp[b01]
theorem ymg(h:ykk a c w d e u b=0):0<=enc a c w d e u b/\enc a c w d e u b<18446744073709551616/\ykv (enc a c w d e u b) b=0/\(enc a c w d e u b=0 ↔ a=J)/\ ykC (enc a c w d e u b) b=a/\xL (enc a c w d e u b) b=c/\xR (enc a c w d e u b) b=w/\xU (enc a c w d e u b) b=d/\xD (enc a c w d e u b) b=e/\xF (enc a c w d e u b) b=u:=by rw[yl4 h];obtain⟨⟨l0,l3⟩,o⟩:=ykF h;have X:¬(b<0\/3<b):=ω;rcases o with ⟨rfl,rfl,rfl,rfl,rfl,rfl⟩|⟨rfl,r0,r1,f0,f1,o⟩;{have r:ymd J J 0 J J 0 b=0:=rfl;have p:ykv 0 b=0:=by{simp[ykv,X,wBad]};rw[r];refine⟨ω,ω,p,ς,?_⟩;simp[xL,xR,xU,xD,xF,ykC]};have r:ymd N c w d e u b=u*4096+w*2+1+32*b01 d+64*b01 e+(if c=N/\b≠0 then 128 else 0):=by{simp[ymd]};generalize q:(if c=N/\b≠0 then(128:Int)else 0)=m at r;have S:(m=128/\c=N/\b≠0)\/(m=0/\¬(c=N/\b≠0)):=by{split at q;{rename_i n;exact .inl ⟨q.symm,n⟩};rename_i n;exact .inr ⟨q.symm,n⟩};have W:=ylD d;have p:=ylD e;generalize ymd N c w d e u b=k at*;have T:0<=b01 d/\b01 d<=1:=ω;have K:0<=b01 e/\b01 e<=1:=ω;have m0:0<=m/\m<=128:=ω;have s:k/2%8=w:=ω;have t:k/4096=u:=ω;have y:yk8 k=d:=by{rcases W with ⟨f,g⟩|⟨f,g⟩<;>rw[f]<;>simp[yk8]<;>omega};have v:ykI k=e:=by{rcases p with ⟨f,g⟩|⟨f,g⟩<;>rw[f]<;>simp[ykI]<;>omega};have x:ylh k b=c:=by{by_cases j:b=0;{have:c=N:=by{rcases o with ⟨f,_⟩|⟨_,g,_⟩;{exact f};omega};simp[ylh,j,this]};rcases S with ⟨f,g,_⟩|⟨f,g⟩;{rw[g];simp[ylh,j];omega};have:c=J:=by{cases c;{rfl};exact absurd ⟨rfl,j⟩ g};rw[this];simp[ylh,j];omega};have l:k≠0:=ω;have L:wBad k b=J:=by{simp only[wBad,decide_eq_false_iff_not];intro F;refine F.2 ⟨ω,ω,ω,ω,?_⟩;rintro ⟨j,h7⟩;have:m=0:=by{rcases S with ⟨_,_,D⟩|⟨f,_⟩;{exact absurd j D};exact f};omega};have z:ykv k b=0:=by{simp only[ykv,X,if_false,L,Bool.false_eq_true,l];rw[x,s,y,v,t];exact h};have i:ykC k b=N:=by{simp[ykC,z,l]};refine⟨ω,ω,z,by simp[l],i,?_,?_,?_,?_,?_⟩;{simp[xL,i,x]};{simp[xR,i,s]};{simp[xU,i,y]};{simp[xD,i,v]};simp[xF,i,t]
theorem yop(m:0<=w)(h:ykv w u=0):ykk (ykC w u) (xL w u) (xR w u) (xU w u) (xD w u) (xF w u) u=0/\enc (ykC w u) (xL w u) (xR w u) (xU w u) (xD w u) (xF w u) u=w:=by by_cases b:w=0;{subst b;have k:ykC 0 u=J:=by{simp[ykC]};have j:¬(u<0\/3<u):=by{intro a;simp[ykv,a]at h};have:ykk J J 0 J J 0 u=0:=yns ω ω;have e:xL 0 u=J/\xR 0 u=0/\xU 0 u=J/\xD 0 u=J/\xF 0 u=0:=by{simp[xL,xR,xU,xD,xF,k]};rw[k,e.1,e.2.1,e.2.2.1,e.2.2.2.1,e.2.2.2.2];refine⟨this,?_⟩;rw[yl4 this];rfl};have k:ykC w u=N:=by{simp[ykC,h,b]};have j:¬(u<0\/3<u):=by{intro a;simp[ykv,a]at h};have i:wBad w u=J:=by{grind [wBad,ykv]};have d:ykk N (ylh w u) (w/2%8) (yk8 w) (ykI w) (w/4096) u=0:=by{simp_all[ykv]};have e:xL w u=ylh w u/\xR w u=w/2%8/\xU w u=yk8 w/\xD w u=ykI w/\xF w u=w/4096:=by{simp[xL,xR,xU,xD,xF,k]};rw[k,e.1,e.2.1,e.2.2.1,e.2.2.2.1,e.2.2.2.2];rw[yl4 d];have l:=Classical.not_not.1 (λf=>of_decide_eq_false i ⟨b,f⟩);have g:b01 (yk8 w)=w/32%2:=by{unfold b01 yk8;grind};have c:b01 (ykI w)=w/64%2:=by{unfold b01 ykI;grind};have a:(if ylh w u=N/\u≠0 then(128:Int)else 0)=128*(w/128%2):=by{grind [ylh]};simp only[ymd,if_true,g,c,a];omega
theorem kint(k:Nat):(decide ((k:Int)<=3)=N/\known k=N)\/(decide ((k:Int)<=3)=J/\decide (5<=(k:Int))=J/\decide (12<=(k:Int))=J/\known k=J)\/(decide ((k:Int)<=3)=J/\decide (5<=(k:Int))=N/\decide ((k:Int)<=7)=N/\known k=N)\/(decide ((k:Int)<=3)=J/\decide (5<=(k:Int))=N/\decide ((k:Int)<=7)=J/\decide (12<=(k:Int))=J/\known k=J)\/(decide ((k:Int)<=3)=J/\decide (5<=(k:Int))=N/\decide ((k:Int)<=7)=J/\decide (12<=(k:Int))=N/\decide ((k:Int)<=31)=N/\known k=N)\/(decide ((k:Int)<=3)=J/\decide (5<=(k:Int))=N/\decide ((k:Int)<=7)=J/\decide (12<=(k:Int))=N/\decide ((k:Int)<=31)=J/\known k=J):=by simp[known];omega
def decV(W h:Int):un:=yO #[ud #[kA (ykC W h),kA (xL W h),Y V (xR W h),kA (xU W h),kA (xD W h),Y V (xF W h)],Y V (ykv W h)]
theorem ymP(h:ykv w u=b)(k:ykC w u=J):decV w u=yO #[ud #[kA J,kA J,Y V 0,kA J,kA J,Y V 0],Y V b]:=by simp[decV,xL,xR,xU,xD,xF,k,h]
theorem decV_good(h:ykv w u=0)(a:w≠0):decV w u=yO #[ud #[kA N,kA (ylh w u),Y V (w/2%8),kA (yk8 w),kA (ykI w),Y V (w/4096)],Y V 0]:=by have k:ykC w u=N:=by{simp[ykC,h,a]};simp[decV,xL,xR,xU,xD,xF,k,h]
def mapV(t l:Bool)(r:Int)(u d:Bool)(f k h:Int):un:=ud #[Y V (ynL t l r u d f k h),Y V (you t l r u d f k h),Y V (ym4 t l r u d f k h),Y V (ylL t l r u d f k h)]
theorem ynO{f k at':Int}(h:lOk a c w d e f k at'=J):mapV a c w d e f k at'=ud #[Y V 0,Y V 0,Y V 0,Y V 0]:=by simp[mapV,ynL,you,ym4,ylL,h]
theorem yo1{f k at':Int}(h:lOk a c w d e f k at'=N):mapV a c w d e f k at'=ud #[Y V (at'-at'%Pg.span k),Y V k,Y V f,Y V w]:=by simp[mapV,ynL,you,ym4,ylL,h]
theorem enc_inj{m l:Bool}(i:ykk a c w d e u b=0)(n:ykk f h g m l k b=0)(j:enc a c w d e u b=enc f h g m l k b):a=f/\c=h/\w=g/\d=m/\e=l/\u=k:=by obtain⟨_,_,_,_,o,p,q,r,s,t⟩:=ymg i;obtain⟨_,_,_,_,v,x,y,z,X,S⟩:=ymg n;simp_all
theorem xor_marks(y w:Nat)(f:y/128=w/128)(e:y%32=w%32)(k:y<18446744073709551616)(h:w<18446744073709551616):bits .andNot ks (bits .xor ks (y:Int) (w:Int)) 96=0:=by have b:=Nat.xor_lt_two_pow (n:=64) k h;have a:(96:Int)=((96:Nat):Int):=rfl;rw[u64_xor_nat y w k h,a,u64_andNot_nat _ 96 b δ];have d:(y^^^w)/2^7=0:=by{rw[Nat.xor_div_two_pow];simp_all};have c:(y^^^w)%2^5=0:=by{rw[Nat.xor_mod_two_pow];simp_all};generalize y^^^w=z at*;have:z=0\/z=32\/z=64\/z=96:=ω;grind
theorem marks(g f:Bool)(h:ykk a N w c d u b=0):a=N/\ykk a N w g f u b=0/\bits .andNot ks (bits .xor ks (enc a N w g f u b) (enc a N w c d u b)) 96=0/\ (enc a N w g f u b=enc a N w c d u b ↔ g=c/\f=d):=by obtain⟨⟨W,l3⟩,S⟩:=ykF h;rcases S with ⟨_,j,_⟩|⟨F,L,K,s,t,⟨_,v,x⟩|⟨j,_⟩⟩;{cases j};{subst F;have i:ykk N N w g f u b=0:=ymz W v L K s t x;refine⟨rfl,i,?_,?_⟩;{obtain⟨o,T,_⟩:=ymg i;obtain⟨p,b1,_⟩:=ymg h;have hy:enc N N w g f u b=u*4096+w*2+1+32*b01 g+64*b01 f+(if b≠0 then 128 else 0):=by{rw[yl4 i];simp[ymd]};have hw:enc N N w c d u b=u*4096+w*2+1+32*b01 c+64*b01 d+(if b≠0 then 128 else 0):=by{rw[yl4 h];simp[ymd]};have c1:=ylD g;have c2:=ylD f;have c3:=ylD c;have c4:=ylD d;generalize enc N N w g f u b=y at*;generalize enc N N w c d u b=k at*;obtain⟨n,rfl⟩:=U o;obtain⟨l,rfl⟩:=U p;generalize D:(if b≠0 then(128:Int)else 0)=m at*;have sW:m=128\/m=0:=by{split at D<;>omega};have q:n%32=l%32:=ω;have r:n/128=l/128:=ω;exact xor_marks n l r q ω ω};constructor;{intro e;obtain⟨_,_,_,z,X,_⟩:=enc_inj i h e;exact⟨z,X⟩};rintro ⟨rfl,rfl⟩;rfl};cases j
end Pg
namespace Pg
theorem ymO(W k n:Nat):W&&&((2^n-1)*2^k)=(W/2^k%2^n)*2^k:=by apply Nat.eq_of_testBit_eq;grind
theorem ynp(W:Int)(h:0<=W)(b:W<18446744073709551616)(k n m:Nat)(a:(2^n-1)*2^k=m)(w:m<18446744073709551616):bits .and ks W (m:Int)=(W/2^k%2^n)*2^k:=by obtain⟨v,rfl⟩:=U h;rw[u64_and_nat v m ω w,<-a,ymO];simp
theorem and1(W:Int)(h:0<=W)(k:W<18446744073709551616):bits .and ks W 1=W%2:=by have:=ynp W h k 0 1 1 rfl δ;simpa using this
theorem and32(W:Int)(h:0<=W)(k:W<18446744073709551616):bits .and ks W 32=W/32%2*32:=by have:=ynp W h k 5 1 32 rfl δ;simpa using this
theorem and64(W:Int)(h:0<=W)(k:W<18446744073709551616):bits .and ks W 64=W/64%2*64:=by have:=ynp W h k 6 1 64 rfl δ;simpa using this
theorem ypn(W:Int)(h:0<=W)(k:W<18446744073709551616):bits .and ks W 128=W/128%2*128:=by have:=ynp W h k 7 1 128 rfl δ;simpa using this
theorem and14(W:Int)(h:0<=W)(k:W<18446744073709551616):bits .and ks W 14=W/2%8*2:=by have:=ynp W h k 1 3 14 rfl δ;simpa using this
theorem andF(W:Int)(h:0<=W)(k:W<18446744073709551616):bits .and ks W 4294963200=W/4096%1048576*4096:=by have:=ynp W h k 12 20 4294963200 rfl δ;simpa using this
theorem known_not(W:Int)(w:0<=W)(a:W<18446744073709551616):bits .andNot ks W 4294963439=0 ↔ W/16%2=0/\W/256%16=0/\W<4294967296:=by obtain⟨v,rfl⟩:=U w;have h:(4294963439:Int)=((4294963439:Nat):Int):=rfl;have k:(18446744073709551615-4294963439:Nat)=((2^1-1)*2^4|||(2^4-1)*2^8)|||(2^32-1)*2^32:=δ;rw[h,u64_andNot_nat v _ ω δ,k,yC,yC,ymO,ymO,ymO];have:((((v/2^4%2^1*2^4|||v/2^8%2^4*2^8)|||v/2^32%2^32*2^32:Nat):Int)=0) ↔ (v/2^4%2^1*2^4=0/\v/2^8%2^4*2^8=0)/\v/2^32%2^32*2^32=0:=ξ;omega
theorem wBad_eq(W w:Int)(h:0<=W)(k:W<18446744073709551616):wBad W w=(bits .andNot ks W 4294963439 !=0||((bits .and ks W 1==0)&&(W !=0))||((bits .and ks W 128 !=0)&&(w==0))):=by rw[and1 W h k,ypn W h k,Bool.eq_iff_iff];have a:=known_not W h k;simp only[wBad,decide_eq_true_eq,yN,yP,bne_iff_ne,ne_eq,beq_iff_eq];omega
theorem or_low(F x y:Nat)(h:x<4096)(k:y<4096):(4096*F+x)|||y=4096*F+(x|||y):=by have w:2^12*F+x=2^12*F|||x:=us h F;have a:2^12*F+(x|||y)=2^12*F|||(x|||y):=us (Nat.or_lt_two_pow (n:=12) h k) F;grind
theorem or_bit(f x:Int)(h:0<=f)(a:f<1048576)(w:0<=x)(c:x<4096)(y z:Nat)(k:y<4096)(b:x.toNat|||y=z):bits .or ks (f*4096+x) (y:Int)=f*4096+z:=by obtain⟨F,rfl⟩:=U h;obtain⟨X,rfl⟩:=U w;have e:((F:Int)*4096+(X:Int))=((4096*F+X:Nat):Int):=ω;rw[e,u64_or_nat _ y ω ω,or_low F X y ω k];simp_all
theorem or_frame(f x:Int)(h:0<=f)(a:f<1048576)(k:0<=x)(b:x<4096):bits .or ks x (f*4096)=f*4096+x:=by obtain⟨F,rfl⟩:=U h;obtain⟨X,rfl⟩:=U k;have e:((F:Int)*4096)=((4096*F:Nat):Int):=ω;have w:2^12*F+X=2^12*F|||X:=us ω F;rw[e,u64_or_nat X _ ω ω,Nat.or_comm];grind
theorem word_or(r f:Int)(a:0<=r)(b:r<=7)(h:0<=f)(k:f<1048576):bits .or ks (bits .or ks 1 (r*2)) (f*4096)=f*4096+(r*2+1)/\ bits .or ks (f*4096+(r*2+1)) 32=f*4096+(r*2+33)/\bits .or ks (f*4096+(r*2+1)) 64=f*4096+(r*2+65)/\bits .or ks (f*4096+(r*2+33)) 64=f*4096+(r*2+97)/\ bits .or ks (f*4096+(r*2+1)) 128=f*4096+(r*2+129)/\bits .or ks (f*4096+(r*2+33)) 128=f*4096+(r*2+161)/\bits .or ks (f*4096+(r*2+65)) 128=f*4096+(r*2+193)/\bits .or ks (f*4096+(r*2+97)) 128=f*4096+(r*2+225):=by have w:r=0\/r=1\/r=2\/r=3\/r=4\/r=5\/r=6\/r=7:=ω;rcases w with rfl|rfl|rfl|rfl|rfl|rfl|rfl|rfl;all_goals refine⟨?_,?_,?_,?_,?_,?_,?_,?_⟩;{exact or_frame f _ h k δ δ};{exact or_bit f _ h k δ δ 32 _ δ rfl};{exact or_bit f _ h k δ δ 64 _ δ rfl};{exact or_bit f _ h k δ δ 64 _ δ rfl};{exact or_bit f _ h k δ δ 128 _ δ rfl};{exact or_bit f _ h k δ δ 128 _ δ rfl};{exact or_bit f _ h k δ δ 128 _ δ rfl};exact or_bit f _ h k δ δ 128 _ δ rfl
theorem check_small(f r:Int):check 0 0 f r=if r<0\/7<r\/f<0\/1048576<=f then 1 else 0:=by have h:span 0=1:=rfl;split;{refine ylr δ ?_;simp only[below,yN,yZ,Bool.and_eq_false_iff,decide_eq_false_iff_not];omega};grind [yk7,zB]
theorem check_leaf(h:¬(u<0\/7<u\/w<0\/1048576<=w))(k:0<=b)(a:b<=2):check 0 b w u=if w%span b=0 then 0 else 3:=by grind [ykx,yk7,zB]
end Pg
theorem zx(n e:Int)(w:kp):ua kW 246 #[Y V n,Y V e] w λr a=>r=O (kA (Pg.below n e))/\a=w:=by by_cases h:0<=n;{have k:decide (0<=n)=N:=by{simpa using h};go_enter func246,ntmps246;go_wp2;go_ret;exact⟨by simp[Pg.below,k],rfl⟩};have k:decide (0<=n)=J:=by{simpa using h};go_enter func246,ntmps246;go_wp2;go_ret;exact⟨by simp[Pg.below,k],rfl⟩
theorem xW(s:Int)(w:kp):ua kW 174 #[Y V s] w λr h=>r=O (Y V (Pg.span s))/\h=w:=by go_enter func174,ntmps174;go_wp2;all_goals go_ret;exact⟨by simp_all[Pg.span],rfl⟩
theorem xx(n:Int)(w:kp):ua kW 208 #[Y V n] w λr h=>r=O (kA (Pg.below n 4096))/\h=w:=by go_enter func208,ntmps208;go_wp2_with (go_at_call 246;refine(zx _ _ _).mono ?_;rintro e h ⟨rfl,rfl⟩);go_ret;exact⟨rfl,rfl⟩
theorem xg(n:Int)(w:kp):ua kW 254 #[Y V n] w λr h=>r=O (kA (Pg.below n 8))/\h=w:=by go_enter func254,ntmps254;go_wp2_with (go_at_call 246;refine(zx _ _ _).mono ?_;rintro e h ⟨rfl,rfl⟩);go_ret;exact⟨rfl,rfl⟩
theorem ye8(k:Int)(w:kp):ua kW 255 #[Y V k] w λr b=>r=O (kA (Pg.isKind k))/\b=w:=by by_cases h:(k==0)=N;{go_enter func255,ntmps255;go_wp2;go_ret;exact⟨by simp[Pg.isKind,h],rfl⟩};have h:(k==0)=J:=by{simpa using h};by_cases a:(k==1)=N;{go_enter func255,ntmps255;go_wp2;go_ret;exact⟨by simp[Pg.isKind,a],rfl⟩};have a:(k==1)=J:=by{simpa using a};go_enter func255,ntmps255;go_wp2;go_ret;exact⟨by simp[Pg.isKind,h,a],rfl⟩
theorem yg5(p k:Int)(u:Bool)(w:kp):ua kW 284 #[ud #[Y V p,Y V k,kA u]] w λr h=>r=O (Y V (Pg.asks k u:Int))/\Lw w h:=by cases u;all_goals go_enter func284,ntmps284;go_wp2;all_goals go_ret;exact⟨by simp_all[Pg.asks]<;>rfl,(uK _ _).alloc (km _) _⟩
theorem ju(p s f r q:Int)(a:Pg.fits p)(b:Pg.fits q)(w:kp):ua kW 258 #[ud #[Y V p,Y V s,Y V f,Y V r],Y V q] w λe c=>e=O (kA (Pg.over p s q))/\Lw w c:=by have d:=yk3 s;by_cases h:p<=q;{have k:decide (p<=q)=N:=by{simpa using h};go_enter func258,ntmps258;go_wp2;go_quiet ((go_at_call 174;exact Calls.quiet_of_same (xW _ _)));go_wp2;go_ret;exact⟨by rw[<-over_yes a b h];rfl,below_drewN ((uK _ _).alloc (km _) _) _⟩};have k:decide (p<=q)=J:=by{simpa using h};go_enter func258,ntmps258;go_wp2;go_quiet ((go_at_call 174;exact Calls.quiet_of_same (xW _ _)));go_wp2;go_ret;exact⟨by rw[over_no k];rfl,below_drewN ((uK _ _).alloc (km _) _) _⟩
theorem xm(p s f r:Int)(w:kp):ua kW 220 #[ud #[Y V p,Y V s,Y V f,Y V r]] w λe k=>e=O (Y V (Pg.check p s f r))/\Lw w k:=by have S:=yk3 s;by_cases d:Pg.span s=0;{have x:(Pg.span s==0)=N:=by{simpa using d};have a:Hh (Pg.span s=0):=d;clear d;go_enter func220,ntmps220;go_wp2_with (first|(go_at_call 174;refine(xW _ _).mono ?_;rintro e k ⟨rfl,rfl⟩)|(go_at_call 208;refine(xx _ _).mono ?_;rintro e k ⟨rfl,rfl⟩)|(go_at_call 246;refine(zx _ _ _).mono ?_;rintro e k ⟨rfl,rfl⟩)|(go_at_call 254;refine(xg _ _).mono ?_;rintro e k ⟨rfl,rfl⟩));go_ret;exact⟨by rw[ynq a.o];rfl,(uK _ _).alloc (km _) _⟩};have x:(Pg.span s==0)=J:=by{simpa using d};have a:Hh (Pg.span s≠0):=d;have X:1<=Pg.span s:=ω;clear d;by_cases t:(!Pg.below p 4096|| !Pg.below f 1048576|| !Pg.below r 8)=N;{have g:Hh ((!Pg.below p 4096|| !Pg.below f 1048576|| !Pg.below r 8)=N):=t;clear t;cases i:Pg.below p 4096;{go_enter func220,ntmps220;go_wp2_with (first|(go_at_call 174;refine(xW _ _).mono ?_;rintro e k ⟨rfl,rfl⟩)|(go_at_call 208;refine(xx _ _).mono ?_;rintro e k ⟨rfl,rfl⟩)|(go_at_call 246;refine(zx _ _ _).mono ?_;rintro e k ⟨rfl,rfl⟩)|(go_at_call 254;refine(xg _ _).mono ?_;rintro e k ⟨rfl,rfl⟩));go_ret;exact⟨by rw[ylr a.o g.o];rfl,(uK _ _).alloc (km _) _⟩};cases j:Pg.below f 1048576;{go_enter func220,ntmps220;go_wp2_with (first|(go_at_call 174;refine(xW _ _).mono ?_;rintro e k ⟨rfl,rfl⟩)|(go_at_call 208;refine(xx _ _).mono ?_;rintro e k ⟨rfl,rfl⟩)|(go_at_call 246;refine(zx _ _ _).mono ?_;rintro e k ⟨rfl,rfl⟩)|(go_at_call 254;refine(xg _ _).mono ?_;rintro e k ⟨rfl,rfl⟩));go_ret;exact⟨by rw[ylr a.o g.o];rfl,(uK _ _).alloc (km _) _⟩};cases q:Pg.below r 8;{go_enter func220,ntmps220;go_wp2_with (first|(go_at_call 174;refine(xW _ _).mono ?_;rintro e k ⟨rfl,rfl⟩)|(go_at_call 208;refine(xx _ _).mono ?_;rintro e k ⟨rfl,rfl⟩)|(go_at_call 246;refine(zx _ _ _).mono ?_;rintro e k ⟨rfl,rfl⟩)|(go_at_call 254;refine(xg _ _).mono ?_;rintro e k ⟨rfl,rfl⟩));go_ret;exact⟨by rw[ylr a.o g.o];rfl,(uK _ _).alloc (km _) _⟩};exact absurd g.o (by simp[i,j,q])};have i:Pg.below p 4096=N:=by{cases h:Pg.below p 4096<;>simp_all};have j:Pg.below f 1048576=N:=by{cases h:Pg.below f 1048576<;>simp_all};have q:Pg.below r 8=N:=by{cases h:Pg.below r 8<;>simp_all};clear t;have y:=zB.1 i;have z:=zB.1 j;have n:Hh (Pg.check p s f r=if p%Pg.span s=0/\f%Pg.span s=0 then 0 else 3):=yk7 a.o i j q;by_cases b:p%Pg.span s=0;{have u:(p%Pg.span s !=0)=J:=by{simp[b]};have l:Hh (p%Pg.span s=0):=b;clear b;by_cases c:f%Pg.span s=0;{have v:(f%Pg.span s !=0)=J:=by{simp[c]};have m:Hh (f%Pg.span s=0):=c;clear c;go_enter func220,ntmps220;go_wp2_with (first|(go_at_call 174;refine(xW _ _).mono ?_;rintro e k ⟨rfl,rfl⟩)|(go_at_call 208;refine(xx _ _).mono ?_;rintro e k ⟨rfl,rfl⟩)|(go_at_call 246;refine(zx _ _ _).mono ?_;rintro e k ⟨rfl,rfl⟩)|(go_at_call 254;refine(xg _ _).mono ?_;rintro e k ⟨rfl,rfl⟩));go_ret;exact⟨by rw[n.o,iP ⟨l.o,m.o⟩];rfl,(uK _ _).alloc (km _) _⟩};have v:(f%Pg.span s !=0)=N:=by{simp[c]};have m:Hh (¬f%Pg.span s=0):=c;clear c;go_enter func220,ntmps220;go_wp2_with (first|(go_at_call 174;refine(xW _ _).mono ?_;rintro e k ⟨rfl,rfl⟩)|(go_at_call 208;refine(xx _ _).mono ?_;rintro e k ⟨rfl,rfl⟩)|(go_at_call 246;refine(zx _ _ _).mono ?_;rintro e k ⟨rfl,rfl⟩)|(go_at_call 254;refine(xg _ _).mono ?_;rintro e k ⟨rfl,rfl⟩));go_ret;exact⟨by rw[n.o,iN (λh=>m.o h.2)];rfl,(uK _ _).alloc (km _) _⟩};have u:(p%Pg.span s !=0)=N:=by{simp[b]};have l:Hh (¬p%Pg.span s=0):=b;clear b;go_enter func220,ntmps220;go_wp2_with (first|(go_at_call 174;refine(xW _ _).mono ?_;rintro e k ⟨rfl,rfl⟩)|(go_at_call 208;refine(xx _ _).mono ?_;rintro e k ⟨rfl,rfl⟩)|(go_at_call 246;refine(zx _ _ _).mono ?_;rintro e k ⟨rfl,rfl⟩)|(go_at_call 254;refine(xg _ _).mono ?_;rintro e k ⟨rfl,rfl⟩));go_ret;exact⟨by rw[n.o,iN (λh=>l.o h.1)];rfl,(uK _ _).alloc (km _) _⟩
theorem ycf(p s f r k a j l:Int)(d:Pg.fits p)(g:Pg.fits k)(w:kp):ua kW 268 #[ud #[Y V p,Y V s,Y V f,Y V r],ud #[Y V k,Y V a,Y V j,Y V l]] w λe m=>e=O (kA (Pg.meet p s k a))/\Lw w m:=by cases h:Pg.over p s k;{have c:Hh (Pg.meet p s k a=Pg.over k a p):=by{simp[Hh,Pg.meet,h]};go_enter func268,ntmps268;go_wp2_with fail;refine(ju _ _ _ _ _ d g _).mono ?_;rintro e n ⟨rfl,b⟩;obtain⟨t,q⟩:=qi b;go_wp2_with fail;refine(ju _ _ _ _ _ g d _).mono ?_;rintro e u ⟨rfl,i⟩;go_wp2;go_ret;exact⟨by rw[c.o];rfl,zT (zT (zA (zA (zR _) _) _) b) i⟩};have c:Hh (Pg.meet p s k a=N):=by{simp[Hh,Pg.meet,h]};go_enter func268,ntmps268;go_wp2_with fail;refine(ju _ _ _ _ _ d g _).mono ?_;rintro e n ⟨rfl,b⟩;go_wp2;go_ret;exact⟨by rw[c.o];rfl,zT (zA (zA (zR _) _) _) b⟩
theorem yce(r p k:Int)(u:Bool)(w:kp):ua kW 259 #[Y V r,ud #[Y V p,Y V k,kA u]] w λe b=>e=O (kA (Pg.may r k u))/\Lw w b:=by have h:Hh _:=may_eq r k u;go_enter func259,ntmps259;go_wp2_with fail;refine(yg5 _ _ _ _).mono ?_;rintro e c ⟨rfl,a⟩;go_wp2;go_ret;exact⟨by rw[<-h.o];rfl,zT (zA (zR _) _) a⟩
theorem xT(p k:Int)(u:Bool)(w:kp):ua kW 221 #[ud #[Y V p,Y V k,kA u]] w λe h=>e=O (Y V (zK p k))/\Lw w h:=by cases h1:Pg.isKind k<;>cases h2:Pg.below p 4096;all_goals go_enter func221,ntmps221;go_wp2_with (first|(refine(ye8 _ _).mono ?_;rintro e h ⟨rfl,rfl⟩)|(refine(xx _ _).mono ?_;rintro e h ⟨rfl,rfl⟩));go_ret;exact⟨by simp[zK,h1,h2],(uK _ _).alloc (km _) _⟩
theorem ydC(p s f r q k:Int)(u:Bool)(w:kp):ua kW 224 #[ud #[Y V p,Y V s,Y V f,Y V r],ud #[Y V q,Y V k,kA u]] w λe d=>e=O (if Pg.may r k u=N then ud #[Y V 0,Y V (wrap64 (f+wrap64 (q-p))),Y V r]else ud #[Y V 2,Y V 0,Y V 0])/\Lw w d:=by cases h:Pg.may r k u;{go_enter func224,ntmps224;go_wp2_with fail;refine(yce _ _ _ _ _).mono ?_;rintro e g ⟨rfl,a⟩;obtain⟨b,c⟩:=qi a;go_wp2;refine yD (v:=ud #[Y V 2,Y V 0,Y V 0]) ?_ rfl ⟨ς,?_⟩;{simp[results,results224,go_sem,b]};exact(((zT (zA (zA (zA (zR _) _) _) _) a).setCell χ _).setCell χ _).setCell χ _};go_enter func224,ntmps224;go_wp2_with fail;refine(yce _ _ _ _ _).mono ?_;rintro e g ⟨rfl,a⟩;obtain⟨b,c⟩:=qi a;go_wp2;refine yD (v:=ud #[Y V 0,Y V (wrap64 (f+wrap64 (q-p))),Y V r]) ?_ rfl ⟨ς,?_⟩;{simp[results,results224,go_sem,b]};exact(((zT (zA (zA (zA (zR _) _) _) _) a).setCell χ _).setCell χ _).setCell χ _
theorem vy(p s f r q k:Int)(u:Bool)(w:kp):ua kW 224 #[ud #[Y V p,Y V s,Y V f,Y V r],ud #[Y V q,Y V k,kA u]] w λe h=>e=O (ud #[Y V (aEnd r k u),Y V (yk4 p f r q k u),Y V (ykK r k u)])/\Lw w h:=by refine(ydC p s f r q k u w).mono ?_;rintro e h ⟨rfl,a⟩;refine⟨?_,a⟩;unfold aEnd yk4 ykK;split<;>rfl
theorem yaD(p l:Int)(w:kp):ua kW 241 #[Y V p,Y V l] w λe h=>e=O (Y V (Pg.index p l))/\h=w:=by cases h1:Pg.below p 4096;{have b:Hh (Pg.index p l= -1):=by{simp[Hh,Pg.index,h1]};go_enter func241,ntmps241;go_wp2_with (first|(go_at_call 246;refine(zx _ _ _).mono ?_;rintro e h ⟨rfl,rfl⟩)|(go_at_call 208;refine(xx _ _).mono ?_;rintro e h ⟨rfl,rfl⟩));go_ret;exact⟨by rw[b.o];rfl,rfl⟩};cases h2:Pg.below l 4;{have b:Hh (Pg.index p l= -1):=by{simp[Hh,Pg.index,h2]};go_enter func241,ntmps241;go_wp2_with (first|(go_at_call 246;refine(zx _ _ _).mono ?_;rintro e h ⟨rfl,rfl⟩)|(go_at_call 208;refine(xx _ _).mono ?_;rintro e h ⟨rfl,rfl⟩));go_ret;exact⟨by rw[b.o];rfl,rfl⟩};have b:Hh (Pg.index p l=p/8^l.toNat%8):=by{simp[Hh,Pg.index,h1,h2]};have g:=zB.1 h1;have j:=zB.1 h2;go_enter func241,ntmps241;go_wp2_with (first|(go_at_call 246;refine(zx _ _ _).mono ?_;rintro e h ⟨rfl,rfl⟩)|(go_at_call 208;refine(xx _ _).mono ?_;rintro e h ⟨rfl,rfl⟩));go_loop [0,14] (λa i=>∃(k:Nat)(q:Int),(k:Int)<=l/\i=Y V k/\a=Y V q/\0<=q/\q<4096/\Hh (q=p/8^k)) (λ_ i=>(l-intOf i).toNat);(case atStart=>exact⟨0,p,ω,rfl,rfl,ω,ω,by simp[Hh]⟩);case round=>obtain⟨k,q,m,rfl,rfl,n,r,c⟩:=hrel;by_cases f:(k:Int)<l;{go_wp2;go_round;(case rel=>exact⟨k+1,q/8,ω,by go_num,rfl,ω,ω,by grind [Hh,ur,Int.pow_nonneg,yA]⟩);case measure=>simp[intOf];omega};go_wp2;go_ret;have d:l.toNat=k:=ω;exact⟨by rw[b.o,d,<-c.o];rfl,rfl⟩
namespace Pg
structure Fs where
 n:Nat
 next:Nat
 used:List Nat
 back:List Nat
 word:Nat->Nat->Int
namespace Fs
def new(n:Nat):Fs:=⟨n,0,[],[],λ_ _=>0⟩
structure Ok (S:Fs):Prop where
 perm:(S.used++S.back).Perm (List.range S.next)
 top:S.next<=S.n
 small:S.n<=128
 low:∀k i,0<=S.word k i
 high:∀k i,S.word k i<18446744073709551616
def inn(S:Fs)(k:Nat):Bool:=decide (k ∈ S.used)
def has(S:Fs)(k:Int):Bool:=decide (0<=k)&&S.inn k.toNat
def pick(S:Fs):Option Nat:=match S.back.getLast? with|some k=>Z k|none=>if S.next<S.n then Z S.next else P
def put(f:Nat->Nat->Int)(k i:Nat)(v:Int):Nat->Nat->Int:=λa b=>if a=k/\b=i then v else f a b
def clear(f:Nat->Nat->Int)(k:Nat):Nat->Nat->Int:=λa b=>if a=k then 0 else f a b
def takeN(S:Fs):Int:=match S.pick with|some k=>(k:Int)|none=> -1
def take(S:Fs):Fs:=match S.back.getLast? with|some k=>{S with used:=k::S.used,back:=S.back.dropLast,word:=clear S.word k}|none=>if S.next<S.n then{S with used:=S.next::S.used,next:=S.next+1,word:=clear S.word S.next}else S
def give(S:Fs)(k:Int):Fs:=if S.has k=N then{S with used:=S.used.erase k.toNat,back:=S.back++[k.toNat]}else S
def free(S:Fs):Int:=ρ S.back+S.n-S.next
def at'(S:Fs)(k i:Int):Bool:=S.has k&&(decide (0<=i)&&decide (i<8))
def load(S:Fs)(k i:Int):Int:=if S.at' k i=N then S.word k.toNat i.toNat else 0
def store(S:Fs)(k i w:Int):Fs:=if S.at' k i=N then{S with word:=put S.word k.toNat i.toNat w}else S
def swaps(S:Fs)(k i h:Int):Bool:=S.at' k i&&decide (S.word k.toNat i.toNat=h)
def swap(S:Fs)(k i h w:Int):Fs:=if S.swaps k i h=N then{S with word:=put S.word k.toNat i.toNat w}else S
theorem yo4(n:Nat)(h:n<=128):(new n).Ok:=⟨by simp[new],yH _,h,λ_ _=>by simp[new],λ_ _=>by simp[new]⟩
section
variable {S:Fs}
theorem Ok.len(h:S.Ok):ρ S.used+ρ S.back=S.next:=by simpa using h.perm.length_eq
theorem Ok.lt(h:S.Ok){k:Nat}(w:k ∈ S.used):k<S.next:=by have:k ∈ List.range S.next:=h.perm.mem_iff.1 (by simp[w]);simpa using this
theorem Ok.yoJ(h:S.Ok){k:Nat}(w:k ∈ S.back):k<S.next:=by have:k ∈ List.range S.next:=h.perm.mem_iff.1 (by simp[w]);simpa using this
theorem Ok.nodup(h:S.Ok):(S.used++S.back).Nodup:=h.perm.nodup_iff.2 List.nodup_range
theorem Ok.ykJ(h:S.Ok)(k:S.has w=N):0<=w/\w<S.n/\w.toNat ∈ S.used:=by simp[has,inn]at k;have:=h.lt k.2;have:=h.top;grind
theorem Ok.yp1(h:S.Ok)(k:S.at' w u=N):0<=w/\w<S.n/\0<=u/\u<8/\w.toNat ∈ S.used:=by simp only[at',yP,decide_eq_true_eq]at k;obtain⟨a,b,c⟩:=h.ykJ k.1;simp_all
theorem Ok.ypI(h:S.Ok)(k:S.pick=Z m):m<S.n/\m ∉ S.used:=by unfold pick at k;have w:=h.top;have c:=h.nodup;split at k;{rename_i j hj;have a:=List.mem_of_getLast? hj;have:=h.yoJ a;grind};split at k;{cases k;refine⟨ω,λb=> ?_⟩;have:=h.lt b;omega};cases k
theorem Ok.take(h:S.Ok):S.take.Ok:=by unfold Fs.take;have e:=h.perm;split;{rename_i k d;refine⟨?_,h.top,h.small,λa b=> ?_,λa b=> ?_⟩;{grind [List.getLast?_eq_some_iff,List.append_assoc,List.perm_append_comm]};{show 0<=clear S.word k a b;unfold clear;split;{exact yG _};exact h.low a b};show clear S.word k a b<_;unfold clear;split;{decide};exact h.high a b};rename_i w;have w:S.back=[]:=by{simpa using w};split;{rename_i c;refine⟨?_,c,h.small,λa b=> ?_,λa b=> ?_⟩;{grind};{show 0<=clear S.word S.next a b;unfold clear;split;{exact yG _};exact h.low a b};show clear S.word S.next a b<_;unfold clear;split;{decide};exact h.high a b};exact h
theorem Ok.give(h:S.Ok)(k:Int):(S.give k).Ok:=by unfold Fs.give;split;{rename_i w;obtain⟨_,_,a⟩:=h.ykJ w;refine⟨?_,h.top,h.small,h.low,h.high⟩;refine List.Perm.trans ?_ h.perm;grind};exact h
theorem ypY(h:S.Ok)(k i:Nat)(c:0<=w)(d:w<18446744073709551616):({S with word:=put S.word k i w}:Fs).Ok:=by refine⟨h.perm,h.top,h.small,λa b=> ?_,λa b=> ?_⟩;{show 0<=put S.word k i w a b;unfold put;split;{exact c};exact h.low a b};show put S.word k i w a b<_;unfold put;split;{exact d};exact h.high a b
theorem Ok.store(h:S.Ok)(k i:Int)(a:0<=w)(b:w<18446744073709551616):(S.store k i w).Ok:=by grind [Fs.store,ypY]
theorem Ok.swap(h:S.Ok)(k i a:Int)(b:0<=w)(c:w<18446744073709551616):(S.swap k i a w).Ok:=by grind [Fs.swap,ypY]
theorem Ok.ypt(h:S.Ok):0<=S.free/\S.free<=128:=by have:=h.len;have:=h.top;have:=h.small;unfold free;omega
end
end Fs
end Pg
open Go.RowKit Go.Sort
set_option linter.unusedVariables false
theorem zb{w w':kp}{d:List un}(h:π w m l i s j d)(n:∀k,s.ownBlock=Z k->w'.heap[k]?=w.heap[k]?):π w' m l i s j d:=by refine⟨h.1,?_⟩;rcases h.2 with o|⟨g,b,c,rfl,f,e,a⟩;{exact .inl o};exact .inr ⟨g,b,c,rfl,f,by rw[n g rfl];exact e,a⟩
def ybH(l:List Nat):List un:=l.map λk:Nat=>yX V (k:Int)
structure xj (w:kp) (b g0 g1:Nat) (vb:un) (S:Fs):Prop where
 c0:ψ w ⟨b,0,P⟩=Z (yU (Z ⟨g0,0,P⟩) S.n S.n)
 c1:ψ w ⟨b,1,P⟩=Z (yU (Z ⟨g1,0,P⟩) S.n S.n)
 c2:ψ w ⟨b,2,P⟩=Z vb
 c3:ψ w ⟨b,3,P⟩=Z (Y V S.next)
 fb:∀o,yV w ⟨b,o,P⟩=J
 f0:∀o,yV w ⟨g0,o,P⟩=J
 f1:∀o,yV w ⟨g1,o,P⟩=J
 cw:∀k i,k<S.n->i<8->ψ w ⟨g0,k*8+i,P⟩=Z (Y ks (S.word k i))
 ci:∀k,k<S.n->ψ w ⟨g1,k,P⟩=Z (kA (S.inn k))
 own:π w 0 3 1 vb S.back.length (ybH S.back)
 l0:g0<A (M w)
 l1:g1<A (M w)
 n0:g0≠b
 n1:g1≠b
 n01:g0≠g1
 vb0:vb.ownBlock≠Z g0
 vb1:vb.ownBlock≠Z g1
 vbb:vb.ownBlock≠Z b
def xv(b h w:Nat)(a:un):Nat->Prop:=λk=>k=b\/k=h\/k=w\/a.ownBlock=Z k
theorem qN(b:Nat):∀(a:List un)(o:Nat)(w:kp)(k:Nat),k≠b->(w.setCells b o a).heap[k]?=w.heap[k]? | [],_,_,_,_=>rfl|v::r,o,w,k,h=>by rw[yM,qN b r (o+1) _ k h,kh _ _ _ _ h]
theorem qS(b:Nat):∀(h:List un)(o:Nat)(w:kp),(w.setCells b o h).heap.size=A (M w)| [],_,_=>rfl|v::r,o,w=>by rw[yM,qS b r (o+1)];simp
theorem But.setCells{F:Nat->Prop}(b:Nat)(w:A (M p)<=b\/F b):∀(c:List un)(o:Nat)(k:kp),But F p k->But F p (k.setCells b o c)| [],_,_,h=>h|v::r,o,k,h=>But.setCells b w r (o+1) _ (h.setCell (a:=⟨b,o,P⟩) w v)
namespace xj
variable {w w':kp} {b g0 g1:Nat} {vb:un} {S:Fs}
theorem lb(h:xj w b g0 g1 vb S):b<A (M w):=uc _ _ h.c0
theorem lt(h:xj w b g0 g1 vb S){k:Nat}(a:xv b g0 g1 vb k):k<A (M w):=by rcases a with rfl|rfl|rfl|a;{exact uc _ _ h.c0};{exact h.l0};{exact h.l1};exact(h.own.lt k a).2
theorem keep(h:xj w b g0 g1 vb S){F:Nat->Prop}(g:But F w w')(hF:∀k,xv b g0 g1 vb k->¬F k):xj w' b g0 g1 vb S:=by have d:∀k,xv b g0 g1 vb k->w'.heap[k]?=w.heap[k]?:=λk d=>g.block k (h.lt d) (hF k d);have f:=d b (.inl rfl);have j:=d g0 (.inr (.inl rfl));have l:=d g1 (.inr (.inr (.inl rfl)));exact⟨(I f).trans h.c0,(I f).trans h.c1,(I f).trans h.c2,(I f).trans h.c3,λo=>(kO f).trans (h.fb o),λo=>(kO j).trans (h.f0 o),λo=>(kO l).trans (h.f1 o),λk i a c=>(I j).trans (h.cw k i a c),λk a=>(I l).trans (h.ci k a),zb h.own λk e=>d k (.inr (.inr (.inr e))),uv h.l0 g.size,uv h.l1 g.size,h.n0,h.n1,h.n01,h.vb0,h.vb1,h.vbb⟩
theorem drewN(h:xj w b g0 g1 vb S)(n:Nat):xj (w.drewN n) b g0 g1 vb S:=h.keep (F:=λ_=>False) (But.ykg (below_drewN (zR w) n)) (λ_ _=>id)
theorem yoB(h:xj w b g0 g1 vb S)(m:Nat):xj (φ w ⟨b,3,P⟩ (Y V (m:Int))) b g0 g1 vb {S with next:=m}:=by have d:∀k,k≠b->(φ w ⟨b,3,P⟩ (Y V (m:Int))).heap[k]?=w.heap[k]?:=λk j=>kh _ _ _ _ j;have l:=d g0 h.n0;have n:=d g1 h.n1;have f:(φ w ⟨b,3,P⟩ (Y V (m:Int))).heap.size=A (M w):=ς;refine⟨?_,?_,?_,uD _ _ _ h.c3,λo=>by simpa using h.fb o,λo=>by simpa using h.f0 o,λo=>by simpa using h.f1 o,λk i a c=>(I l).trans (h.cw k i a c),λk a=>(I n).trans (h.ci k a),zb h.own λk e=>d k (λg=>h.vbb (g▸e)),f.symm▸h.l0,f.symm▸h.l1,h.n0,h.n1,h.n01,h.vb0,h.vb1,h.vbb⟩;{exact(Q _ _ _ _ ς).trans h.c0};{exact(Q _ _ _ _ ς).trans h.c1};exact(Q _ _ _ _ ς).trans h.c2
theorem yoA(h:xj w b g0 g1 vb S){l:List Nat}(n:π w 0 3 1 s l.length (ybH l))(r:s.ownBlock≠Z g0)(t:s.ownBlock≠Z g1)(g:s.ownBlock≠Z b):xj (φ w ⟨b,2,P⟩ s) b g0 g1 s {S with back:=l}:=by have d:∀k,k≠b->(φ w ⟨b,2,P⟩ s).heap[k]?=w.heap[k]?:=λk m=>kh _ _ _ _ m;have p:=d g0 h.n0;have q:=d g1 h.n1;have f:(φ w ⟨b,2,P⟩ s).heap.size=A (M w):=ς;refine⟨?_,?_,uD _ _ _ h.c2,?_,λo=>by simpa using h.fb o,λo=>by simpa using h.f0 o,λo=>by simpa using h.f1 o,λk i a c=>(I p).trans (h.cw k i a c),λk a=>(I q).trans (h.ci k a),zb n λk e=>d k (λj=>g (j▸e)),f.symm▸h.l0,f.symm▸h.l1,h.n0,h.n1,h.n01,r,t,g⟩;{exact(Q _ _ _ _ ς).trans h.c0};{exact(Q _ _ _ _ ς).trans h.c1};exact(Q _ _ _ _ ς).trans h.c3
theorem grow(h:xj w b g0 g1 vb S)(y:A (M w)<=A (M w'))(d:∀k,k=b\/k=g0\/k=g1->w'.heap[k]?=w.heap[k]?){l:List Nat}(q:π w' 0 3 1 s l.length (ybH l))(u:s.ownBlock≠Z g0)(v:s.ownBlock≠Z g1)(n:s.ownBlock≠Z b):xj (φ w' ⟨b,2,P⟩ s) b g0 g1 s {S with back:=l}:=by have f:=d b (.inl rfl);have r:=d g0 (.inr (.inl rfl));have t:=d g1 (.inr (.inr rfl));have g:∀k,k≠b->(φ w' ⟨b,2,P⟩ s).heap[k]?=w'.heap[k]?:=λk d=>kh _ _ _ _ d;have j:=(g g0 h.n0).trans r;have m:=(g g1 h.n1).trans t;have x:(φ w' ⟨b,2,P⟩ s).heap.size=A (M w'):=ς;have z:=h.l0;have X:=h.l1;refine⟨?_,?_,uD _ _ _ ((I f).trans h.c2),?_,λo=> ?_,λo=>(kO j).trans (h.f0 o),λo=>(kO m).trans (h.f1 o),λk i a c=>(I j).trans (h.cw k i a c),λk a=>(I m).trans (h.ci k a),zb q λk e=>g k (λp=>n (p▸e)),ω,ω,h.n0,h.n1,h.n01,u,v,n⟩;{exact(Q _ _ _ _ ς).trans ((I f).trans h.c0)};{exact(Q _ _ _ _ ς).trans ((I f).trans h.c1)};{exact(Q _ _ _ _ ς).trans ((I f).trans h.c3)};rw[World.frozen?_setCell];exact(kO f).trans (h.fb o)
theorem mark(h:xj w b g0 g1 vb S){k:Nat}(q:k<S.n)(v:Bool)(l:List Nat)(r:∀j,decide (j ∈ l)=if j=k then v else S.inn j):xj (φ w ⟨g1,k,P⟩ (kA v)) b g0 g1 vb {S with used:=l}:=by have f:∀j,j≠g1->(φ w ⟨g1,k,P⟩ (kA v)).heap[j]?=w.heap[j]?:=λj p=>kh _ _ _ _ p;have d:=f b (Ne.symm h.n1);have s:=f g0 h.n01;have g:(φ w ⟨g1,k,P⟩ (kA v)).heap.size=A (M w):=ς;refine⟨(I d).trans h.c0,(I d).trans h.c1,(I d).trans h.c2,(I d).trans h.c3,λo=>by simpa using h.fb o,λo=>by simpa using h.f0 o,λo=>by simpa using h.f1 o,λj i a c=>(I s).trans (h.cw j i a c),λj a=> ?_,zb h.own λj e=>f j (λm=>h.vb1 (m▸e)),g.symm▸h.l0,g.symm▸h.l1,h.n0,h.n1,h.n01,h.vb0,h.vb1,h.vbb⟩;show _=Z (yy (decide (j ∈ l)));rw[r j];by_cases e:j=k;{rw[iP e,e];exact uD _ _ _ (h.ci k q)};rw[iN e];exact(Q _ _ _ _ (λt=>e ξ)).trans (h.ci j a)
theorem clear(h:xj w b g0 g1 vb S){k:Nat}(q:k<S.n)(d:List un)(u:ρ d=8)(t:∀(j:Nat)(l:j<ρ d),d[j]=Y ks 0):xj (w.setCells g0 (k*8) d) b g0 g1 vb {S with word:=Fs.clear S.word k}:=by have g:∀j,j≠g0->(w.setCells g0 (k*8) d).heap[j]?=w.heap[j]?:=λj l=>qN _ _ _ _ _ l;have f:=g b (Ne.symm h.n0);have r:=g g1 (Ne.symm h.n01);have m:=qS g0 d (k*8) w;refine⟨(I f).trans h.c0,(I f).trans h.c1,(I f).trans h.c2,(I f).trans h.c3,λo=>(yI _ _ _ _ _).trans (h.fb o),λo=>(yI _ _ _ _ _).trans (h.f0 o),λo=>(yI _ _ _ _ _).trans (h.f1 o),λj i a c=> ?_,λj a=>(I r).trans (h.ci j a),zb h.own λj e=>g j (λp=>h.vb0 (p▸e)),m.symm▸h.l0,m.symm▸h.l1,h.n0,h.n1,h.n01,h.vb0,h.vb1,h.vbb⟩;show _=Z (yX ks (Fs.clear S.word k j i));unfold Fs.clear;by_cases e:j=k;{have:=World.cell?_setCells_in g0 d (k*8) w (λi s=>by rw[h.cw k i q ω];rfl) i ω;simp_all};rw[iN e];exact(World.cell?_setCells_out _ _ _ _ _ (λ_ _=>γ)).trans (h.cw j i a c)
theorem put(h:xj w b g0 g1 vb S)(r:m<S.n)(p:l<8)(v:Int):xj (φ w ⟨g0,m*8+l,P⟩ (Y ks v)) b g0 g1 vb {S with word:=Fs.put S.word m l v}:=by have f:∀j,j≠g0->(φ w ⟨g0,m*8+l,P⟩ (Y ks v)).heap[j]?=w.heap[j]?:=λj q=>kh _ _ _ _ q;have d:=f b (Ne.symm h.n0);have s:=f g1 (Ne.symm h.n01);have g:(φ w ⟨g0,m*8+l,P⟩ (Y ks v)).heap.size=A (M w):=ς;refine⟨(I d).trans h.c0,(I d).trans h.c1,(I d).trans h.c2,(I d).trans h.c3,λo=>by simpa using h.fb o,λo=>by simpa using h.f0 o,λo=>by simpa using h.f1 o,λj k a c=> ?_,λj a=>(I s).trans (h.ci j a),zb h.own λj e=>f j (λi=>h.vb0 (i▸e)),g.symm▸h.l0,g.symm▸h.l1,h.n0,h.n1,h.n01,h.vb0,h.vb1,h.vbb⟩;show _=Z (yX ks (Fs.put S.word m l v j k));unfold Fs.put;by_cases e:j=m/\k=l;{rw[iP e,e.1,e.2];exact uD _ _ _ (h.cw m l r p)};rw[iN e];exact(Q _ _ _ _ (λt=>e ξ)).trans (h.cw j k a c)
end xj
def yhT:Array un:=#[Y ks 0,Y ks 0,Y ks 0,Y ks 0,Y ks 0,Y ks 0,Y ks 0,Y ks 0]
theorem yhU(j:Nat):yhT[j%yhT.size]! =Y ks 0:=by have:j%8<8:=yW _ δ;show yhT[j%8]! =_;generalize j%8=m at*;match m,this with|0,_|1,_|2,_|3,_|4,_|5,_|6,_|7,_=>rfl
theorem xj.made{t0 t1 t2:TypeId}(a:p.heap[m]?=Z (.cells #[yU (Z ⟨l,0,P⟩) j j,yU (Z ⟨i,0,P⟩) j j,yU P 0 0,Y V 0] t2 (0,0)))(b:p.heap[l]?=Z (.cells (madeCells yhT (j*8)) t0 (0,0)))(c:p.heap[i]?=Z (.cells (madeCells #[kA J] j) t1 (0,0)))(f:l≠m)(g:i≠m)(d:l≠i):xj p m l i (yU P 0 0) (Fs.new j):=by refine⟨?_,?_,?_,?_,λo=>by simp[yV,a],λo=>by simp[yV,b],λo=>by simp[yV,c],λk h w n=> ?_,λk w=> ?_,World.ownsRow_nil _ _ _ _,(yJ.1 b).1,(yJ.1 c).1,f,g,d,by simp[yT],by simp[yT],by simp[yT]⟩;{rw[cell_of_row p m 0 _ _ _ a];rfl};{rw[cell_of_row p m 1 _ _ _ a];rfl};{rw[cell_of_row p m 2 _ _ _ a];rfl};{rw[cell_of_row p m 3 _ _ _ a];rfl};{have w:k<j:=w;have e:k*8+h<j*8:=ω;rw[cell_of_row p l _ _ _ _ b,madeCells];simp only[yQ,yF,e,if_true,Option.map_some,yhU];rfl};have w:k<j:=w;rw[cell_of_row p i _ _ _ _ c,madeCells];simp only[yQ,yF,w,if_true,Option.map_some];have:k%(#[yy J]:Array un).size=0:=Nat.mod_one k;rw[this];rfl
structure zm (w:kp) (b g0 g1:Nat) (vb:un) (S:Fs):Prop where
 raw:xj w b g0 g1 vb S
 ok:S.Ok
theorem zm.keep{w w':kp}{S:Fs}(h:zm w m l i s S){F:Nat->Prop}(a:But F w w')(hF:∀k,xv m l i s k->¬F k):zm w' m l i s S:=⟨h.raw.keep a hF,h.ok⟩
end
namespace Pg
structure Mp where
 p:Int
 s:Int
 f:Int
 r:Int
def Mp.zz:Mp:=⟨0,0,0,0⟩
namespace Mp
def code(m:Mp):Int:=check m.p m.s m.f m.r
def has(m:Mp)(q:Int):Bool:=over m.p m.s q
def meets(a b:Mp):Bool:=meet a.p a.s b.p b.s
def rts(m:Mp)(r:Int):Mp:=⟨m.p,m.s,m.f,r⟩
def val(m:Mp):un:=ud #[Y V m.p,Y V m.s,Y V m.f,Y V m.r]
theorem ymC(a b:Mp):a.meets b=b.meets a:=by simp[meets,meet,Bool.or_comm]
end Mp
structure Good (L:List Mp):Prop where
 ok:∀m,m ∈ L->m.code=0
 up:L.Pairwise λa b=>a.p<b.p/\a.meets b=J
theorem ymD{m:Mp}(h:m.code=0):0<=m.p/\m.p<4096/\fits m.p/\fits m.s/\fits m.f/\fits m.r:=by obtain⟨a,k,w,b,c,d,e,_,_⟩:=ykB h;have g:m.s=0\/m.s=1\/m.s=2:=by{grind [absurd,ykx]};refine⟨k,w,?_,?_,?_,?_⟩<;>unfold fits<;>omega
theorem ypa:∀(L:List Mp)(a:Int),(∀m,m ∈ L->a<=m.p)->(L.Pairwise λx y=>x.p<y.p)->(∀m,m ∈ L->m.p<4096)->(ρ L:Int)<=max 0 (4096-a)| [],_,_,_,_=>by simp;omega|x::r,a,h,hp,hl=>by rw[ki]at hp;have:=ypa r (x.p+1) (λm k=>γ) hp.2 (λm k=>hl m (by simp[k]));grind
theorem Good.len{L:List Mp}(h:Good L):ρ L<=4096:=by have:=ypa L 0 (λm k=>(ymD (h.ok m k)).1) (h.up.imp λ⟨h,_⟩=>h) (λm k=>(ymD (h.ok m k)).2.1);omega
theorem Good.nil:Good []:=⟨λ_ h=>by simp at h,List.Pairwise.nil⟩
def fnd(L:List Mp)(q:Int):Option Nat:=L.findIdx? λm=>m.has q
def fndN(L:List Mp)(q:Int):Int:=match fnd L q with|some k=>(k:Int)|none=> -1
def ins(m:Mp):List Mp->List Mp| []=>[m]|x::r=>if m.p<x.p then m::x::r else x::ins m r
def addC(L:List Mp)(m:Mp):Int:=if m.code≠0 then m.code else if (L.any λx=>x.meets m)=N then 4 else 0
def addL(L:List Mp)(m:Mp):List Mp:=if addC L m=0 then ins m L else L
def ykY(L:List Mp)(q:Int):Int:=if below q 4096=N then(if fnd L q=P then 5 else 0)else 1
def at'(L:List Mp)(q:Int):Mp:=match fnd L q with|some k=>L.getD k .zz|none=> .zz
def ymh(L:List Mp)(q:Int):Mp:=if ykY L q=0 then at' L q else .zz
def ylB(L:List Mp)(q:Int):List Mp:=if ykY L q=0 then(match fnd L q with|some k=>L.eraseIdx k|none=>L)else L
def ylU(L:List Mp)(q r:Int):Int:=if below r 8=N then ykY L q else 1
def ynS(L:List Mp)(q r:Int):Mp:=if ylU L q r=0 then(at' L q).rts r else .zz
def yml(L:List Mp)(q r:Int):List Mp:=if ylU L q r=0 then(match fnd L q with|some k=>L.set k ((L.getD k .zz).rts r)|none=>L)else L
def ansE(L:List Mp)(q k:Int)(u:Bool):Int:=match fnd L q with|some j=>aEnd (L.getD j .zz).r k u|none=>1
def ansF(L:List Mp)(q k:Int)(u:Bool):Int:=match fnd L q with|some j=>yk4 (L.getD j .zz).p (L.getD j .zz).f (L.getD j .zz).r q k u|none=>0
def ansR(L:List Mp)(q k:Int)(u:Bool):Int:=match fnd L q with|some j=>ykK (L.getD j .zz).r k u|none=>0
theorem ypi{L:List Mp}(h:m<ρ L):L.getD m .zz=L[m]:=by simp[List.getD,h]
theorem fnd_some{L:List Mp}(h:fnd L w=Z m):m<ρ L/\(L.getD m .zz).has w=N/\∀j,j<m->(L.getD j .zz).has w=J:=by obtain⟨k,a,b⟩:=ue.1 h;refine⟨k,ξ,λj c=> ?_⟩;grind
theorem fnd_of{L:List Mp}(h:m<ρ L)(k:(L.getD m .zz).has w=N)(a:∀j,j<m->(L.getD j .zz).has w=J):fnd L w=Z m:=by refine ue.2 ⟨h,ξ,λj b=> ?_⟩;grind
theorem fnd_no{L:List Mp}(h:∀j,j<ρ L->(L.getD j .zz).has w=J):fnd L w=P:=by refine List.findIdx?_eq_none_iff.2 λm k=> ?_;obtain⟨j,a,rfl⟩:=List.mem_iff_getElem.1 k;simp_all
theorem yoX(m:Mp):∀L:List Mp,(ins m L).Perm (m::L)| []=>List.Perm.refl _|x::r=>by unfold ins;split;{simp_all};exact((yoX m r).cons x).trans (List.Perm.swap m x r)
theorem ypx{m x:Mp}{L:List Mp}:x ∈ ins m L ↔ x=m\/x ∈ L:=by grind [yoX]
theorem yo3{a b:Mp}(k:a.code=0)(h:a.meets b=J):a.p≠b.p:=by intro e;have w:0<span a.s:=by{have:=(ykB k).1;have:=(yk3 a.s).1;omega};unfold Mp.meets at h;rw[ynR]at h;simp_all
theorem ypW{m:Mp}(c:m.code=0):∀{L:List Mp},(∀x,x ∈ L->x.code=0)->(∀x,x ∈ L->x.meets m=J)->(L.Pairwise λa b=>a.p<b.p/\a.meets b=J)->(ins m L).Pairwise λa b=>a.p<b.p/\a.meets b=J| [],_,_,_=>by simp[ins]|x::r,tC,hme,hp=>by rw[ki]at hp;have k:=hme x ς;have d:=yo3 (tC x ς) k;unfold ins;split;{rename_i w;refine ki.2 ⟨λy h=> ?_,ki.2 hp⟩;rcases yE.1 h with rfl|h;{exact⟨w,by rw[Mp.ymC];exact k⟩};grind [Mp.ymC]};refine ki.2 ⟨λy h=> ?_,ypW c (λy h=>tC y (by simp[h])) (λy h=>hme y (by simp[h])) hp.2⟩;rcases ypx.1 h with rfl|h;{grind};exact hp.1 y h
theorem addC_zero{L:List Mp}{m:Mp}(h:addC L m=0):m.code=0/\∀x,x ∈ L->x.meets m=J:=by grind [addC]
theorem Good.add{L:List Mp}(h:Good L)(m:Mp):Good (addL L m):=by unfold addL;split;{rename_i a;obtain⟨k,w⟩:=addC_zero a;exact⟨λx b=>(ypx.1 b).elim (λe=>e▸k) (h.ok x),ypW k h.ok w h.up⟩};exact h
theorem Good.erase{L:List Mp}(h:Good L)(k:Nat):Good (L.eraseIdx k):=⟨λm w=>h.ok m (List.mem_of_mem_eraseIdx w),h.up.sublist (List.eraseIdx_sublist _ _)⟩
def hlf(L:List Mp)(m:Mp)(j:Nat):List Mp:=if ((L.take j).any λy=>decide (m.p<y.p))=N then ins m (L.take j)else L.take j
theorem yoa{m:Mp}:∀{L:List Mp}{k:Nat}(_:k<ρ L),m.p=(L.getD k .zz).p->(L.Pairwise λa b=>a.p<b.p)->ins m (L.eraseIdx k)=L.set k m
 | [],_,h,_,_=>by simp at h
 | x::r,0,_,hp,hu=>by
   match r,hu with
   | [],_=>rfl
   | y::t,hu=>
     simp_all[ins]
 | x::r,k+1,h,hp,hu=>by
   rw[ki]at hu
   have c:k<ρ r:=by simpa using h
   have w:m.p=(r.getD k .zz).p:=by simpa using hp
   have d:r.getD k .zz ∈ r:=by simp_all
   have f:=hu.1 _ d
   have e:¬m.p<x.p:=by omega
   simp only[yR,ins,e,if_false,List.set_cons_succ];rw[yoa c w hu.2]
theorem ymV:∀{L:List Mp}{k:Nat}(_:k<ρ L),(L.Pairwise λa b=>a.p<b.p/\a.meets b=J)->∀x,x ∈ L.eraseIdx k->x.meets (L.getD k .zz)=J| [],_,h,_,_,_=>by simp at h|y::r,0,_,hu,x,w=>by grind [ki,Mp.ymC]|y::r,k+1,h,hu,x,w=>by rw[ki]at hu;have c:k<ρ r:=by{simpa using h};have d:r.getD k .zz ∈ r:=ξ;simp only[yR,yE]at w;rcases w with rfl|w;{exact(hu.1 _ d).2};exact ymV c hu.2 x w
theorem prot_add{L:List Mp}(h:Good L){k:Nat}(b:k<ρ L)(r:below w 8=N):addC (L.eraseIdx k) ((L.getD k .zz).rts w)=0/\addL (L.eraseIdx k) ((L.getD k .zz).rts w)=L.set k ((L.getD k .zz).rts w):=by have q:L.getD k .zz ∈ L:=ξ;have u:=h.ok _ q;have l:=ymV b h.up;have o:=yoa (m:=(L.getD k .zz).rts w) b rfl (h.up.imp λ⟨h,_⟩=>h);generalize L.getD k .zz=y at*;obtain⟨p,s,f,X⟩:=y;have n:(Mp.mk p s f w).code=0:=by{obtain⟨c,d,g,i,j,_,_,v,z⟩:=ykB u;show check p s f w=0;rw[yk7 c (zB.2 ⟨d,g⟩) (zB.2 ⟨i,j⟩) r];omega};have a:((L.eraseIdx k).any λx=>x.meets (Mp.mk p s f w))=J:=by{rw[List.any_eq_false];intro x t;have:x.meets (Mp.mk p s f w)=J:=l x t;simp[this]};have e:addC (L.eraseIdx k) (Mp.mk p s f w)=0:=by{simp[addC,n,a]};exact⟨e,by show addL (L.eraseIdx k) (Mp.mk p s f w)=_;rw[addL,iP e];exact o⟩
end Pg
namespace Pg
structure En where
 t:Bool
 l:Bool
 r:Int
 u:Bool
 d:Bool
 f:Int
namespace En
def zero:En:=⟨J,J,0,J,J,0⟩
def of(W h:Int):En:=⟨ykC W h,xL W h,xR W h,xU W h,xD W h,xF W h⟩
def val(e:En):un:=ud #[kA e.t,kA e.l,Y V e.r,kA e.u,kA e.d,Y V e.f]
def on(e:En):Bool:=e.t&& !e.l
def map(e:En)(h q:Int):Mp:=⟨ynL e.t e.l e.r e.u e.d e.f h q,you e.t e.l e.r e.u e.d e.f h q,ym4 e.t e.l e.r e.u e.d e.f h q,ylL e.t e.l e.r e.u e.d e.f h q⟩
def fault(e:En)(h:Int):Int:=ykk e.t e.l e.r e.u e.d e.f h
end En
theorem ymf(W h:Int):decV W h=yO #[(En.of W h).val,Y V (ykv W h)]:=rfl
theorem yov(e:En)(h q:Int):mapV e.t e.l e.r e.u e.d e.f h q=(e.map h q).val:=rfl
def yko(S:Fs)(t:Int)(i h:Nat):Int:=if S.has t=N then ykv (S.word t.toNat i) h else 12
def rEn(S:Fs)(t:Int)(i h:Nat):En:=if S.has t=N then En.of (S.word t.toNat i) h else En.zero
structure Sp where
 table:Int
 place:Nat
 level:Nat
 ahead:Nat
 e:En
def spt(S:Fs)(t:Int)(i h a:Nat):Sp:=⟨t,i,h,a+i,rEn S t i h⟩
section
variable (S:Fs) (L:Nat->Nat->Bool)
def out(h:Nat)(k:Int->Nat->List Sp×Int)(t:Int)(a i:Nat):List Sp×Int:=if L i h=J then([],0)else if yko S t i h≠0 then([],yko S t i h)else if (rEn S t i h).on=J then([spt S t i h a],0)else(spt S t i h a::(k (rEn S t i h).f ((a+i)*8)).1,(k (rEn S t i h).f ((a+i)*8)).2)
def scan(k:Nat)(h:Int->Nat->List Sp×Int)(t:Int)(a:Nat):Nat->Nat->List Sp×Int|0,_=>([],0)|n+1,i=>if (out S L k h t a i).2≠0 then out S L k h t a i else((out S L k h t a i).1++(scan k h t a n (i+1)).1,(scan k h t a n (i+1)).2)
def thr:Nat->Int->Nat->List Sp×Int|0,t,a=>scan S L 0 (λ_ _=>([],0)) t a 8 0|lv+1,t,a=>scan S L (lv+1) (thr lv) t a 8 0
def sub:Nat->Int->Nat->List Sp×Int|0=>λ_ _=>([],0)|lv+1=>thr S L lv
end
theorem ylH(S:Fs)(L:Nat->Nat->Bool)(h:Nat)(t:Int)(a:Nat):thr S L h t a=scan S L h (sub S L h) t a 8 0:=by cases h<;>rfl
def cnt':Nat->Nat|0=>0|lv+1=>8*(1+cnt' lv)
theorem out_len{S:Fs}{L:Nat->Nat->Bool}{lv:Nat}{k:Int->Nat->List Sp×Int}{t:Int}{a i c:Nat}(h:∀t a,ρ (k t a).1<=c):ρ (out S L lv k t a i).1<=1+c:=by grind [out,rEn]
theorem ypb{S:Fs}{L:Nat->Nat->Bool}{lv:Nat}{k:Int->Nat->List Sp×Int}{t:Int}{a c:Nat}(h:∀t a,ρ (k t a).1<=c):∀n i,ρ (scan S L lv k t a n i).1<=n*(1+c)|0,_=>by simp[scan]|n+1,i=>by have w:=out_len (S:=S) (L:=L) (lv:=lv) (t:=t) (a:=a) (i:=i) h;have b:=ypb (S:=S) (L:=L) (lv:=lv) (t:=t) (a:=a) h n (i+1);unfold scan;grind
theorem ypN(S:Fs)(L:Nat->Nat->Bool):∀h t a,ρ (sub S L h t a).1<=cnt' h|0,_,_=>by simp[sub]|h+1,t,a=>by show(thr S L h t a).1.length<=_;rw[ylH];exact ypb (λt a=>ypN S L h t a) 8 0
theorem yoE(S:Fs)(L:Nat->Nat->Bool)(h:Nat)(t:Int)(a:Nat):ρ (thr S L h t a).1<=cnt' (h+1):=ypN S L (h+1) t a
def ix(p:Int)(h:Nat):Nat:=(p/8^h%8).toNat
theorem yli(p:Int)(h:Nat):ix p h<8:=by unfold ix;omega
theorem ykA(h:below w 4096=N){lv:Nat}(k:lv<4):index w (lv:Int)=(ix w lv:Nat):=by grind [below,index,ix]
def onW(p:Int)(i h:Nat):Bool:=decide (i=ix p h)
def zW(_ _:Nat):Bool:=N
def Sp.mp(s:Sp):Mp:=s.e.map s.level (s.ahead*span s.level)
def zM(X:List Sp):List Mp:=X.flatMap λs=>if s.e.l=N then [s.mp]else []
def zU(X:List Sp):List Int:=X.flatMap λs=>if s.e.on=N then [s.e.f]else []
theorem ykm(X h:List Sp):zM (X++h)=zM X++zM h:=by simp[zM]
theorem ykj(X h:List Sp):zU (X++h)=zU X++zU h:=by simp[zU]
theorem ymB(X:List Sp):ρ (zM X)<=ρ X:=by induction X with|nil=>simp[zM]|cons s X h=>grind [zM]
theorem ymI(X:List Sp):ρ (zU X)<=ρ X:=by induction X with|nil=>simp[zU]|cons s X h=>grind [zU]
section
variable {S:Fs}
theorem yk1(h:S.Ok)(k:yko S w m l=0):(rEn S w m l).fault l=0:=by unfold yko at k;split at k;{rename_i a;unfold rEn;rw[iP a];exact(yop (h.low _ _) k).1};omega
theorem ykH(h:S.Ok){t:Int}{i lv:Nat}(k:(rEn S t i lv).l=N):yko S t i lv=0/\(rEn S t i lv).t=N/\lv<=2:=by have w:yko S t i lv=0:=by{unfold rEn at k;unfold yko;split at k;{simp_all[En.of,xL,ykC]};simp[En.zero]at k};have a:=yk1 h w;obtain⟨_,b⟩:=ykF a;grind
end
theorem ykR{S:Fs}{t:Int}{i lv:Nat}(h:(rEn S t i lv).on=N):∃m,lv=m+1:=by cases lv with|succ m=>exact⟨m,rfl⟩|zero=>unfold rEn at h;split at h;{simp[En.on,En.of,xL,ylh]at h};simp[En.on,En.zero]at h
theorem yks{S:Fs}(h:yko S w m l=0):S.has w=N:=by grind [yko]
theorem ypc{S:Fs}{L:Nat->Nat->Bool}{rec:Int->Nat->List Sp×Int}{t:Int}{a k:Nat}(h:∀i,L i m=decide (i=k)):∀n i,scan S L m rec t a n i=if i<=k/\k<i+n then out S L m rec t a k else([],0)|0,i=>by rw[iN ω];rfl|n+1,i=>by have w:=ypc (S:=S) (rec:=rec) (t:=t) (a:=a) h n (i+1);unfold scan;by_cases e:i=k;{grind};grind [out]
theorem ykQ(S:Fs)(p:Int)(h:Nat)(t:Int)(a:Nat):thr S (onW p) h t a=if yko S t (ix p h) h≠0 then([],yko S t (ix p h) h)else if (rEn S t (ix p h) h).on=J then([spt S t (ix p h) h a],0)else(spt S t (ix p h) h a::(sub S (onW p) h (rEn S t (ix p h) h).f ((a+ix p h)*8)).1,(sub S (onW p) h (rEn S t (ix p h) h).f ((a+ix p h)*8)).2):=by have:=yli p h;rw[ylH,ypc (k:=ix p h) (λi=>rfl),iP ω];unfold out;rw[iN (by simp[onW])]
theorem ymv{S:Fs}{L:Nat->Nat->Bool}{h:Int->Nat->List Sp×Int}:∀n i,(scan S L m h w l n i).2=0->(∀j,i<=j->j<i+n->(out S L m h w l j).2=0)/\(scan S L m h w l n i).1=(List.range' i n).flatMap λj=>(out S L m h w l j).1|0,i,_=>⟨λj a b=>ω,by simp[scan]⟩|n+1,i,hz=>by unfold scan at hz ⊢;split at hz;{omega};rename_i c;obtain⟨d,k⟩:=ymv n (i+1) hz;refine⟨λj a b=> ?_,?_⟩;{grind};rw[iN c,k,List.range'_succ,List.flatMap_cons]
end Pg
end Go.Proofs.YtdphiompijbelaaGreatDoor
namespace Go.Proofs.YtdphiompijbelaaGreatDoor
namespace Pg
end Pg
open Go.Proofs.Tryz Pg
open Go.ChangeShapes Go.WideShapes Go.ChangeAt Go.RowKit Go.Joins
variable {q:kp}
section
theorem own:ownKnob Tryz.prog.godebug=P:=by kernel_rfl
theorem yif:laidOutB kW=N:=by kernel_rfl
section
variable {H:Type} {enc:TypeId×un->H} {W:kp} {r:Reach} {b0 base:Nat} {spare:Nat->Bool} {held:Bool} {v:un} {d:DataW H} {p:List MemPlace}
theorem yiQ{t:TypeId}(a:Tryz.prog.readableRec t=N)(c:t<Tryz.prog.types.size)(h:DataW.Trod enc kW W 0 (λ_=>N) N t v d p)(k:Lw W q):DataW.Trod enc kW q 0 (λb=>decide (b<A (M W))) N t v d p:=Below.trod yif a c h k (by obtain⟨m,w⟩:=h;exact DataW.trod_lt m _ _ _ w)
end
open Go.ChangeShapes Go.WideShapes Go.ChangeAt Go.RowKit Go.Joins Go.Deep
set_option linter.unusedVariables false
section
variable {H:Type} {enc:TypeId×un->H} {W:kp} {r:Reach} {b0 base:Nat} {spare:Nat->Bool} {held:Bool} {v:un} {d:DataW H} {p:List MemPlace}
end
end
end Go.Proofs.YtdphiompijbelaaGreatDoor
