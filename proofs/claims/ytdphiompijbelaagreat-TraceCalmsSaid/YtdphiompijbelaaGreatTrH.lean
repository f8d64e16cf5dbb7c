import Derived.RangeFuncNested
import Derived.RangeFuncBound
import Derived.RangeFuncLeaves
import Derived.Test.YtdphiompijbelaaGreatWtN
import Derived.OwnWalkIn
import Derived.TacticsInMore
import Derived.LoopNIn
import Derived.LoopIn
import Derived.Shelf.Abstract
import Derived.Sort.CutIn
import Derived.Sort.LoopGhostIn
set_option linter.all false
set_option maxRecDepth 100000
open Nat renaming reduceAdd->yB,zero_le->yF,reduceSub->yU,lt_of_lt_of_le->yK,le_trans->yX,le_of_lt->yD,le_refl->yA
open List renaming length_nil->ua,append_toArray->ue,size_toArray->yJ,push_toArray->yP,length_cons->yS,cons_append->yC,nil_append->yN,length_append->yO
open Go.Proofs.Tryz renaming prog->ki
open Go.Ending renaming returned->kO
open Go.World renaming putObj_heap_other->d,block_lt_of_cell?->kp,cell?_of_block->uc,putObj_heap_same->yR,cell?->yT,alloc_heap_new->yV
open Go.Obj renaming cells->y
open Go renaming World->H,heap_alloc_new->un,Value->yI,Calls->yQ,cell_later->yZ,bodyPost_ret->yM
open Bool renaming false->M,true->ur
open Go.RowKit renaming Hid->Z
open Array renaming getElem?_eq_some_iff->V,replicate_succ->uv,replicate_zero->ud
open Go.IntKind renaming i64->T
open Go.Value renaming int->N,pointer->U,slice->O,bool->kh,tuple->yY,agg->yE
open Option renaming none->B,some->R
set_option maxHeartbeats 4000000
namespace Go.Proofs.YtdphiompijbelaaGreat
open Go.RowKit
section
open Go.Sort
theorem But.putObj {F:Nat->Prop} {w w1:H} (h:But F w w1) {l:Nat} (hl:w.heap.size<=l\/F l) (o:Obj):But F w (w1.putObj l o):=
 ⟨h.os,h.tape,h.output,yX h.size (by simp),fun i hi hF=>(d (fun e=>by subst e;exact hl.elim (fun h=>by omega) hF)).trans (h.block i hi hF)⟩
def yf5 (w:H):Nat->Prop:=fun k=>k=w.heap.size\/k=w.heap.size+1
theorem yep {F:Fence} {n:Nat} {P:Program} {σ:Type} {g:Operand} {ps:Array Tmp} {assign body:Code} {Q:Exit->Act->H->Prop} {a:Act} {w:H}
 (hro:F.round=B) (h1:1<=n) {gf:Nat} {lb:Array yI} (hg:a.eval g= .func (.func gf) #[] lb) (hFg:F.fn gf) (eg:∀args w,(callFunc gf args).run P w= .ok (.enter gf args) w)
 (I:σ->H->Prop) (Y:σ->Array yI->σ->Prop) (Fin:σ->Prop) (Bz:∀s x s',Y s x s'->x.size=ps.size)
 (hI:∀s W W',I s W->But (yf5 w) W W'->I s W') (s0:σ) (h0:I s0 w)
 (av:∀(J:σ->H->Prop) (W1:H),(∀s W,J s W->I s W)->(∀s W W',J s W->Lw W W'->J s W')->
   (∀s x s' W,J s W->Y s x s'->YieldAt F (n-1-1) P (w.heap.size+1) x W fun e W'=>e=kO (kh ur)/\J s' W')->J s0 W1->
   CallsIn F (n-1) P gf (#[.func (.yield (w.heap.size+1)) #[] #[]]++lb) W1 fun e W'=>(∃v,e=kO v)/\∃s,Fin s/\J s W')
 (Ax:Array yI->Act->H->Prop) (hAx:∀x a' W W',Ax x a' W->But (yf5 w) W W'->Ax x a' W')
 (Rj:∀(l:Nat) s x s' (W:H) (K:Act->H->Prop),I s W->Y s x s'->w.heap.size+1<W.heap.size->(∀a' W',Lw W W'->Ax x a' W'->K a' W')->
   assign.wpIn (F.inRound l) (n-1-1) P (Exit.then K (fun _ _ _=>False)) {tmps:=(ps.zip x).foldl (fun t (p,v)=>t.setIfInBounds p v) a.tmps,defers:=[]} W)
 (Gx:∀(l:Nat) s x s' (a':Act) (W:H),I s W->Y s x s'->Ax x a' W->w.heap.size+1<W.heap.size->
   body.wpIn (F.inRound l) (n-1-1) P (fun e _ W'=>e= .normal/\W'.heap[w.heap.size]?=W.heap[w.heap.size]?/\W'.heap[w.heap.size+1]?=W.heap[w.heap.size+1]?/\I s' W') a' W)
 (GI:∀s (W:H),Fin s->I s W->W.heap[w.heap.size]?=R (.deferred (R []))->Q .normal {a with defers:={target:= .collected w.heap.size,args:=#[]}::a.defers} W):
 (Code.rangeFunc g ps assign body).wpIn F n P Q a w:=by
 refine wpIn_rangeFunc ?_;intro fn hfn;rw[hro];obtain⟨rec,kT⟩:∃rec:LoopState->Option Code->Loop,rec=fun st pe=>{state:=st,pending:=pe,fn,tmps:=a.tmps,params:=ps,assign,body,defers:=w.heap.size}:=⟨_,rfl⟩;obtain⟨W1,rC⟩:∃W1,(w.alloc (.deferred (R []))).alloc (.loop (rec .ready B))=W1:=⟨_,rfl⟩
 have hL1:W1.heap[w.heap.size+1]?=R (.loop (rec .ready B)):=by
  rw[<-rC];have:=yV (w.alloc (.deferred (R []))) (.loop (rec .ready B));rwa [World.size_alloc]at this
 have lL:W1.heap[w.heap.size]?=R (.deferred (R [])):=by
  rw[<-rC];exact(Below.heap_alloc _ _ _ (by simp)).trans (yV w _)
 have SS:I s0 W1:=hI _ _ _ h0 (by rw[<-rC];exact((But.refl _ w).alloc _).alloc _);have hB:∀{W W':H},Lw W W'->w.heap.size+1<W.heap.size->W'.heap[w.heap.size+1]?=W.heap[w.heap.size+1]?/\W'.heap[w.heap.size]?=W.heap[w.heap.size]?:=fun h hl=>⟨h.block _ hl,h.block _ (by omega)⟩
 refine⟨w.heap.size+1,[{target:= .collected w.heap.size,args:=#[]}],W1,{target:= .fn (.func gf) lb,args:=#[.func (.yield (w.heap.size+1)) #[] #[]]},W1,gf,
  #[.func (.yield (w.heap.size+1)) #[] #[]]++lb,W1,?_,?_,?_,?_,fun _=>h1,?_⟩
 ·rw[<-rC,kT];exact run_enterLoop_outer _ _ _ _ _
 ·simp only[resolve,hg]
  simp[go_sem]
 ·intro f' PT;simp[Target.leads]at PT;subst PT;exact hFg
 ·simp[invoke,go_sem,eg]
 ·refine(av (fun s W=>I s W/\W.heap[w.heap.size+1]?=R (.loop (rec .ready B))/\W.heap[w.heap.size]?=R (.deferred (R []))) W1 (fun _ _ h=>h.1)
   (fun s W W' hs hb=>by
     have hl:=(V.1 hs.2.1).1
     exact⟨hI _ _ _ hs.1 (But.yhJ hb),(hB hb hl).1.trans hs.2.1,(hB hb hl).2.trans hs.2.2⟩) ?_ ⟨SS,hL1,lL⟩).mono ?_
  ·rintro s x s' W ⟨hi,hl,hk⟩ Dv
   have hy:=run_yield (P:=P) (args:=x) hl (by rw[kT];exact Bz _ _ _ Dv);rw[kT]at hy;refine⟨fn,_,assign,body,hy,roundIn_of_wpIn hfn (Rj _ s x s' W _ hi Dv (V.1 hl).1 ?_)⟩;clear hy;intro a' Wa Im hax;have Hf:=(V.1 hl).1
   replace hi:=hI _ _ _ hi (But.yhJ Im)
   obtain⟨e1,e2⟩:=hB Im Hf
   replace hl:=e1.trans hl
   replace hk:=e2.trans hk
   replace Hf:w.heap.size+1<Wa.heap.size:=(V.1 hl).1
   refine⟨_,run_beginRound hl (by rw[kT]),?_⟩;have kC:But (yf5 w) Wa (Wa.putObj (w.heap.size+1) (.loop {rec .ready B with state:= .busy})):=(But.refl _ Wa).putObj (.inr (.inr rfl)) _;have su:(Wa.putObj (w.heap.size+1) (.loop {rec .ready B with state:= .busy})).heap[w.heap.size+1]?=R (.loop {rec .ready B with state:= .busy}):=yR Hf;have tK:(Wa.putObj (w.heap.size+1) (.loop {rec .ready B with state:= .busy})).heap[w.heap.size]?=R (.deferred (R [])):=(d (by omega)).trans hk;refine wpIn_mono (Gx _ s x s' a' _ (hI _ _ _ hi kC) Dv (hAx _ _ _ _ hax kC) (by simpa using Hf)) ?_;rintro e a3 W3 ⟨rfl,k3,l3,i3⟩
   replace l3:=l3.trans su
   have PS:=run_endRound (P:=P) B l3;refine⟨_,_,PS,rfl,hI _ _ _ i3 ((But.refl _ W3).putObj (.inr (.inr rfl)) _),?_,(d (by omega)).trans (k3.trans tK)⟩;rw[yR (V.1 l3).1,kT];rfl
  ·rintro e W2 ⟨⟨v,rfl⟩,s,hf,hi,hl,hk⟩
   exact⟨B,_,by have:=run_endLoop (P:=P) hl (by rw[kT];simp);rw[kT]at this;exact this,GI _ _ hf (hI _ _ _ hi ((But.refl _ W2).putObj (.inr (.inr rfl)) _)) ((d (by omega)).trans hk)⟩
set_option linter.unusedSimpArgs false
set_option maxRecDepth 100000
namespace Pg
def Ev.zz:Ev:=⟨0,M,0,0,0,M⟩
structure Trs where
 X:Spc
 L:List Mp
 L0:List Mp
 ti:Int
 E:List Ev
namespace Trs
def new (co n:Nat):Trs:=⟨Spc.new co n,[],[],0,[]⟩
def next (s:Trs) (x:Sx):Trs:=⟨s.X.goN x,s.X.nxL s.L x,s.X.nxP s.L s.L0 x,s.ti+s.X.chg x,s.E++[s.X.goE x]⟩
def upto (s:Trs) (q:Nat->Sx):Nat->Trs
 | 0=>s
 | k+1=>(s.upto q k).next (q k)
theorem chg_le (X:Spc) (x:Sx):0<=X.chg x/\X.chg x<=1:=by
 unfold Spc.chg
 split<;>omega
theorem ylV (s:Trs) (q:Nat->Sx):∀k,s.ti<=(s.upto q k).ti/\(s.upto q k).ti<=s.ti+k
 | 0=>⟨Int.le_refl _,by simp[upto]⟩
 | k+1=>by
   have:=ylV s q k;have h:=chg_le (s.upto q k).X (q k);simp only[upto,next];omega
theorem ykv (s:Trs) (q:Nat->Sx):∀k,(s.upto q k).E.length=s.E.length+k
 | 0=>rfl
 | k+1=>by
   have:=ykv s q k;simp only[upto,next,yO,List.length_singleton];omega
end Trs
end Pg
def xM (e:Pg.Ev):List yI:=[N T e.c,kh e.ended,N T e.a,N T e.f,N T e.r,kh e.back]
def zp (L:List Pg.Ev):List yI:=L.flatMap xM
theorem j9 (A:List Pg.Ev) (m:Pg.Ev):zp (A++[m])=zp A++xM m:=by simp[zp]
theorem yaT:∀(L:List Pg.Ev) (j i:Nat),j<L.length->i<6->(zp L)[j*6+i]?=(xM (L.getD j .zz))[i]?
 | [],j,_,h,_=>by simp at h
 | x::r,0,i,_,hi=>by
   rw[show zp (x::r)=xM x++zp r by simp[zp],List.getElem?_append_left (by simp[xM];omega)];simp
 | x::r,j+1,i,h,hi=>by
   have:=yaT r j i (by simpa using h) hi;rw[show zp (x::r)=xM x++zp r by simp[zp],List.getElem?_append_right (by simp[xM];omega)];rw[show(j+1)*6+i-(xM x).length=j*6+i by simp[xM];omega,this];simp
def ygU (w:H) (g o:Nat) (e:Pg.Ev):Prop:=
 w.cell? ⟨g,o,B⟩=R (N T e.c)/\w.cell? ⟨g,o+1,B⟩=R (kh e.ended)/\w.cell? ⟨g,o+2,B⟩=R (N T e.a)/\w.cell? ⟨g,o+3,B⟩=R (N T e.f)/\w.cell? ⟨g,o+4,B⟩=R (N T e.r)/\w.cell? ⟨g,o+5,B⟩=R (kh e.back)
theorem ygU.of {w w':H} {g o:Nat} {l:Pg.Ev} (h:ygU w g o l) (hc:∀p,w'.cell? ⟨g,p,B⟩=w.cell? ⟨g,p,B⟩):ygU w' g o l:=
 ⟨(hc _).trans h.1,(hc _).trans h.2.1,(hc _).trans h.2.2.1,(hc _).trans h.2.2.2.1,(hc _).trans h.2.2.2.2.1,(hc _).trans h.2.2.2.2.2⟩
def qm (w:H) (ad:Option Addr) (E:List Pg.Ev):Prop:=∀j,j<E.length->∃g,ad=R ⟨g,0,B⟩/\g<w.heap.size/\ygU w g (j*6) (E.getD j .zz)
theorem qm.but {G:Nat->Prop} {w w':H} {ad:Option Addr} {E:List Pg.Ev} (h:qm w ad E) (hb:But G w w') (hG:∀g,ad=R ⟨g,0,B⟩->¬G g):qm w' ad E:=by
 intro j hj;obtain⟨g,e,hg,hm⟩:=h j hj;exact⟨g,e,yK hg hb.size,hm.of fun p=>hb.cell (a:=⟨g,p,B⟩) hg (hG g e)⟩
theorem qm.below {w w':H} {ad:Option Addr} {E:List Pg.Ev} (h:qm w ad E) (hb:Lw w w'):qm w' ad E:=h.but (G:=fun _=>False) (But.yhJ hb) fun _ _=>id
theorem ydn {w:H} {base:Nat} {e:TypeId} {ad:Option Addr} {n cap:Nat} {L:List Pg.Ev} (h:w.ownsRow base e 6 (O ad n cap) L.length (zp L)):qm w ad L:=by
 intro j hj;obtain⟨g,cap',e,_,hg⟩:=h.form (by omega);cases e;have hc:=fun i (hi:i<6)=>(h.cellAt (j*6+i) (by omega)).trans (yaT L j i hj hi);have h0:=hc 0 (by omega);have h1:=hc 1 (by omega);have h2:=hc 2 (by omega);have h3:=hc 3 (by omega);have h4:=hc 4 (by omega);have h5:=hc 5 (by omega);simp only[xM,Nat.add_zero]at h0 h1 h2 h3 h4 h5;exact⟨g,rfl,hg,by simpa using h0,by simpa using h1,by simpa using h2,by simpa using h3,by simpa using h4,by simpa using h5⟩
theorem yaC {ad Pj:Option Addr} {cap cap':Nat} {L:List Pg.Ev} (w:H) (h:qm w ad L) (h':qm w Pj L) (hl:L.length<=1000000):
 yQ ki 38 #[O ad L.length cap,O Pj L.length cap'] w fun e w'=>e=kO (kh ur)/\Lw w w':=by
 have HA:Z (qm w ad L):=h;have HB:Z (qm w Pj L):=h';clear h h'
 go_enter Tryz.func38,Tryz.ntmps38
 go_wp2
 go_loopw [5] (fun i wr=>∃j:Nat,j<=L.length/\i=N T j/\Z (Lw w wr)) (fun i _=>L.length-(intOf i).toNat)
 case atStart=>exact⟨0,by omega,rfl,zR _⟩
 case round=>
  obtain⟨j,hj,rfl,HR⟩:=hrel
  have i0:(0:Int)<=(j:Int):=by omega
  by_cases Hf:j<L.length
  ·obtain⟨g,rfl,hg,hm⟩:=qm.below HA.out HR.out j Hf
   obtain⟨g',rfl,hg',kQ⟩:=qm.below HB.out HR.out j Hf;obtain⟨k0,k1,k2,k3,k4,k5⟩:=hm;obtain⟨m0,m1,m2,m3,m4,m5⟩:=kQ
   have i1:(j:Int)<(L.length:Int):=by omega
   have fin:Z (∀nq,Lw w (wr.drewN nq)):=fun nq=>zT HR.out (below_drewN (zR _) nq);generalize L.getD j .zz=x at*;obtain⟨ec,en,ea,ef,er,eb⟩:=x;simp only at k0 k1 k2 k3 k4 k5 m0 m1 m2 m3 m4 m5
   go_wp2
   go_quiet (fail)
   go_wp2
   go_roundw
   case rel=>exact⟨j+1,by omega,by go_num,fin.out _⟩
   case measure=>simp[intOf];omega
  ·have i1:¬(j:Int)<(L.length:Int):=by omega
   go_wp2
   go_ret
   exact⟨rfl,HR.out⟩
attribute [local go_sem] Oper.semAt_some
theorem jk {F:Fence} {n':Nat} {P:Program} (w:H) {ops:Array Oper} {rest:List Oper} {o:Oper} {a:Act} {Q:Exit->Act->H->Prop} (GU:o.guard=B) (s x:Operand) (t:TypeId)
 (ho:o.op= .call {callee:= .builtin .append,args:=#[s,x],argTypes:=#[t,t]})
 (base:Nat) (e:TypeId) (i:TypeInfo) (z:yI) (size bytes:Nat) (ht:P.underlying t=R (.slice e)) (hi:P.info? e=R i) (hz:i.zero=R z)
 (lu:i.size=size) (Mv:i.bytes=bytes) (Ni:z.cells.size=size) (sN:0<size)
 (v:yI) (n:Nat) (xs:List yI) (hs:a.eval s=v) (Hq:w.ownsRow base e size v n xs)
 (ad:Addr) (m c:Nat) (news:List yI) (hx:a.eval x=O (R ad) m c) (hl:news.length=m*size) (tu:∀j u,news[j]?=R u->w.cell? (ad.add j)=R u) (h1:∀u ∈ news,u.oneCell'=ur)
 (hm:0<m) (Mi:n+m<=maxLen) (nu:(n+m)*bytes<=140737488355328) (Gv:base<=w.heap.size)
 (h:∀g cap w',w'.ownsRow base e size (O (R ⟨g,0,B⟩) (n+m) cap) (n+m) (xs++news)->w.grownBy w' v.ownBlock->(v.ownBlock=R g\/g=w.heap.size)->g<w'.heap.size->wpListIn F n' P ops Q rest (a.put o.dst (O (R ⟨g,0,B⟩) (n+m) cap)) w'):wpListIn F n' P ops Q (o::rest) a w:=by
 refine wpListIn_plain GU fun K hK'=> ?_;obtain⟨g,cap,w',hr,h2,h3,h4,h5⟩:=run_append_lies (P:=P) w t o.type base e i z size bytes ht hi hz lu Mv Ni sN v n xs Hq ad m c news hl tu h1 hm Mi nu Gv _ rfl;unfold Oper.wpIn;refine⟨?_,?_⟩
 ·simp[Oper.about,ho,resolve,Target.leads,Sem.run_pure]
 ·rw[Oper.semAt_plain F _ _ (by rw[ho];intro c lM;cases lM)]
  simp[execOp,ho,resolve,invoke,builtin,hs,hx,hr,Result.andThen];exact hK' _ _ (h g cap w' h2 h3 h4 h5)
def Bd (s:Pg.Trs):Prop:=0<=s.ti/\s.ti<=100000/\s.E.length<=100000
def Seq (b:Nat) (F0:Nat->Prop) (w:H) (s0:Pg.Trs) (gf:Nat) (lb:Array yI) (Fin:Pg.Trs->Prop):Prop:=
 ∀(l:Nat) (J:Pg.Trs->H->Prop) (W1:H),(∀s W,J s W->But F0 w W/\∃F,xB W b s.X s.L s.L0 s.ti F)->(∀s W W',J s W->Lw W W'->J s W')->
  (∀s x W,J s W->qu x->Bd s->YieldAt Fence.wide 1 ki l #[x.val] W fun e W'=>e=kO (kh ur)/\J (s.next x) W')->J s0 W1->
  CallsIn Fence.wide 2 ki gf (#[.func (.yield l) #[] #[]]++lb) W1 fun e W'=>(∃v,e=kO v)/\∃s,Fin s/\J s W'
structure EvI (w:H) (b:Nat) (F0:Nat->Prop) (s:Pg.Trs) (W:H):Prop where
 b0:W.heap[w.heap.size]?=R (y #[U (R ⟨b,0,B⟩)] 75 (0,0))
 b1:Boxed W (w.heap.size+1) 92 (O B 0 0)
 b2:W.heap[w.heap.size+2]?=R (y #[N T 0,N T 0] 27 (0,0))
 ex:∃F v,xB W b s.X s.L s.L0 s.ti F/\(∀k,F k->F0 k\/w.heap.size+6<=k)/\Boxed W (w.heap.size+3) 92 v/\W.ownsRow (w.heap.size+6) 36 6 v s.E.length (zp s.E)/\∀k,v.ownBlock=R k->¬F k
 but:But F0 w W
 lt:∀k,F0 k->k<w.heap.size
theorem EvI.keep {w W W':H} {b:Nat} {F0:Nat->Prop} {s:Pg.Trs} (h:EvI w b F0 s W) (hb:But (fun k=>k=w.heap.size+4\/k=w.heap.size+5) W W'):EvI w b F0 s W':=by
 obtain⟨F,v,hw,hF,hv,hr,hn⟩:=h.ex;have blk:∀(k:Nat) o,k<w.heap.size+4->W.heap[k]?=R o->W'.heap[k]?=R o:=fun k o hk ho=>(hb.block k (V.1 ho).1 (by omega)).trans ho;refine⟨blk _ _ (by omega) h.b0,blk _ _ (by omega) h.b1,blk _ _ (by omega) h.b2,⟨F,v,hw.keep hb fun k hk e=> ?_,hF,blk _ _ (by omega) hv,zc hr hb fun k hk e=> ?_,hn⟩,h.but.trans hb fun i hi e=>by omega,h.lt⟩
 ·rcases hF k hk with hk|hk
  ·have:=h.lt k hk
   omega
  ·omega
 ·have:=(hr.lt k hk).1
  omega
theorem EvI.more {w W w1 W2 w3:H} {b g cap:Nat} {F0 F F1:Nat->Prop} {s s1:Pg.Trs} {v:yI} {e:Pg.Ev} {tmp:Obj} (h:EvI w b F0 s W) (rU:w.heap.size+6<=W.heap.size) (hF:∀k,F k->F0 k\/w.heap.size+6<=k) (Ha:But F W w1) (Hd:Lw w1 W2)
 (h1:xB W2 b s1.X s1.L s1.L0 s1.ti F1) (tH:∀k,F1 k->F k\/W.heap.size<=k) (dY:∀k,v.ownBlock=R k->¬F1 k) (hr:W2.ownsRow (w.heap.size+6) 36 6 v s.E.length (zp s.E)) (hE:s1.E=s.E++[e])
 (Hq:w3.ownsRow (w.heap.size+6) 36 6 (O (R ⟨g,0,B⟩) (s.E.length+1) cap) (s.E.length+1) (zp s.E++xM e)) (Hr:(W2.alloc tmp).grownBy w3 v.ownBlock) (hat:v.ownBlock=R g\/g=(W2.alloc tmp).heap.size) (RG:Boxed w3 (w.heap.size+3) 92 v):
 (w3.setCell ⟨w.heap.size+3,0,B⟩ (O (R ⟨g,0,B⟩) (s.E.length+1) cap)).heap[w.heap.size+4]?=W.heap[w.heap.size+4]?/\(w3.setCell ⟨w.heap.size+3,0,B⟩ (O (R ⟨g,0,B⟩) (s.E.length+1) cap)).heap[w.heap.size+5]?=W.heap[w.heap.size+5]?/\
 EvI w b F0 s1 (w3.setCell ⟨w.heap.size+3,0,B⟩ (O (R ⟨g,0,B⟩) (s.E.length+1) cap)):=by
 have eB:∀k,v.ownBlock=R k->w.heap.size+6<=k:=fun k hk=>(hr.lt k hk).1;have pE:But (fun k=>v.ownBlock=R k) W2 w3:=((But.refl _ W2).alloc tmp).grown Hr fun j hj=> .inr hj;have wY:But (fun k=>k=w.heap.size+3\/v.ownBlock=R k) W2 (w3.setCell ⟨w.heap.size+3,0,B⟩ (O (R ⟨g,0,B⟩) (s.E.length+1) cap)):=(pE.mono fun i _ e=> .inr e).setCell (.inr (.inl rfl)) _;have s1:=Ha.size;have s2:=Hd.size;have nF:∀k,F k->k<w.heap.size\/w.heap.size+6<=k:=fun k hk=>(hF k hk).imp (h.lt k) id
 have blk:∀k,w.heap.size<=k->k<w.heap.size+6->k≠w.heap.size+3->(w3.setCell ⟨w.heap.size+3,0,B⟩ (O (R ⟨g,0,B⟩) (s.E.length+1) cap)).heap[k]?=W.heap[k]?:=fun k k1 k2 k3=>by
  rw[wY.block k (by omega) (fun e=>e.elim k3 fun e=>by have:=eB k e;omega),Hd.block k (by omega),Ha.block k (by omega) fun e=>by have:=nF k e;omega]
 refine⟨blk _ (by omega) (by omega) (by omega),blk _ (by omega) (by omega) (by omega),(blk _ (by omega) (by omega) (by omega)).trans h.b0,(blk _ (by omega) (by omega) (by omega)).trans h.b1,(blk _ (by omega) (by omega) (by omega)).trans h.b2,
  ⟨F1,_,h1.keep wY fun k hk e=> ?_,fun k hk=> ?_,RG.set _,?_,fun k hk hf=> ?_⟩,?_,h.lt⟩
 ·rcases e with e|e
  ·rcases tH k hk with hk|hk
   ·have:=nF k hk;omega
   ·omega
  ·exact dY k e hk
 ·rcases tH k hk with hk|hk
  ·exact hF k hk
  ·exact .inr (by omega)
 ·rw[hE,j9,yO]
  exact Hq.kept (grownBy_setCell' w3 _ _) (.inr (RG.not_row (by decide) Hq).symm)
 ·obtain rfl:g=k:=by simpa[Value.ownBlock]using hk
  rcases hat with e|e
  ·exact dY g e hf
  ·have:=h1.lt hf
   simp at e;omega
 ·refine(((h.but.trans Ha fun i hi e=>(hF i e).elim id fun e=>by omega).trans (But.yhJ (F:=fun _=>False) Hd) fun _ _ e=>e.elim).trans wY fun i hi e=> ?_)
  rcases e with e|e
  ·omega
  ·have:=eB i e;omega
theorem ygq:(Tryz.prog.info? 36).map (fun i=>(i.zero,i.size,i.bytes))=R (R (yE #[N T 0,kh M,N T 0,N T 0,N T 0,kh M]),6,48):=by kernel_rfl
end
section
open Go.Sort
attribute [local go_sem] Oper.semAt_some
theorem vk {b:Nat} {s0:Pg.Trs} {F0:Nat->Prop} {gf:Nat} {lb:Array yI} {Fin:Pg.Trs->Prop} (w:H) (h:xB w b s0.X s0.L s0.L0 s0.ti F0) (hE:s0.E=[]) (hgf:∀args w,(callFunc gf args).run ki w= .ok (.enter gf args) w)
 (hs:Seq b F0 w s0 gf lb Fin):
 yQ ki 79 #[U (R ⟨b,0,B⟩),.func (.func gf) #[] lb] w fun e w'=>∃s ad cap,Fin s/\s.E.length<=cap/\e=kO (yY #[O ad s.E.length cap,yE #[N T 0,N T 0]])/\qm w' ad s.E/\But F0 w w'/\
  ∃F',xB w' b s.X s.L s.L0 s.ti F'/\(∀k,F' k->F0 k\/w.heap.size<=k)/\∀g,ad=R ⟨g,0,B⟩->w.heap.size<=g/\¬F' g:=by
 refine(callsIn_wide (n:=3)).1 ?_;refine callsIn_of_wp_marks Tryz.func79 rfl trivial ?_ rfl;simp only[Tryz.ntmps79,yJ,yS,ua,yB,yU,uv,ud,yP,ue,yN,yC]
 gi_wp2
 obtain⟨Wl,Da⟩:=eY ((((w.alloc (y #[U (R ⟨b,0,B⟩)] 75)).alloc (y #[O B 0 0] 92)).alloc (y #[N T 0,N T 0] 27)).alloc (y #[O B 0 0] 92));rw[<-Da]
 have sN:Wl.heap.size=w.heap.size+4:=by rw[Da];simp
 have al:∀(k:Nat) o,(((w.alloc (y #[U (R ⟨b,0,B⟩)] 75)).alloc (y #[O B 0 0] 92)).alloc (y #[N T 0,N T 0] 27)).heap[k]?=R o->Wl.heap[k]?=R o:=fun k o hk=>by
  rw[Da,Below.heap_alloc _ _ _ (V.1 hk).1];exact hk
 obtain⟨a0,a1,a2⟩:=jl w (y #[U (R ⟨b,0,B⟩)] 75) (y #[O B 0 0] 92) (y #[N T 0,N T 0] 27)
 have a3:Wl.heap[w.heap.size+3]?=R (y #[O B 0 0] 92 (0,0)):=by
  rw[Da];exact(show(((w.alloc (y #[U (R ⟨b,0,B⟩)] 75)).alloc (y #[O B 0 0] 92)).alloc (y #[N T 0,N T 0] 27)).heap.size=w.heap.size+3 by simp)▸un _ _
 have rV:Lw w Wl:=by rw[Da];exact zA (zA (zA (zA (zR _) _) _) _) _
 have I0:EvI w b F0 s0 Wl:=⟨al _ _ a0,al _ _ a1,al _ _ a2,⟨F0,_,h.grow rV,fun k hk=> .inl hk,a3,by rw[hE];exact World.ownsRow_nil _ _ _ _,fun k hk=>by cases hk⟩,But.yhJ rV,fun k hk=>h.lt hk⟩
 have hI:∀s W W',EvI w b F0 s W->But (yf5 Wl) W W'->EvI w b F0 s W':=fun s W W' hi hb=>hi.keep (hb.mono fun i _ e=>by
  rcases e with e|e
  ·exact .inl (by omega)
  ·exact .inr (by omega))
 clear al a0 a1 a2 a3 rV h
 refine yep rfl (by omega) (gf:=gf) (lb:=lb) rfl trivial hgf (EvI w b F0) (fun s x s'=>∃sx,qu sx/\Bd s/\x=#[Pg.Sx.val sx]/\s'=s.next sx) Fin ?ps hI s0 I0 ?seq
  (fun x a' W=>∃sx Bx,x=#[Pg.Sx.val sx]/\w.heap.size+6<=Bx/\W.heap[Bx]?=R (zI sx)/\a'={tmps:=#[U (R ⟨b,0,B⟩),.func (.func gf) #[] lb,U (R ⟨w.heap.size,0,B⟩),undef,U (R ⟨w.heap.size+1,0,B⟩),U (R ⟨w.heap.size+2,0,B⟩),U (R ⟨w.heap.size+3,0,B⟩),U (R ⟨Bx,0,B⟩),undef,undef,.func (.func gf) #[] lb,Pg.Sx.val sx,undef,undef,undef,undef,undef,undef,undef,undef,undef,undef,undef,undef,undef,undef,undef,undef],defers:=[]}) ?hAx ?assign ?body ?done
 case ps=>
  rintro s x s' ⟨sx,_,_,rfl,_⟩;rfl
 case seq=>
  intro J W1 hJ aO hY h0;exact hs _ J W1 (fun s W hj=>⟨(hJ s W hj).but,by obtain⟨F,_,hw,_⟩:=(hJ s W hj).ex;exact⟨F,hw⟩⟩) aO (fun s x W hj hx hb=>hY s _ _ W hj ⟨x,hx,hb,rfl,rfl⟩) h0
 case hAx=>
  rintro x a' W W' ⟨sx,Bx,h1,h2,h3,h4⟩ hb;refine⟨sx,Bx,h1,h2,(hb.block Bx (V.1 h3).1 fun e=> ?_).trans h3,h4⟩
  rcases e with e|e<;>omega
 case assign=>
  rintro l s x s' W K hi ⟨sx,hx,aR,rfl,rfl⟩ Hf hK;have hK:Z (∀a' W',Lw W W'->_->K a' W'):=hK;obtain⟨W2,Hy⟩:=eY (W.alloc (zI sx))
  have Hd:Z (Lw W W2):=by rw[Z,Hy];exact zA (zR _) _
  have nG:Z (W2.heap[W.heap.size]?=R (zI sx)):=by rw[Z,Hy];exact un _ _
  have hl:Z (w.heap.size+6<=W.heap.size):=by rw[Z];omega
  simp only[zI,Pg.Sx.val]at Hy;simp only[Pg.Sx.val];clear Hf hi aR hx
  gi_wp2
  rw[<-Hy];exact hK.out _ _ Hd.out ⟨sx,_,rfl,hl.out,nG.out,rfl⟩
 case body=>
  rintro l s x s' a' W hi ⟨sx,hx,aR,rfl,rfl⟩ ⟨sy,Bx,Ch,hBx,PH,rfl⟩ Hf
  obtain rfl:sx=sy:=by
   obtain⟨kd,cr,⟨mp,ms,mf,mr⟩,xq,xk,xu⟩:=sx;obtain⟨kd',cr',⟨mp',ms',fM,mr'⟩,xq',xk',xu'⟩:=sy;simp[Pg.Sx.val]at Ch;simp[Ch]
  clear Ch;obtain⟨F,v,hw,hF,hv,hr,hn⟩:=hi.ex;have HD:=vA sx hx W hw ⟨aR.1,by have:=aR.2.1;omega⟩
  have y0:W.cell? ⟨w.heap.size,0,B⟩=R (U (R ⟨b,0,B⟩)):=by simp[yT,hi.b0]
  have yx:∀p v,(#[N T sx.kind,N T sx.core,N T sx.m.p,N T sx.m.s,N T sx.m.f,N T sx.m.r,N T sx.q,N T sx.k,kh sx.u]:Array yI)[p]?=R v->W.cell? ⟨Bx,p,B⟩=R v:=fun p v hp=>by
   unfold zI at PH;simp[yT,PH,hp]
  have x1:=yx 0 _ rfl;have x2:=yx 1 _ rfl;have x3:=yx 2 _ rfl;have x4:=yx 3 _ rfl;have x5:=yx 4 _ rfl;have x6:=yx 5 _ rfl;have x7:=yx 6 _ rfl;have x8:=yx 7 _ rfl;have x9:=yx 8 _ rfl;clear yx PH;have HI:Z (EvI w b F0 s W):=hi
  have rU:w.heap.size+6<=W.heap.size:=by omega
  have HF:Z (∀k,F k->F0 k\/w.heap.size+6<=k):=hF;have HV:Z (Boxed W (w.heap.size+3) 92 v):=hv;have HR:Z (W.ownsRow (w.heap.size+6) 36 6 v s.E.length (zp s.E)):=hr;have HN:Z (∀k,v.ownBlock=R k->¬F k):=hn;have BD:Z (s.E.length<=100000):=aR.2.2;generalize rG:s.next sx=s1;have FL:Z (s.next sx=s1):=rG;clear hi hF hv hr hn hx aR hw rG Hf;obtain⟨i0,PY,rW,tJ,rX⟩:=info_parts ygq
  have HE:Z (s1.E=s.E++[s.X.goE sx]):=by rw[Z,<-FL.out];rfl
  have HW:Z (s1.X=s.X.goN sx/\s1.L=s.X.nxL s.L sx/\s1.L0=s.X.nxP s.L s.L0 sx/\s1.ti=s.ti+s.X.chg sx):=by rw[Z,<-FL.out];exact⟨rfl,rfl,rfl,rfl⟩
  rw[<-HW.out.1,<-HW.out.2.1,<-HW.out.2.2.1,<-HW.out.2.2.2]at HD;generalize s.X.goE sx=E at*;obtain⟨ec,en,ea,ef,er,eb⟩:=E;simp only[Pg.Sx.val,Pg.Ev.val]at HD;clear FL HW
  gi_wp2_with fail
  refine⟨trivial,(CallsIn.inRound l (callsIn_wide.2 HD)).mono ?_⟩;rintro e w1 ⟨rfl,F1,h1,Ha,tH⟩;have nF:∀k,F k->k<w.heap.size\/w.heap.size+6<=k:=fun k hk=>(HF.out k hk).imp (HI.out.lt k) id;have s1':=Ha.size;have blk:∀(k:Nat) o,w.heap.size<=k->k<w.heap.size+6->W.heap[k]?=R o->w1.heap[k]?=R o:=fun k o h1 h2 hk=>(Ha.block k (V.1 hk).1 fun e=>by have:=nF k e;omega).trans hk;have nE:Boxed w1 (w.heap.size+3) 92 v:=blk _ _ (by omega) (by omega) HV.out;have sO:=zc HR.out Ha HN.out
  have dY:∀k,v.ownBlock=R k->¬F1 k:=fun k hk e=>(tH k e).elim (HN.out k hk) fun e=>by have:=(HR.out.lt k hk).2;omega
  obtain⟨W2,Hy⟩:=eY ((w1.alloc (y #[N T ec,kh en,N T ea,N T ef,N T er,kh eb] 36)).alloc (y #[N T 0,N T 0] 27))
  have Hd:Lw w1 W2:=by rw[Hy];exact zA (zA (zR _) _) _
  have e6:W2.heap[w1.heap.size]?=R (y #[N T ec,kh en,N T ea,N T ef,N T er,kh eb] 36 (0,0)):=by
   rw[Hy,Below.heap_alloc _ _ _ (by simp)];exact un _ _
  have s2:W2.heap.size=w1.heap.size+2:=by rw[Hy];simp
  have f0:W2.cell? ⟨w1.heap.size+1,0,B⟩=R (N T 0):=by rw[Hy];simp[go_sem]
  have f1:W2.cell? ⟨w1.heap.size+1,1,B⟩=R (N T 0):=by rw[Hy];simp[go_sem]
  have eB:Boxed W2 (w.heap.size+3) 92 v:=(Hd.block _ nE.lt).trans nE;have tq:=zn sO Hd;have H1:Z (xB W2 b s1.X s1.L s1.L0 s1.ti F1):=h1.grow Hd;have ry:Z (But F W w1):=Ha;have Ht:Z (Lw w1 W2):=Hd;have wF:Z (∀k,F1 k->F k\/W.heap.size<=k):=tH;have NF:Z (∀k,F k->k<w.heap.size\/w.heap.size+6<=k):=nF;have uT:Z (∀k,v.ownBlock=R k->¬F1 k):=dY;have O5:Z (Boxed W2 (w.heap.size+3) 92 v):=eB;have FJ:Z (W2.ownsRow (w.heap.size+6) 36 6 v s.E.length (zp s.E)):=tq;have tY:=eB.cell;have BLK:Z (∀(k:Nat) o,w.heap.size<=k->k<w.heap.size+6->W.heap[k]?=R o->w1.heap[k]?=R o):=blk;clear Ha tH nF nE sO dY Hd eB tq h1 blk HD y0 x1 x2 x3 x4 x5 x6 x7 x8 x9
  gi_upto_region 5 with fail
  rw[<-Hy];clear Hy
  gi_upto_region 7 with fail
  obtain⟨⟨e0,e1,e2,e3,e4,e5⟩,_⟩:=zE e6
  have oD:w.heap.size+6<=W2.heap.size:=by omega
  have bd:=BD.out;have S2:Z (W2.heap.size=w1.heap.size+2):=s2;clear s2
  gi_wp2_with (gi_at_builtin;refine jk _ rfl _ _ 92 rfl (w.heap.size+6) 36 i0 _ 6 48 Tryz.underlying92 PY rW tJ rX rfl (by decide) v s.E.length (zp s.E) rfl (FJ.out.alloc _) ⟨W2.heap.size,0,B⟩ 1 1 (xM ⟨ec,en,ea,ef,er,eb⟩) rfl rfl (World.news_of_block (un _ _)) (by simp[xM,Value.oneCell']) (by decide) (by simp[maxLen];omega) (by omega) (by simp;omega) ?_;intro g cap w3 Hq Hr hat fC;have RG:=(O5.out.alloc (y #[N T ec,kh en,N T ea,N T ef,N T er,kh eb] 36)).kept Hr (O5.out.not_row (by decide) FJ.out);have fU:=RG.cell;have Iw:=RG.frozen)
  exact HI.out.more rU HF.out ry.out Ht.out H1.out wF.out uT.out FJ.out HE.out Hq Hr hat RG
 case done=>
  intro s W hf hi hK;rw[sN]at hK;obtain⟨F,v,hw,hF,hv,hr,hn⟩:=hi.ex;have c3:=hv.cell;obtain⟨ad,cap,rfl⟩:=zF hr;have c1:=hi.b1.cell;have z1:=hi.b1.frozen;have Hd:=hi.b2
  have f0:W.cell? ⟨w.heap.size+2,0,B⟩=R (N T 0):=by simp[yT,Hd]
  have f1:W.cell? ⟨w.heap.size+2,1,B⟩=R (N T 0):=by simp[yT,Hd]
  have fz:∀i,W.frozen? ⟨w.heap.size+2,i,B⟩=M:=fun i=>by simp[World.frozen?,Hd]
  have HI:Z (EvI w b F0 s W):=hi
  have Wv:Z (s.E.length<=cap):=by
   rcases hr.2 with ⟨e,e0⟩|⟨g,cap',cur,e,_,_,hc,_⟩
   ·rw[Z,e0]
    exact yF _
   ·injection e with _ _ e
    rw[Z,e];exact hc
  clear hi Hd
  gi_wp2
  obtain⟨Wf,oP⟩:=eY ((((W.setCell ⟨w.heap.size+1,0,B⟩ (O ad s.E.length cap)).setCell ⟨w.heap.size+1+1,0,B⟩ (N T 0)).setCell ⟨w.heap.size+1+1,1,B⟩ (N T 0)));rw[<-oP]
  have bf:But (fun k=>k=w.heap.size+1\/k=w.heap.size+2) W Wf:=by
   rw[oP];exact(((But.refl _ W).setCell (a:=⟨w.heap.size+1,0,B⟩) (.inr (.inl rfl)) _).setCell (a:=⟨w.heap.size+1+1,0,B⟩) (.inr (.inr rfl)) _).setCell (a:=⟨w.heap.size+1+1,1,B⟩) (.inr (.inr rfl)) _
  have hKf:Wf.heap[Wl.heap.size]?=R (.deferred (R [])):=by
   rw[sN];exact(bf.block _ (V.1 hK).1 (by omega)).trans hK
  have bg:But (fun k=>k=w.heap.size+1\/k=w.heap.size+2\/k=w.heap.size+4) W (Wf.putObj Wl.heap.size (.deferred B)):=(bf.mono fun i _ e=>e.imp id .inl).putObj (.inr (.inr (.inr sN))) _;have nF:∀k,F k->k<w.heap.size\/w.heap.size+6<=k:=fun k hk=>(hF k hk).imp (HI.out.lt k) id;have g0:(Wf.putObj Wl.heap.size (.deferred B)).heap[w.heap.size+1]?=Wf.heap[w.heap.size+1]?:=d (by omega);have g1:(Wf.putObj Wl.heap.size (.deferred B)).heap[w.heap.size+2]?=Wf.heap[w.heap.size+2]?:=d (by omega);have d0:(Wf.putObj Wl.heap.size (.deferred B)).cell? ⟨w.heap.size+1,0,B⟩=R (O ad s.E.length cap):=(uc (a:=⟨w.heap.size+1,0,B⟩) g0).trans (by rw[oP];simp[go_sem,c1]);have d1:(Wf.putObj Wl.heap.size (.deferred B)).cell? ⟨w.heap.size+2,0,B⟩=R (N T 0):=(uc (a:=⟨w.heap.size+2,0,B⟩) g1).trans (by rw[oP];simp[go_sem,f0,f1]);have d2:(Wf.putObj Wl.heap.size (.deferred B)).cell? ⟨w.heap.size+2,1,B⟩=R (N T 0):=(uc (a:=⟨w.heap.size+2,1,B⟩) g1).trans (by rw[oP];simp[go_sem,f0,f1])
  have FIN:Z (qm (Wf.putObj Wl.heap.size (.deferred B)) ad s.E/\But F0 w (Wf.putObj Wl.heap.size (.deferred B))/\∃F',xB (Wf.putObj Wl.heap.size (.deferred B)) b s.X s.L s.L0 s.ti F'/\(∀k,F' k->F0 k\/w.heap.size<=k)/\∀g,ad=R ⟨g,0,B⟩->w.heap.size<=g/\¬F' g):=by
   refine⟨ydn (zc hr bg fun k hk e=> ?_),HI.out.but.trans bg fun i hi e=>by omega,F,hw.keep bg fun k hk e=> ?_,fun k hk=> ?_,fun g hg=>⟨?_,?_⟩⟩
   ·have:=(hr.lt k hk).1;omega
   ·have:=nF k hk;omega
   ·rcases hF k hk with hk|hk
    ·exact .inl hk
    ·exact .inr (by omega)
   ·subst hg
    have:=(hr.lt g rfl).1;omega
   ·subst hg
    exact hn g rfl
  clear g0 g1 bf bg oP c1 c3 z1 f0 f1 fz;refine⟨by simp,.inl ⟨_,_,rfl,run_takeDeferred hKf,?_⟩⟩;generalize Wf.putObj Wl.heap.size (.deferred B)=Wg at*;refine⟨yY #[O ad s.E.length cap,yE #[N T 0,N T 0]],?_,s,ad,cap,hf,Wv.out,rfl,FIN.out⟩;simp[results,Tryz.results79,go_sem,d0,d1,d2]
theorem ycs (ad:Option Addr) (len cap:Nat) (w:H):
 yQ ki 80 #[O ad len cap] w fun e w'=>e=kO (.func (.func 129) #[] #[U (R ⟨w.heap.size,0,B⟩)])/\w'=w.alloc (y #[O ad len cap] 22):=by
 go_enter Tryz.func80,Tryz.ntmps80
 go_wp2
 go_ret
 exact⟨rfl,rfl⟩
theorem yct {b:Nat} {F0:Nat->Prop} {w:H} {ad:Option Addr} {len cap Bs:Nat} {q:Nat->Bst} {s0:Pg.Trs} (hE:s0.E=[]) (nD:0<=s0.ti/\s0.ti<=1000) (Hg:len<=2000)
 (Pq:w.cell? ⟨Bs,0,B⟩=R (O ad len cap)) (U4:¬F0 Bs) (hq:∀j,j<len->(∃b o,ad=R ⟨b,o,B⟩/\b<w.heap.size/\¬F0 b/\yal w b (o+j*9) (q j))/\jp (q j)):
 Seq b F0 w s0 129 #[U (R ⟨Bs,0,B⟩)] (fun s=>s=s0.upto (fun j=>(q j).sx) len):=by
 intro l J W1 hI aO hY h0;have hI:Z (∀s W,J s W->But F0 w W/\∃F,xB W b s.X s.L s.L0 s.ti F):=hI;have aO:Z (∀s W W',J s W->Lw W W'->J s W'):=aO;have hY:Z (∀s x W,J s W->qu x->Bd s->YieldAt Fence.wide 1 ki l #[x.val] W fun e W'=>e=kO (kh ur)/\J (s.next x) W'):=hY;have hq:Z (∀j,j<len->(∃b o,ad=R ⟨b,o,B⟩/\b<w.heap.size/\¬F0 b/\yal w b (o+j*9) (q j))/\jp (q j)):=hq;have Pt:Z (J s0 W1):=h0;have oQ:Bs<w.heap.size:=kp _ _ Pq;have c1:W1.cell? ⟨Bs,0,B⟩=R (O ad len cap):=((hI.out _ _ h0).1.cell (a:=⟨Bs,0,B⟩) oQ U4).trans Pq;clear h0 Pq;refine callsIn_of_wp Tryz.func129 rfl trivial ?_ rfl;simp only[Tryz.ntmps129,yJ,yS,ua,yB,yU,uv,ud,yP,ue,yN,yC]
 gi_wp2
 gi_loopw [7] (fun i wr=>∃k:Nat,k<=len/\i=N T k/\Z (J (s0.upto (fun j=>(q j).sx) k) wr)) (fun i _=>len-(intOf i).toNat)
 case atStart=>exact⟨0,yF _,rfl,Pt.out⟩
 case round=>
  obtain⟨k,hk,rfl,HJ⟩:=hrel;clear Pt c1
  by_cases Hf:k<len
  ·obtain⟨⟨xb,xo,rfl,pM,nx,hx⟩,fx⟩:=hq.out k Hf
   have fI:=(hI.out _ _ HJ.out).1;have cc:∀p v,w.cell? ⟨xb,p,B⟩=R v->wr.cell? ⟨xb,p,B⟩=R v:=fun p v hv=>(fI.cell (a:=⟨xb,p,B⟩) pM nx).trans hv;obtain⟨x0,x1,x2,x3,x4,x5,x6,x7,x8⟩:=hx;have x0:=cc _ _ x0;have x1:=cc _ _ x1;have x2:=cc _ _ x2;have x3:=cc _ _ x3;have x4:=cc _ _ x4;have x5:=cc _ _ x5;have x6:=cc _ _ x6;have x7:=cc _ _ x7;have x8:=cc _ _ x8;clear cc fI
   have bd:Z (Bd (s0.upto (fun j=>(q j).sx) k)):=by
    have h1:=Pg.Trs.ylV s0 (fun j=>(q j).sx) k;have h2:=Pg.Trs.ykv s0 (fun j=>(q j).sx) k;rw[hE]at h2;simp only[ua]at h2;exact⟨by omega,by omega,by omega⟩
   have i0:(0:Int)<=(k:Int):=by omega
   have i1:(k:Int)<(len:Int):=by omega
   have HX:Z (∀W o,W=wr.alloc o->YieldAt Fence.wide 1 ki l #[(q k).sx.val] W fun e W'=>e=kO (kh ur)/\J (s0.upto (fun j=>(q j).sx) (k+1)) W'):=fun W o hW=>hY.out _ _ W (by rw[hW];exact aO.out _ _ _ HJ.out (zA (zR _) _)) fx bd.out;generalize rG:s0.upto (fun j=>(q j).sx) (k+1)=s1 at*;have FL:Z (s0.upto (fun j=>(q j).sx) (k+1)=s1):=rG;clear hq rG;generalize (q k)=x at*;obtain⟨kd,cr,⟨mp,ms,mf,mr⟩,xq,xk,xu⟩:=x;simp only[Bst.sx,Pg.Sx.val]at HX x0 x1 x2 x3 x4 x5 x6 x7 x8;obtain⟨fn,tmps,assign,body,hy,hR⟩:=HX.out _ (y #[N T kd,N T cr,N T mp,N T ms,N T mf,N T mr,N T xq,N T xk,kh xu] 43) rfl;clear HX
   gi_wp2
   refine hR.mono ?_;rintro e W3 ⟨rfl,Ti⟩;have Fz:Z (J s1 W3):=Ti;clear Ti x0 x1 x2 x3 x4 x5 x6 x7 x8
   gi_wp2
   go_roundw
   case rel=>exact⟨k+1,by omega,by go_num,by rw[FL.out];exact Fz.out⟩
   case measure=>simp[intOf];omega
  ·have hk:k=len:=by omega
   have i1:¬(k:Int)<(len:Int):=by omega
   gi_wp2
   go_end0
   exact⟨⟨_,rfl⟩,by rw[<-hk];exact HJ.out⟩
end
section
open Go.Sort
attribute [local go_sem] Loose.gent
theorem ygH (co n:Nat) (ad:Option Addr) (len cap:Nat) (w:H) (h1:1<=co) (h4:co<=4) (h2:1<=n) (h3:n<=128) (hl:2000<len):
 yQ ki 37 #[N T co,N T n,O ad len cap] w fun e w'=>e=kO (yY #[O B 0 0,yE #[N T 10,N T (-1)]])/\Lw w w':=by
 have HN:=fun w=>yak co n w h1 h4 h2 h3;clear h1 h4 h2 h3
 go_enter Tryz.func37,Tryz.ntmps37
 go_wp2_with fail
 refine(HN _).mono ?_;rintro e w1 ⟨b,F,rfl,t1,Ha,tH⟩;have r0:w1.cell? ⟨w.heap.size,0,B⟩=R (N T 0):=(Ha.cell (p:=⟨w.heap.size,0,B⟩) (by simp)).trans (by simp[go_sem]);have r1:w1.cell? ⟨w.heap.size,1,B⟩=R (N T 0):=(Ha.cell (p:=⟨w.heap.size,1,B⟩) (by simp)).trans (by simp[go_sem]);have rz:∀p,w1.frozen? ⟨w.heap.size,p,B⟩=M:=fun p=>(Ha.frozen (p:=⟨w.heap.size,p,B⟩) (by simp)).trans (by simp[go_sem])
 have hs:w.heap.size<w1.heap.size:=by have:=Ha.size;simp at this;omega
 have HB:Z (Lw w w1):=zT (zA (zR w) _) Ha
 have n1:w.heap.size≠w1.heap.size:=by omega
 have n2:w1.heap.size≠w.heap.size:=by omega
 have i1:(2000:Int)<(len:Int):=by omega
 clear Ha HN t1 tH
 go_wp2
 refine yM (v:=yY #[O B 0 0,yE #[N T 10,N T (-1)]]) ?_ rfl ⟨rfl,?_⟩
 ·simp[results,Tryz.results37,go_sem,r0,r1,hs,n1,n2]
 ·repeat (first|exact HB.out|exact(HB.out.setCell (p:=⟨w.heap.size,0,B⟩) (yA _) _).setCell (p:=⟨w.heap.size,1,B⟩) (yA _) _|refine Below.drew ?_|refine zA ?_ _)
theorem yfm (co n:Nat) {ad:Option Addr} {len cap:Nat} {q:Nat->Bst} (w:H) (h1:1<=co) (h4:co<=4) (h2:1<=n) (h3:n<=128) (hl:len<=2000)
 (hq:∀j,j<len->(∃b o,ad=R ⟨b,o,B⟩/\b<w.heap.size/\yal w b (o+j*9) (q j))/\jp (q j)):
 yQ ki 37 #[N T co,N T n,O ad len cap] w fun e w'=>∃ae ce,len<=ce/\e=kO (yY #[O ae len ce,yE #[N T 0,N T 0]])/\qm w' ae ((Pg.Trs.new co n).upto (fun j=>(q j).sx) len).E/\Lw w w':=by
 have HN:=fun w=>yak co n w h1 h4 h2 h3;clear h1 h4 h2 h3;have HQ:Z (∀j,j<len->(∃b o,ad=R ⟨b,o,B⟩/\b<w.heap.size/\yal w b (o+j*9) (q j))/\jp (q j)):=hq;clear hq
 go_enter Tryz.func37,Tryz.ntmps37
 go_wp2_with fail
 refine(HN _).mono ?_;rintro e w1 ⟨b,F,rfl,t1,Ha,tH⟩;have r0:w1.cell? ⟨w.heap.size,0,B⟩=R (N T 0):=(Ha.cell (p:=⟨w.heap.size,0,B⟩) (by simp)).trans (by simp[go_sem]);have r1:w1.cell? ⟨w.heap.size,1,B⟩=R (N T 0):=(Ha.cell (p:=⟨w.heap.size,1,B⟩) (by simp)).trans (by simp[go_sem]);have rz:∀p,w1.frozen? ⟨w.heap.size,p,B⟩=M:=fun p=>(Ha.frozen (p:=⟨w.heap.size,p,B⟩) (by simp)).trans (by simp[go_sem])
 have hs:w.heap.size<w1.heap.size:=by have:=Ha.size;simp at this;omega
 have n1:w.heap.size≠w1.heap.size:=by omega
 have n2:w1.heap.size≠w.heap.size:=by omega
 have i1:¬(2000:Int)<(len:Int):=by omega
 obtain⟨W2,Hy⟩:=eY (w1.alloc (y #[N T 0,N T 0] 27))
 have Hd:Lw w1 W2:=by rw[Hy];exact zA (zR _) _
 have f0:W2.cell? ⟨w1.heap.size,0,B⟩=R (N T 0):=by rw[Hy];simp[go_sem]
 have f1:W2.cell? ⟨w1.heap.size,1,B⟩=R (N T 0):=by rw[Hy];simp[go_sem]
 have tL:Lw w W2:=zT (zT (zA (zR w) _) Ha) Hd
 have hF:∀k,F k->w.heap.size<k:=fun k hk=>by have:=tH k hk;simp at this;omega
 have r0:=yZ Hd r0;have r1:=yZ Hd r1;have rz:∀p,W2.frozen? ⟨w.heap.size,p,B⟩=M:=fun p=>(Hd.frozen (p:=⟨w.heap.size,p,B⟩) hs).trans (rz p);have T2:=t1.grow Hd;obtain⟨W3,gL⟩:=eY (W2.alloc (y #[O ad len cap] 22))
 have He:Lw W2 W3:=by rw[gL];exact zA (zR _) _
 have pE:Lw w W3:=zT tL He
 have sv:W3.cell? ⟨W2.heap.size,0,B⟩=R (O ad len cap):=by rw[gL];simp[go_sem]
 have El:=yct (b:=b) (F0:=F) (w:=W3) (q:=q) (s0:=Pg.Trs.new co n) rfl ⟨by simp[Pg.Trs.new],by simp[Pg.Trs.new]⟩ hl sv (fun e=>by have:=T2.lt e;omega) fun j hj=>by
  obtain⟨⟨xb,xo,e,hx,hc⟩,hf⟩:=HQ.out j hj;refine⟨⟨xb,xo,e,yK hx pE.size,fun e=>by have:=hF xb e;omega,?_⟩,hf⟩;obtain⟨x0,x1,x2,x3,x4,x5,x6,x7,x8⟩:=hc;exact⟨(pE.cell (p:=⟨xb,_,B⟩) hx).trans x0,(pE.cell (p:=⟨xb,_,B⟩) hx).trans x1,(pE.cell (p:=⟨xb,_,B⟩) hx).trans x2,(pE.cell (p:=⟨xb,_,B⟩) hx).trans x3,(pE.cell (p:=⟨xb,_,B⟩) hx).trans x4,(pE.cell (p:=⟨xb,_,B⟩) hx).trans x5,(pE.cell (p:=⟨xb,_,B⟩) hx).trans x6,(pE.cell (p:=⟨xb,_,B⟩) hx).trans x7,(pE.cell (p:=⟨xb,_,B⟩) hx).trans x8⟩
 have EV:=vk W3 (s0:=Pg.Trs.new co n) (T2.grow He) rfl (enters_of Tryz.func129 (by kernel_rfl) rfl) El
 have pJ:w.heap.size<W2.heap.size:=by have:=Hd.size;omega
 have r0':=yZ He r0;have r1':=yZ He r1;have AQ:∀p,W3.frozen? ⟨w.heap.size,p,B⟩=M:=fun p=>(He.frozen (p:=⟨w.heap.size,p,B⟩) pJ).trans (rz p);have rE:Z (Lw w W3):=pE;have HF:Z (∀k,F k->w.heap.size<k):=hF;clear Ha HN t1 tH El T2 tL pE hF HQ sv Hd
 go_upto_region 2 with fail
 rw[<-Hy];clear Hy
 go_wp2_with fail
 refine(ycs ad len cap W2).mono ?_;rintro e w3 ⟨rfl,kV⟩;rw[<-gL]at kV;subst w3;clear r0 r1 rz f0 f1 He gL
 go_wp2_with fail
 refine EV.mono ?_;have IM:=Pg.Trs.ykv (Pg.Trs.new co n) (fun j=>(q j).sx) len;rw[show(Pg.Trs.new co n).E.length+len=len by simp[Pg.Trs.new]]at IM;generalize Ag:((Pg.Trs.new co n).upto (fun j=>(q j).sx) len)=sE at*;have oM:Z (((Pg.Trs.new co n).upto (fun j=>(q j).sx) len)=sE):=Ag;clear Ag;rintro e w4 ⟨s,ae,ce,rfl,kE,rfl,aS,Hl,_,_,_,ge⟩;rw[IM]at kE ⊢;have Wu:Z (len<=ce):=kE;clear kE;have dn:w.heap.size<W3.heap.size:=kp _ _ r0'
 have nf:¬F w.heap.size:=fun e=>by have:=HF.out _ e;omega
 have r0:=(Hl.cell (a:=⟨w.heap.size,0,B⟩) dn nf).trans r0';have r1:=(Hl.cell (a:=⟨w.heap.size,1,B⟩) dn nf).trans r1';have rz:∀p,w4.frozen? ⟨w.heap.size,p,B⟩=M:=fun p=>(Hl.frozen (a:=⟨w.heap.size,p,B⟩) dn nf).trans (AQ p);have pz:w.heap.size<w4.heap.size:=kp _ _ r0;have FIN:Z (∀Wf,But (fun k=>k=w.heap.size) w4 Wf->qm Wf ae s.E/\Lw w Wf):=fun Wf hb=>⟨aS.but hb fun g hg e=>by have:=(ge g hg).1;omega,(rE.out.trans (Hl.below rE.out.size fun k hk=>yD (HF.out k hk))).trans (hb.below (yD pz) fun k e=>by omega)⟩;clear aS Hl ge r0' r1' AQ dn nf EV
 go_wp2
 refine yM (v:=yY #[O ae len ce,yE #[N T 0,N T 0]]) ?_ rfl ⟨ae,ce,Wu.out,rfl,by rw[oM.out];exact FIN.out _ (by exact(xE w4 _ _ _).trans (xE _ _ _ _) fun _ _ e=>e)⟩;simp[results,Tryz.results37,go_sem,r0,r1,pz]
namespace Pg
def bgT:Nat->Bst
 | 0=>⟨1,0,⟨5,0,9,0⟩,0,0,M⟩
 | 1=>⟨4,0,⟨0,0,0,0⟩,5,0,M⟩
 | _=>⟨5,1,⟨0,0,0,0⟩,0,0,M⟩
theorem bt_E:((Trs.new 1 4).upto (fun j=>(bgT j).sx) 3).E=[⟨0,M,0,0,0,ur⟩,⟨0,M,0,0,0,M⟩,⟨1,M,0,0,0,M⟩]:=by kernel_rfl
end Pg
theorem yaD (w:H):yQ ki 36 #[] w fun e w'=>e=kO (kh ur)/\Lw w w':=by
 obtain⟨W,hW⟩:=eY (w.alloc (y #[N T 1,N T 0,N T 5,N T 0,N T 9,N T 0,N T 0,N T 0,kh M,N T 4,N T 0,N T 0,N T 0,N T 0,N T 0,N T 5,N T 0,kh M,N T 5,N T 1,N T 0,N T 0,N T 0,N T 0,N T 0,N T 0,kh M] 43))
 have hB:Lw w W:=by rw[hW];exact zA (zR _) _
 have hs:w.heap.size<W.heap.size:=by rw[hW];simp
 have HR:=yfm 1 4 (ad:=R ⟨w.heap.size,0,B⟩) (len:=3) (cap:=3) (q:=Pg.bgT) W (by decide) (by decide) (by decide) (by decide) (by decide) fun j hj=>by
  have f0:Pg.fits 0:=by unfold Pg.fits;omega
  have f5:Pg.fits 5:=by unfold Pg.fits;omega
  have f9:Pg.fits 9:=by unfold Pg.fits;omega
  obtain rfl|rfl|rfl:j=0\/j=1\/j=2:=by omega
  ·exact⟨⟨_,_,rfl,hs,by unfold yal;rw[hW];simp[Pg.bgT,go_sem]⟩,f5,f0,f9,f0,f0,f0⟩
  ·exact⟨⟨_,_,rfl,hs,by unfold yal;rw[hW];simp[Pg.bgT,go_sem]⟩,f0,f0,f0,f0,f5,f0⟩
  ·exact⟨⟨_,_,rfl,hs,by unfold yal;rw[hW];simp[Pg.bgT,go_sem]⟩,f0,f0,f0,f0,f0,f0⟩
 rw[Pg.bt_E]at HR;simp only[show((1:Nat):Int)=1 from rfl,show((4:Nat):Int)=4 from rfl]at HR
 go_enter Tryz.func36,Tryz.ntmps36
 go_wp2_with fail
 rw[<-hW];refine HR.mono ?_;rintro e w1 ⟨ae,ce,_,rfl,he,Ha⟩;obtain⟨g,rfl,hg,a0,a1,a2,a3,a4,a5⟩:=he 0 (by decide);obtain⟨g',e',_,b0,b1,b2,b3,b4,b5⟩:=he 1 (by decide);obtain⟨g'',e'',_,c0,c1,c2,c3,c4,c5⟩:=he 2 (by decide);cases e';cases e'';simp only[List.getD,List.getElem?_cons_zero,List.getElem?_cons_succ,Option.getD_some,Nat.reduceMul,yB,Nat.zero_mul,Nat.one_mul]at a0 a1 a2 a3 a4 a5 b0 b1 b2 b3 b4 b5 c0 c1 c2 c3 c4 c5;have HB:Z (Lw w w1):=zT hB Ha
 have ng:g≠w1.heap.size:=by omega
 have ng':w1.heap.size≠g:=by omega
 clear Ha he hB hW HR hs
 go_wp2
 go_ret
 exact⟨rfl,zA HB.out _⟩
end
namespace Pg
namespace Trs
def yj5 (s:Trs):Nat->Trs
 | 0=>s
 | k+1=>if (s.yj5 k).X.W.getD k M=ur then(s.yj5 k).next (.ack k)else s.yj5 k
def wlkN (c:Nat):Nat->Trs->Trs
 | 0,s=>s
 | n+1,s=>if (s.X.C.getD c Cr.new).K.on=ur then wlkN c n (s.next (.wlk c))else s
def ylZ (s:Trs):Nat->Trs
 | 0=>s
 | k+1=>wlkN k 6 (s.ylZ k)
end Trs
structure AckI (s:Trs) (k:Nat) (t:Trs):Prop where
 eq:t=s.yj5 k
 inv:Inv t.X t.L t.L0
 len:t.X.C.length=s.X.C.length
 n:t.X.S.n=s.X.S.n
 wt:∀j,t.X.W.getD j M=if j<k then M else s.X.W.getD j M
 ti:t.ti=s.ti
 E:t.E.length<=s.E.length+k
structure WlkI (s:Trs) (k:Nat) (t:Trs):Prop where
 eq:t=s.ylZ k
 inv:Inv t.X t.L t.L0
 len:t.X.C.length=s.X.C.length
 n:t.X.S.n=s.X.S.n
 calm:t.X.busy=M
 off:∀j,j<k->(t.X.C.getD j Cr.new).K.on=M
 ti:t.ti=s.ti
 E:t.E.length<=s.E.length+6*k
structure WlkR (s:Trs) (k i:Nat) (t:Trs):Prop where
 eq:Trs.wlkN k (6-i) t=s.ylZ (k+1)
 le:i<=6
 rk:(t.X.C.getD k Cr.new).K.on=ur->rk t.X.S (t.X.C.getD k Cr.new).K+i<=6
 inv:Inv t.X t.L t.L0
 len:t.X.C.length=s.X.C.length
 n:t.X.S.n=s.X.S.n
 calm:t.X.busy=M
 off:∀j,j<k->(t.X.C.getD j Cr.new).K.on=M
 ti:t.ti=s.ti
 E:t.E.length<=s.E.length+6*k+i
def Rest (s t:Trs):Prop:=∃a,AckI s s.X.C.length a/\WlkI a s.X.C.length t
section
variable {s t:Trs} {k i:Nat}
theorem ylL (t:Trs) (x:Sx) (h:¬(1<=x.kind/\x.kind<=3)):(t.next x).ti=t.ti:=by
 show t.ti+t.X.chg x=t.ti
 unfold Spc.chg;rw[iN (fun e=>h ⟨e.1,e.2.1⟩)];omega
theorem ylm (t:Trs) (x:Sx):(t.next x).E.length=t.E.length+1:=by simp[Trs.next]
theorem ymf (h:Inv s.X s.L s.L0):AckI s 0 s:=⟨rfl,h,rfl,rfl,fun j=>by simp,rfl,by omega⟩
theorem AckI.yes (h:AckI s k t) (hk:k<s.X.C.length) (hw:t.X.W.getD k M=ur):AckI s (k+1) (t.next (.ack k)):=by
 have bE:k<t.X.C.length:=by rw[h.len];exact hk
 have g:=(go_ack t.X bE).2;refine⟨?_,yiT h.inv (.ack k),(yiz h.inv (.ack k)).2.trans h.len,(yiz h.inv (.ack k)).1.trans h.n,fun j=> ?_,?_,?_⟩
 ·show _=if (s.yj5 k).X.W.getD k M=ur then(s.yj5 k).next (.ack k)else s.yj5 k
  rw[<-h.eq,iP hw]
 ·show(t.X.goN (.ack k)).W.getD j M=_
  rw[g,ack_W h.inv bE,h.wt j]
  by_cases e:j=k
  ·rw[iP e,iP (by omega)]
  ·rw[iN e]
   by_cases e2:j<k
   ·rw[iP e2,iP (by omega)]
   ·rw[iN e2,iN (by omega)]
 ·exact(ylL t (.ack k) (by simp[Sx.ack])).trans h.ti
 ·have:=h.E
  rw[ylm];omega
theorem AckI.no (h:AckI s k t) (hw:t.X.W.getD k M=M):AckI s (k+1) t:=by
 refine⟨?_,h.inv,h.len,h.n,fun j=> ?_,h.ti,Nat.le_succ_of_le h.E⟩
 ·show _=if (s.yj5 k).X.W.getD k M=ur then(s.yj5 k).next (.ack k)else s.yj5 k
  rw[<-h.eq,iN (by rw[hw];simp)]
 ·by_cases e:j=k
  ·rw[iP (by omega),e,hw]
  ·rw[h.wt j]
   by_cases e2:j<k
   ·rw[iP e2,iP (by omega)]
   ·rw[iN e2,iN (by omega)]
theorem AckI.calm (h:AckI s s.X.C.length t):t.X.busy=M:=by
 refine busy_no fun j hj=> ?_;rw[h.wt j,iP];rw[h.inv.len,h.len]at hj;exact hj
theorem AckI.wlk (h:AckI s s.X.C.length t):WlkI t 0 t:=⟨rfl,h.inv,rfl,rfl,h.calm,fun j hj=>by omega,rfl,by omega⟩
theorem WlkI.begin (h:WlkI s k t) (hk:k<s.X.C.length):WlkR s k 0 t:=by
 have bE:k<t.X.C.length:=by rw[h.len];exact hk
 refine⟨?_,by omega,fun _=> ?_,h.inv,h.len,h.n,h.calm,h.off,h.ti,by have:=h.E;omega⟩
 ·show Trs.wlkN k 6 t=Trs.wlkN k 6 (s.ylZ k)
  rw[<-h.eq]
 ·exact rk_le (h.inv.cores k bE).ok.walk
theorem WlkR.on (h:WlkR s k i t) (hk:k<s.X.C.length) (ho:(t.X.C.getD k Cr.new).K.on=ur):i<6/\WlkR s k (i+1) (t.next (.wlk k)):=by
 have bE:k<t.X.C.length:=by rw[h.len];exact hk
 have g:=(yl5 t.X bE).2;have hr:=h.rk ho;have hp:=ymb t.X.S (t.X.C.getD k Cr.new).K
 have hi:i<6:=by omega
 have eX:(t.next (.wlk k)).X=t.X.goN (.wlk k):=rfl
 have eC:((t.next (.wlk k)).X.C.getD k Cr.new)=(t.X.C.getD k Cr.new).stN t.X.S 0:=by
  rw[eX,g]
  show(t.X.C.set k _).getD k Cr.new=_
  rw[yic bE,iP rfl]
 refine⟨hi,?_,by omega,fun h2=> ?_,yiT h.inv (.wlk k),(yiz h.inv (.wlk k)).2.trans h.len,(yiz h.inv (.wlk k)).1.trans h.n,?_,fun j hj=> ?_,?_,?_⟩
 ·have e:=h.eq
  obtain⟨n,hn⟩:∃n,6-i=n+1:=⟨6-i-1,by omega⟩;rw[hn]at e;rw[show 6-(i+1)=n by omega,<-e]
  show _=if (t.X.C.getD k Cr.new).K.on=ur then Trs.wlkN k n (t.next (.wlk k))else t
  rw[iP ho]
 ·rw[eC]at h2 ⊢
  rcases ylW h.inv h.calm bE ho with ⟨_,w2,_,_,_,_,w7⟩|⟨_,w2⟩
  ·rw[eX,g]
   show Pg.rk ((t.X.C.getD k Cr.new).stS t.X.S 0) _+_<=6
   rw[w2];omega
  ·rw[w2]at h2
   cases h2
 ·rw[eX,g]
  exact h.calm
 ·rw[eX,g]
  show((t.X.C.set k _).getD j Cr.new).K.on=M
  rw[yic bE,iN (by omega)];exact h.off j hj
 ·exact(ylL t (.wlk k) (by simp[Sx.wlk])).trans h.ti
 ·have:=h.E
  rw[ylm];omega
theorem WlkR.ended (h:WlkR s k i t) (ho:(t.X.C.getD k Cr.new).K.on=M):WlkI s (k+1) t:=by
 refine⟨?_,h.inv,h.len,h.n,h.calm,fun j hj=> ?_,h.ti,by have:=h.E;have:=h.le;omega⟩
 ·rw[<-h.eq]
  cases hn:6-i with
  | zero=>rfl
  | succ n=>
    show t=if (t.X.C.getD k Cr.new).K.on=ur then Trs.wlkN k n (t.next (.wlk k))else t
    rw[iN (by rw[ho];simp)]
 ·by_cases e:j=k
  ·rw[e]
   exact ho
  ·exact h.off j (by omega)
theorem Rest.same {t':Trs} (h:Rest s t) (h':Rest s t'):t=t':=by
 obtain⟨a,h1,h2⟩:=h;obtain⟨a',wW,SN⟩:=h';have:a=a':=h1.eq.trans wW.eq.symm;subst this;exact h2.eq.trans SN.eq.symm
end
end Pg
section
open Go.Sort
attribute [local go_sem] Oper.semAt_some
theorem Pg.ykP (X:Pg.Spc) (k:Nat):X.walkOf (k:Int)=(X.C.getD k Pg.Cr.new).K:=by
 unfold Pg.Spc.walkOf;rw[iP (by omega),Int.toNat_natCast]
theorem Pg.ykk (X:Pg.Spc) (k:Nat):X.waitsOf (k:Int)=X.W.getD k M:=by
 unfold Pg.Spc.waitsOf;rw[Int.toNat_natCast];simp
theorem ya8 (kd:Int) (k:Nat) (h1:0<=kd/\kd<=8) (h2:k<=4):qu ⟨kd,(k:Int),.zz,0,0,M⟩:=by
 simp[qu,Pg.Mp.zz,Pg.fits]
theorem yen {b:Nat} {X:Pg.Spc} {L L0:List Pg.Mp} {ti:Int} {F:Nat->Prop} (k:Int) (w:H) (h:xB w b X L L0 ti F):
 yQ ki 131 #[U (R ⟨b,0,B⟩),N T k] w fun e w'=>e=kO (kh (X.walkOf k).on)/\Lw w w':=by
 obtain⟨sp,Fs,c0,hd⟩:=h.space;have HO:=ycP k hd;generalize X.walkOf k=K at*;clear hd h
 go_enter Tryz.func131,Tryz.ntmps131
 go_wp2_with fail
 refine HO.mono ?_;rintro e w1 ⟨rfl,Ha⟩;have HB:Z _:=Ha;clear Ha HO
 go_wp2
 go_ret
 exact⟨rfl,zA HB.out _⟩
theorem yel {b:Nat} {F0:Nat->Prop} {w:H} {Bs:Nat} {s0:Pg.Trs} (hE:s0.E=[]) (nD:0<=s0.ti/\s0.ti<=100000) (fA:Pg.Inv s0.X s0.L s0.L0) (uk:s0.X.C.length<=4)
 (Pq:w.cell? ⟨Bs,0,B⟩=R (U (R ⟨b,0,B⟩))) (U4:¬F0 Bs):
 Seq b F0 w s0 130 #[U (R ⟨Bs,0,B⟩)] (fun t=>Pg.Rest s0 t):=by
 intro l J W1 hI aO hY h0;have hI:Z (∀s W,J s W->But F0 w W/\∃F,xB W b s.X s.L s.L0 s.ti F):=hI;have aO:Z (∀s W W',J s W->Lw W W'->J s W'):=aO;have hY:Z (∀s x W,J s W->qu x->Bd s->YieldAt Fence.wide 1 ki l #[x.val] W fun e W'=>e=kO (kh ur)/\J (s.next x) W'):=hY;have Pt:Z (J s0 W1):=h0;have HC:Z (∀s W,J s W->W.cell? ⟨Bs,0,B⟩=R (U (R ⟨b,0,B⟩))):=fun s W hj=>((hI.out _ _ hj).1.cell (a:=⟨Bs,0,B⟩) (kp _ _ Pq) U4).trans Pq
 have HS:Z (∀s W,J s W->∃sp Fs,W.cell? ⟨b,0,B⟩=R (U (R ⟨sp,0,B⟩))/\vv W sp s.X Fs):=fun s W hj=>by
  obtain⟨F,hw⟩:=(hI.out _ _ hj).2;exact hw.space
 have DW:Z (Pg.AckI s0 0 s0):=Pg.ymf fA;have HE:Z (s0.E=[]):=hE;have HT:Z (0<=s0.ti/\s0.ti<=100000):=nD;have Tt:=uk;clear h0 Pq hE nD fA uk;generalize nV:s0.X.C.length=cn at*;have wD:Z (s0.X.C.length=cn):=nV;clear nV;have cO:=HC.out _ _ Pt.out;obtain⟨sp,Fs,cb,D,hd,Ml⟩:=HS.out _ _ Pt.out;have TT:=vH _ hd;rw[wD.out]at TT;clear hd Ml;refine callsIn_of_wp Tryz.func130 rfl trivial ?_ rfl;simp only[Tryz.ntmps130,yJ,yS,ua,yB,yU,uv,ud,yP,ue,yN,yC]
 gi_wp2_with fail
 refine⟨trivial,(callsIn_wide.2 TT).mono ?_⟩;rintro e w1 ⟨rfl,mo⟩;subst mo;clear TT cO cb
 gi_wp2_with fail
 gi_loopw [10] (fun i wr=>∃(k:Nat) (t:Pg.Trs),k<=cn/\i=N T k/\Z (Pg.AckI s0 k t)/\Z (J t wr)) (fun i _=>cn-(intOf i).toNat)
 case atStart=>exact⟨0,s0,yF _,rfl,DW,Pt⟩
 case round=>
  obtain⟨k,t,hk,rfl,HA,HJ⟩:=hrel;clear Pt DW;have cO:=HC.out _ _ HJ.out;obtain⟨sp,Fs,cb,D,hd,Ml⟩:=HS.out _ _ HJ.out
  by_cases Hf:k<cn
  ·have i0:(0:Int)<=(k:Int):=by omega
   have i1:(k:Int)<(cn:Int):=by omega
   have aL:=vJ (k:Int) _ hd;rw[Pg.ykk]at aL;clear hd Ml
   by_cases hw:t.X.W.getD k M=ur
   ·rw[hw]at aL
    have HN:Z (Pg.AckI s0 (k+1) (t.next (.ack k))):=HA.out.yes (by rw[wD.out];exact Hf) hw;have hx:=hY.out t (.ack k) wr HJ.out (ya8 6 k (by omega) (by omega)) (by have h1:=HA.out.ti;have h2:=HA.out.E;have h3:=HT.out;rw[HE.out]at h2;exact⟨by omega,by omega,by simp at h2;omega⟩);generalize t.next (.ack k)=t' at*;simp only[Pg.Sx.ack,Pg.Mp.zz,Pg.Sx.val]at hx;obtain⟨fn,tmps,assign,body,hy,hR⟩:=hx;clear hw
    gi_wp2_with fail
    refine⟨trivial,(callsIn_wide.2 aL).mono ?_⟩;rintro e w1 ⟨rfl,mo⟩;subst mo;clear aL
    gi_wp2_with fail
    refine hR.mono ?_;rintro e W3 ⟨rfl,Ti⟩;have Fz:Z (J t' W3):=Ti;clear Ti hR hy cO cb
    gi_wp2_with fail
    go_roundw
    case rel=>exact⟨k+1,_,by omega,by go_num,HN,Fz⟩
    case measure=>simp[intOf];omega
   ·have hw:t.X.W.getD k M=M:=by simpa using hw
    rw[hw]at aL;have HN:Z (Pg.AckI s0 (k+1) t):=HA.out.no hw;clear hw
    gi_wp2_with fail
    refine⟨trivial,(callsIn_wide.2 aL).mono ?_⟩;rintro e w1 ⟨rfl,mo⟩;subst mo;clear aL cO cb
    gi_wp2_with fail
    refine⟨fun f h=>(by cases h),?_⟩
    gi_wp2_with fail
    go_roundw
    case rel=>exact⟨k+1,_,by omega,by go_num,HN,HJ⟩
    case measure=>simp[intOf];omega
  ·have Rv:k=cn:=by omega
   have i1:¬(k:Int)<(cn:Int):=by omega
   have TP:Z (Pg.AckI s0 s0.X.C.length t):=by rw[wD.out,<-Rv];exact HA
   have FN:Z (Pg.WlkI t 0 t):=TP.out.wlk
   have NC:Z (t.E.length<=4):=by have:=HA.out.E;rw[HE.out]at this;simp at this;rw[Z];omega
   have HTt:Z (0<=t.ti/\t.ti<=100000):=by rw[Z,HA.out.ti];exact HT.out
   have fe:Z (t.X.C.length=cn):=HA.out.len.trans wD.out;have TT:=vH _ hd;rw[fe.out]at TT;clear HA hk Rv hd Ml;generalize ht:t=a at*;clear ht
   gi_wp2_with fail
   refine⟨trivial,(callsIn_wide.2 TT).mono ?_⟩;rintro e w1 ⟨rfl,mo⟩;subst mo;clear TT cO cb i1
   gi_wp2_with fail
   gi_loopw [32] (fun i wr=>∃(k:Nat) (t:Pg.Trs),k<=cn/\i=N T k/\Z (Pg.WlkI a k t)/\Z (J t wr)) (fun i _=>cn-(intOf i).toNat)
   case atStart=>exact⟨0,a,yF _,rfl,FN,HJ⟩
   case round=>
    obtain⟨k,t,hk,rfl,HA,HJ⟩:=hrel;clear FN
    by_cases Hf:k<cn
    ·have i0:(0:Int)<=(k:Int):=by omega
     have i1:(k:Int)<(cn:Int):=by omega
     have HB:Z (Pg.WlkR a k 0 t):=HA.out.begin (by rw[fe.out];exact Hf);clear HA;have OQ:Z (J t wr):=HJ;clear HJ;generalize ht:t=z at*;clear ht
     gi_wp2_with fail
     gi_loopg [] 6 (fun g wr=>∃(i:Nat) (t:Pg.Trs),g=6-i/\Z (Pg.WlkR a k i t)/\Z (J t wr))
     case atStart=>exact⟨0,z,rfl,HB,OQ⟩
     case round=>
      obtain⟨i,t,hg,HA,HJ⟩:=hrel;clear OQ HB;have cO:=HC.out _ _ HJ.out;obtain⟨Fw,hw⟩:=(hI.out _ _ HJ.out).2;have iy:=yen (k:Int) _ hw;rw[Pg.ykP]at iy;clear hw
      by_cases ho:(t.X.C.getD k Pg.Cr.new).K.on=ur
      ·rw[ho]at iy
       obtain⟨GX,HN⟩:=HA.out.on (by rw[fe.out];exact Hf) ho;have HN:Z (Pg.WlkR a k (i+1) (t.next (.wlk k))):=HN;have hx:=fun W h=>hY.out t (.wlk k) W h (ya8 5 k (by omega) (by omega)) (by have h1:=HA.out.ti;have h2:=HA.out.E;have h3:=HTt.out;have h4:=NC.out;exact⟨by omega,by omega,by omega⟩);generalize t.next (.wlk k)=t' at*;simp only[Pg.Sx.wlk,Pg.Mp.zz,Pg.Sx.val]at hx;clear ho
       gi_wp2_with fail
       refine⟨trivial,(callsIn_wide.2 iy).mono ?_⟩;rintro e w1 ⟨rfl,Ha⟩;have NQ:Z (J t w1):=aO.out _ _ _ HJ.out Ha;obtain⟨fn,tmps,assign,body,hy,hR⟩:=hx w1 NQ.out;clear iy Ha cO
       gi_wp2_with fail
       refine hR.mono ?_;rintro e W3 ⟨rfl,Ti⟩;have Fz:Z (J t' W3):=Ti;clear Ti hR hy
       gi_wp2_with fail
       go_roundg (6-(i+1))
       case rel=>exact⟨i+1,t',rfl,HN,Fz⟩
       case measure=>omega
      ·have ho:(t.X.C.getD k Pg.Cr.new).K.on=M:=by simpa using ho
       rw[ho]at iy;have HN:Z (Pg.WlkI a (k+1) t):=HA.out.ended ho;clear ho
       gi_wp2_with fail
       refine⟨trivial,(callsIn_wide.2 iy).mono ?_⟩;rintro e w1 ⟨rfl,Ha⟩;have NQ:Z (J t w1):=aO.out _ _ _ HJ.out Ha;clear iy Ha cO
       gi_wp2_with fail
       go_roundw
       case rel=>exact⟨k+1,t,by omega,by go_num,HN,NQ⟩
       case measure=>simp[intOf];omega
    ·have Rv:k=cn:=by omega
     have i1:¬(k:Int)<(cn:Int):=by omega
     have LB:Z (Pg.WlkI a s0.X.C.length t):=by rw[<-TP.out.len,fe.out,<-Rv];exact HA
     gi_wp2_with fail
     go_end0
     exact⟨⟨_,rfl⟩,t,⟨a,TP.out,LB.out⟩,HJ.out⟩
theorem ycr (b:Nat) (w:H):yQ ki 81 #[U (R ⟨b,0,B⟩)] w fun e w'=>e=kO (.func (.func 130) #[] #[U (R ⟨w.heap.size,0,B⟩)])/\w'=w.alloc (y #[U (R ⟨b,0,B⟩)] 75):=by
 go_enter Tryz.func81,Tryz.ntmps81
 go_wp2
 go_ret
 exact⟨rfl,rfl⟩
end
section
open Go.Sort
attribute [local go_sem] Loose.gent
theorem yem {b:Nat} {s0:Pg.Trs} {F:Nat->Prop} (w:H) (h:xB w b s0.X s0.L s0.L0 s0.ti F) (hE:s0.E=[]) (nD:0<=s0.ti/\s0.ti<=100000) (uk:s0.X.C.length<=4):
 yQ ki 40 #[U (R ⟨b,0,B⟩)] w fun e w'=>∃t ad cap,Pg.Rest s0 t/\e=kO (yY #[O ad t.E.length cap,yE #[N T 0,N T 0]])/\qm w' ad t.E/\But F w w'/\
  ∃F',xB w' b t.X t.L t.L0 t.ti F'/\(∀k,F' k->F k\/w.heap.size<=k)/\∀g,ad=R ⟨g,0,B⟩->w.heap.size<=g/\¬F' g:=by
 have fA:=h.inv;have Hf:Z (∀k,F k->k<w.heap.size):=fun k hk=>h.lt hk;have Fp:=fun(w2:H) (Bs:Nat) (h2:xB w2 b s0.X s0.L s0.L0 s0.ti F) (hB:w2.cell? ⟨Bs,0,B⟩=R (U (R ⟨b,0,B⟩))) (nB:¬F Bs)=>vk (gf:=130) (lb:=#[U (R ⟨Bs,0,B⟩)]) w2 h2 hE (enters_of Tryz.func130 (by kernel_rfl) rfl) (yel hE nD fA uk hB nB);have H0:Z (xB w b s0.X s0.L s0.L0 s0.ti F):=h;clear h hE nD fA uk
 go_enter Tryz.func40,Tryz.ntmps40
 go_wp2_with fail
 refine(ycr b _).mono ?_;rintro e w1 ⟨rfl,rfl⟩;obtain⟨W1,rC⟩:=eY (w.alloc (y #[N T 0,N T 0] 27));rw[<-rC];obtain⟨W2,Hy⟩:=eY (W1.alloc (y #[U (R ⟨b,0,B⟩)] 75));rw[<-Hy]
 have rG:W1.heap.size=w.heap.size+1:=by rw[rC];simp
 have Ha:Lw w W1:=by rw[rC];exact zA (zR _) _
 have Hd:Lw W1 W2:=by rw[Hy];exact zA (zR _) _
 have R1:W1.heap[w.heap.size]?=R (y #[N T 0,N T 0] 27 (0,0)):=by rw[rC];exact un _ _
 have R2:Z (W2.heap[w.heap.size]?=R (y #[N T 0,N T 0] 27 (0,0))):=(Hd.block _ (by omega)).trans R1
 have c2:W2.cell? ⟨W1.heap.size,0,B⟩=R (U (R ⟨b,0,B⟩)):=by rw[Hy];simp[go_sem]
 have Ht:Z (Lw w W2):=zT Ha Hd
 have wN:Z (w.heap.size+2<=W2.heap.size):=by rw[Z,Hy];simp;omega
 have Fp:=Fp W2 W1.heap.size (xB.grow H0.out Ht.out) c2 (fun e=>by have:=Hf.out _ e;omega);rw[rG]at Fp;clear c2 Ha Hd R1 rC Hy
 go_wp2_with fail
 refine Fp.mono ?_;rintro e w3 ⟨t,ad,cap,hr,_,rfl,Tv,He,F3,h3,gT,lS⟩
 have n0:¬F w.heap.size:=fun e=>by have:=Hf.out _ e;omega
 have R3:Z (w3.heap[w.heap.size]?=R (y #[N T 0,N T 0] 27 (0,0))):=(He.block _ (by have:=wN.out;omega) n0).trans R2.out
 have DN:Z (qm w3 ad t.E/\But F w w3/\xB w3 b t.X t.L t.L0 t.ti F3/\(∀k,F3 k->F k\/w.heap.size+2<=k)/\∀g,ad=R ⟨g,0,B⟩->w.heap.size+2<=g/\¬F3 g):=
  ⟨Tv,(But.yhJ Ht.out).trans He fun i hi e=>e,h3,fun k hk=>(gT k hk).imp id fun e=>yX wN.out e,fun g hg=>⟨yX wN.out (lS g hg).1,(lS g hg).2⟩⟩
 have HR:Z (Pg.Rest s0 t):=hr;obtain⟨⟨r0,r1⟩,rf⟩:=yd6 R3.out;have dn:w.heap.size<w3.heap.size:=kp _ _ r0;clear hr Tv He h3 gT lS Fp n0
 go_wp2
 refine yM (v:=yY #[O ad t.E.length cap,yE #[N T 0,N T 0]]) ?_ rfl ?_
 ·simp[results,Tryz.results40,go_sem,r0,r1,dn]
 ·obtain⟨d1,d2,d3,d4,d5⟩:=DN.out
  have hb:But (fun k=>k=w.heap.size) w3 ((w3.setCell ⟨w.heap.size,0,B⟩ (N T 0)).setCell ⟨w.heap.size,1,B⟩ (N T 0)):=(xE w3 _ _ _).trans (xE _ _ _ _) fun _ _ e=>e;exact⟨t,ad,cap,HR.out,rfl,d1.but hb fun g hg e=>by have:=(d5 g hg).1;omega,d2.trans hb fun i hi e=>by omega,F3,d3.keep hb fun k hk e=>(d4 k hk).elim (fun h=>by have:=Hf.out k h;omega) fun h=>by omega,fun k hk=>(d4 k hk).imp id fun e=>by omega,fun g hg=>⟨by have:=(d5 g hg).1;omega,(d5 g hg).2⟩⟩
end
end Go.Proofs.YtdphiompijbelaaGreat
