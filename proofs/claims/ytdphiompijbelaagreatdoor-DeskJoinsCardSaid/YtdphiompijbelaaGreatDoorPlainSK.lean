import Derived.RangeFuncNested
import Derived.RangeFuncBound
import Derived.RangeFuncLeaves
import Derived.Test.YtdphiompijbelaaGreatDoorWtN
import Derived.OwnWalkIn
import Derived.TacticsInMore
import Derived.LoopNIn
import Derived.LoopIn
import Derived.Shelf.Abstract
import Derived.Sort.CutIn
set_option linter.all false
set_option maxRecDepth 100000
open List renaming length_append->kT,getElem?_eq_getElem->kV,length_cons->kU
open Nat renaming le_trans->kN,zero_le->kK
open Go.Proofs.Tryz renaming prog->kR
open Go.Ending renaming returned->kP
open Bool renaming false->kI,true->kY
open Go.World renaming putObj_heap_other->H,cell?_of_block->kC,cell?->kF,putObj_heap_same->kQ,alloc_heap_new->kZ
open Go renaming World->M,heap_alloc_new->y,Value->kS,Calls->kM
open Go.RowKit renaming Hid->O
open Go.Obj renaming cells->U
open Array renaming getElem?_eq_some_iff->Z
open Go.IntKind renaming i64->V
open Go.Value renaming int->N,pointer->d,slice->kJ,bool->kB,tuple->kO,agg->kX
open Option renaming none->B,some->R
set_option maxHeartbeats 4000000
namespace Go.Proofs.YtdphiompijbelaaGreatDoor
open Go.RowKit
section
open Go.Sort
theorem But.putObj {F:Nat->Prop} {w w1:M} (h:But F w w1) {l:Nat} (hl:w.heap.size<=l\/F l) (o:Obj):But F w (w1.putObj l o):=
 ⟨h.os,h.tape,h.output,kN h.size (by simp),fun i hi hF=>(H (fun e=>by subst e;exact hl.elim (fun h=>by omega) hF)).trans (h.block i hi hF)⟩
def yfi (w:M):Nat->Prop:=fun k=>k=w.heap.size\/k=w.heap.size+1
theorem ydy {F:Fence} {n:Nat} {P:Program} {σ:Type} {g:Operand} {ps:Array Tmp} {assign body:Code} {Q:Exit->Act->M->Prop} {a:Act} {w:M}
 (hro:F.round=B) (h1:1<=n) {gf:Nat} {lb:Array kS} (hg:a.eval g= .func (.func gf) #[] lb) (hFg:F.fn gf) (eg:∀args w,(callFunc gf args).run P w= .ok (.enter gf args) w)
 (I:σ->M->Prop) (Y:σ->Array kS->σ->Prop) (Fin:σ->Prop) (hps:∀s x s',Y s x s'->x.size=ps.size)
 (hI:∀s W W',I s W->But (yfi w) W W'->I s W') (s0:σ) (h0:I s0 w)
 (hseq:∀(J:σ->M->Prop) (W1:M),(∀s W,J s W->I s W)->(∀s W W',J s W->Below W.heap.size W W'->J s W')->
   (∀s x s' W,J s W->Y s x s'->YieldAt F (n-1-1) P (w.heap.size+1) x W fun e W'=>e=kP (kB kY)/\J s' W')->J s0 W1->
   CallsIn F (n-1) P gf (#[.func (.yield (w.heap.size+1)) #[] #[]]++lb) W1 fun e W'=>(∃v,e=kP v)/\∃s,Fin s/\J s W')
 (Ax:Array kS->Act->M->Prop) (hAx:∀x a' W W',Ax x a' W->But (yfi w) W W'->Ax x a' W')
 (hassign:∀(l:Nat) s x s' (W:M) (K:Act->M->Prop),I s W->Y s x s'->w.heap.size+1<W.heap.size->(∀a' W',Below W.heap.size W W'->Ax x a' W'->K a' W')->
   assign.wpIn (F.inRound l) (n-1-1) P (Exit.then K (fun _ _ _=>False)) {tmps:=(ps.zip x).foldl (fun t (p,v)=>t.setIfInBounds p v) a.tmps,defers:=[]} W)
 (hbody:∀(l:Nat) s x s' (a':Act) (W:M),I s W->Y s x s'->Ax x a' W->w.heap.size+1<W.heap.size->
   body.wpIn (F.inRound l) (n-1-1) P (fun e _ W'=>e= .normal/\W'.heap[w.heap.size]?=W.heap[w.heap.size]?/\W'.heap[w.heap.size+1]?=W.heap[w.heap.size+1]?/\I s' W') a' W)
 (hdone:∀s (W:M),Fin s->I s W->W.heap[w.heap.size]?=R (.deferred (R []))->Q .normal {a with defers:={target:= .collected w.heap.size,args:=#[]}::a.defers} W):
 (Code.rangeFunc g ps assign body).wpIn F n P Q a w:=by
 refine wpIn_rangeFunc ?_;intro fn hfn;rw[hro];obtain⟨rec,hrec⟩:∃rec:LoopState->Option Code->Loop,rec=fun st pe=>{state:=st,pending:=pe,fn,tmps:=a.tmps,params:=ps,assign,body,defers:=w.heap.size}:=⟨_,rfl⟩;obtain⟨W1,hW1⟩:∃W1,(w.alloc (.deferred (R []))).alloc (.loop (rec .ready B))=W1:=⟨_,rfl⟩
 have hL1:W1.heap[w.heap.size+1]?=R (.loop (rec .ready B)):=by
  rw[<-hW1];have:=kZ (w.alloc (.deferred (R []))) (.loop (rec .ready B));rwa [World.size_alloc]at this
 have hK1:W1.heap[w.heap.size]?=R (.deferred (R [])):=by
  rw[<-hW1];exact(Below.heap_alloc _ _ _ (by simp)).trans (kZ w _)
 have hI1:I s0 W1:=hI _ _ _ h0 (by rw[<-hW1];exact((But.refl _ w).alloc _).alloc _);have hB:∀{W W':M},Below W.heap.size W W'->w.heap.size+1<W.heap.size->W'.heap[w.heap.size+1]?=W.heap[w.heap.size+1]?/\W'.heap[w.heap.size]?=W.heap[w.heap.size]?:=fun h hl=>⟨h.block _ hl,h.block _ (by omega)⟩
 refine⟨w.heap.size+1,[{target:= .collected w.heap.size,args:=#[]}],W1,{target:= .fn (.func gf) lb,args:=#[.func (.yield (w.heap.size+1)) #[] #[]]},W1,gf,
  #[.func (.yield (w.heap.size+1)) #[] #[]]++lb,W1,?_,?_,?_,?_,fun _=>h1,?_⟩
 ·rw[<-hW1,hrec];exact run_enterLoop_outer _ _ _ _ _
 ·simp only[resolve,hg]
  simp[go_sem]
 ·intro f' hf';simp[Target.leads]at hf';subst hf';exact hFg
 ·simp[invoke,go_sem,eg]
 ·refine(hseq (fun s W=>I s W/\W.heap[w.heap.size+1]?=R (.loop (rec .ready B))/\W.heap[w.heap.size]?=R (.deferred (R []))) W1 (fun _ _ h=>h.1)
   (fun s W W' hs hb=>by
     have hl:=(Z.1 hs.2.1).1
     exact⟨hI _ _ _ hs.1 (But.yhl hb),(hB hb hl).1.trans hs.2.1,(hB hb hl).2.trans hs.2.2⟩) ?_ ⟨hI1,hL1,hK1⟩).mono ?_
  ·rintro s x s' W ⟨hi,hl,hk⟩ hy'
   have hy:=run_yield (P:=P) (args:=x) hl (by rw[hrec];exact hps _ _ _ hy');rw[hrec]at hy;refine⟨fn,_,assign,body,hy,roundIn_of_wpIn hfn (hassign _ s x s' W _ hi hy' (Z.1 hl).1 ?_)⟩;clear hy;intro a' Wa hba hax;have hlt:=(Z.1 hl).1
   replace hi:=hI _ _ _ hi (But.yhl hba)
   obtain⟨e1,e2⟩:=hB hba hlt
   replace hl:=e1.trans hl
   replace hk:=e2.trans hk
   replace hlt:w.heap.size+1<Wa.heap.size:=(Z.1 hl).1
   refine⟨_,run_beginRound hl (by rw[hrec]),?_⟩;have hbut:But (yfi w) Wa (Wa.putObj (w.heap.size+1) (.loop {rec .ready B with state:= .busy})):=(But.refl _ Wa).putObj (.inr (.inr rfl)) _;have hl2:(Wa.putObj (w.heap.size+1) (.loop {rec .ready B with state:= .busy})).heap[w.heap.size+1]?=R (.loop {rec .ready B with state:= .busy}):=kQ hlt;have hk2:(Wa.putObj (w.heap.size+1) (.loop {rec .ready B with state:= .busy})).heap[w.heap.size]?=R (.deferred (R [])):=(H (by omega)).trans hk;refine wpIn_mono (hbody _ s x s' a' _ (hI _ _ _ hi hbut) hy' (hAx _ _ _ _ hax hbut) (by simpa using hlt)) ?_;rintro e a3 W3 ⟨rfl,k3,l3,i3⟩
   replace l3:=l3.trans hl2
   have hend:=run_endRound (P:=P) B l3;refine⟨_,_,hend,rfl,hI _ _ _ i3 ((But.refl _ W3).putObj (.inr (.inr rfl)) _),?_,(H (by omega)).trans (k3.trans hk2)⟩;rw[kQ (Z.1 l3).1,hrec];rfl
  ·rintro e W2 ⟨⟨v,rfl⟩,s,hf,hi,hl,hk⟩
   exact⟨B,_,by have:=run_endLoop (P:=P) hl (by rw[hrec];simp);rw[hrec]at this;exact this,hdone _ _ hf (hI _ _ _ hi ((But.refl _ W2).putObj (.inr (.inr rfl)) _)) ((H (by omega)).trans hk)⟩
set_option linter.unusedSimpArgs false
set_option maxRecDepth 100000
namespace Pg
def Ev.zz:Ev:=⟨0,kI,0,0,0,kI⟩
structure Trs where
 X:Spc
 L:List Mp
 L0:List Mp
 ti:Int
 E:List Ev
namespace Trs
def next (s:Trs) (x:Sx):Trs:=⟨s.X.goN x,s.X.nxL s.L x,s.X.nxP s.L s.L0 x,s.ti+s.X.chg x,s.E++[s.X.goE x]⟩
theorem chg_le (X:Spc) (x:Sx):0<=X.chg x/\X.chg x<=1:=by
 unfold Spc.chg
 split<;>omega
end Trs
end Pg
def qi (e:Pg.Ev):List kS:=[N V e.c,kB e.ended,N V e.a,N V e.f,N V e.r,kB e.back]
def zJ (L:List Pg.Ev):List kS:=L.flatMap qi
theorem ybm (A:List Pg.Ev) (m:Pg.Ev):zJ (A++[m])=zJ A++qi m:=by simp[zJ]
theorem yar:∀(L:List Pg.Ev) (j i:Nat),j<L.length->i<6->(zJ L)[j*6+i]?=(qi (L.getD j .zz))[i]?
 | [],j,_,h,_=>by simp at h
 | x::r,0,i,_,hi=>by
   rw[show zJ (x::r)=qi x++zJ r by simp[zJ],List.getElem?_append_left (by simp[qi];omega)];simp
 | x::r,j+1,i,h,hi=>by
   have:=yar r j i (by simpa using h) hi;rw[show zJ (x::r)=qi x++zJ r by simp[zJ],List.getElem?_append_right (by simp[qi];omega)];rw[show(j+1)*6+i-(qi x).length=j*6+i by simp[qi];omega,this];simp
def yfR (w:M) (g o:Nat) (e:Pg.Ev):Prop:=
 w.cell? ⟨g,o,B⟩=R (N V e.c)/\w.cell? ⟨g,o+1,B⟩=R (kB e.ended)/\w.cell? ⟨g,o+2,B⟩=R (N V e.a)/\w.cell? ⟨g,o+3,B⟩=R (N V e.f)/\w.cell? ⟨g,o+4,B⟩=R (N V e.r)/\w.cell? ⟨g,o+5,B⟩=R (kB e.back)
theorem yfR.of {w w':M} {g o:Nat} {l:Pg.Ev} (h:yfR w g o l) (hc:∀p,w'.cell? ⟨g,p,B⟩=w.cell? ⟨g,p,B⟩):yfR w' g o l:=
 ⟨(hc _).trans h.1,(hc _).trans h.2.1,(hc _).trans h.2.2.1,(hc _).trans h.2.2.2.1,(hc _).trans h.2.2.2.2.1,(hc _).trans h.2.2.2.2.2⟩
def jd (w:M) (ad:Option Addr) (E:List Pg.Ev):Prop:=∀j,j<E.length->∃g,ad=R ⟨g,0,B⟩/\g<w.heap.size/\yfR w g (j*6) (E.getD j .zz)
theorem jd.but {G:Nat->Prop} {w w':M} {ad:Option Addr} {E:List Pg.Ev} (h:jd w ad E) (hb:But G w w') (hG:∀g,ad=R ⟨g,0,B⟩->¬G g):jd w' ad E:=by
 intro j hj;obtain⟨g,e,hg,hm⟩:=h j hj;exact⟨g,e,Nat.lt_of_lt_of_le hg hb.size,hm.of fun p=>hb.cell (a:=⟨g,p,B⟩) hg (hG g e)⟩
theorem jd.below {w w':M} {ad:Option Addr} {E:List Pg.Ev} (h:jd w ad E) (hb:Below w.heap.size w w'):jd w' ad E:=h.but (G:=fun _=>False) (But.yhl hb) fun _ _=>id
theorem ye1 {w:M} {base:Nat} {e:TypeId} {ad:Option Addr} {n cap:Nat} {L:List Pg.Ev} (h:w.ownsRow base e 6 (kJ ad n cap) L.length (zJ L)):jd w ad L:=by
 intro j hj;obtain⟨g,cap',e,_,hg⟩:=h.form (by omega);cases e;have hc:=fun i (hi:i<6)=>(h.cellAt (j*6+i) (by omega)).trans (yar L j i hj hi);have h0:=hc 0 (by omega);have h1:=hc 1 (by omega);have h2:=hc 2 (by omega);have h3:=hc 3 (by omega);have h4:=hc 4 (by omega);have h5:=hc 5 (by omega);simp only[qi,Nat.add_zero]at h0 h1 h2 h3 h4 h5;exact⟨g,rfl,hg,by simpa using h0,by simpa using h1,by simpa using h2,by simpa using h3,by simpa using h4,by simpa using h5⟩
attribute [local go_sem] Oper.semAt_some
theorem qX {F:Fence} {n':Nat} {P:Program} (w:M) {ops:Array Oper} {rest:List Oper} {o:Oper} {a:Act} {Q:Exit->Act->M->Prop} (hgd:o.guard=B) (s x:Operand) (t:TypeId)
 (ho:o.op= .call {callee:= .builtin .append,args:=#[s,x],argTypes:=#[t,t]})
 (base:Nat) (e:TypeId) (i:TypeInfo) (z:kS) (size bytes:Nat) (ht:P.underlying t=R (.slice e)) (hi:P.info? e=R i) (hz:i.zero=R z)
 (hsize:i.size=size) (hby:i.bytes=bytes) (hzs:z.cells.size=size) (hsz:0<size)
 (v:kS) (n:Nat) (xs:List kS) (hs:a.eval s=v) (hown:w.ownsRow base e size v n xs)
 (ad:Addr) (m c:Nat) (news:List kS) (hx:a.eval x=kJ (R ad) m c) (hl:news.length=m*size) (hnews:∀j u,news[j]?=R u->w.cell? (ad.add j)=R u) (h1:∀u ∈ news,u.oneCell'=kY)
 (hm:0<m) (h63:n+m<=maxLen) (hbytes:(n+m)*bytes<=140737488355328) (hbase:base<=w.heap.size)
 (h:∀g cap w',w'.ownsRow base e size (kJ (R ⟨g,0,B⟩) (n+m) cap) (n+m) (xs++news)->w.grownBy w' v.ownBlock->(v.ownBlock=R g\/g=w.heap.size)->g<w'.heap.size->wpListIn F n' P ops Q rest (a.put o.dst (kJ (R ⟨g,0,B⟩) (n+m) cap)) w'):wpListIn F n' P ops Q (o::rest) a w:=by
 refine wpListIn_plain hgd fun K hK'=> ?_;obtain⟨g,cap,w',hr,h2,h3,h4,h5⟩:=run_append_lies (P:=P) w t o.type base e i z size bytes ht hi hz hsize hby hzs hsz v n xs hown ad m c news hl hnews h1 hm h63 hbytes hbase _ rfl;unfold Oper.wpIn;refine⟨?_,?_⟩
 ·simp[Oper.about,ho,resolve,Target.leads,Sem.run_pure]
 ·rw[Oper.semAt_plain F _ _ (by rw[ho];intro c hc';cases hc')]
  simp[execOp,ho,resolve,invoke,builtin,hs,hx,hr,Result.andThen];exact hK' _ _ (h g cap w' h2 h3 h4 h5)
def Bd (s:Pg.Trs):Prop:=0<=s.ti/\s.ti<=100000/\s.E.length<=100000
def Seq (b:Nat) (F0:Nat->Prop) (w:M) (s0:Pg.Trs) (gf:Nat) (lb:Array kS) (Fin:Pg.Trs->Prop):Prop:=
 ∀(l:Nat) (J:Pg.Trs->M->Prop) (W1:M),(∀s W,J s W->But F0 w W/\∃F,qw W b s.X s.L s.L0 s.ti F)->(∀s W W',J s W->Below W.heap.size W W'->J s W')->
  (∀s x W,J s W->xi x->Bd s->YieldAt Fence.wide 1 kR l #[x.val] W fun e W'=>e=kP (kB kY)/\J (s.next x) W')->J s0 W1->
  CallsIn Fence.wide 2 kR gf (#[.func (.yield l) #[] #[]]++lb) W1 fun e W'=>(∃v,e=kP v)/\∃s,Fin s/\J s W'
structure EvI (w:M) (b:Nat) (F0:Nat->Prop) (s:Pg.Trs) (W:M):Prop where
 b0:W.heap[w.heap.size]?=R (U #[d (R ⟨b,0,B⟩)] 41 (0,0))
 b1:Boxed W (w.heap.size+1) 102 (kJ B 0 0)
 b2:W.heap[w.heap.size+2]?=R (U #[N V 0,N V 0] 33 (0,0))
 ex:∃F v,qw W b s.X s.L s.L0 s.ti F/\(∀k,F k->F0 k\/w.heap.size+6<=k)/\Boxed W (w.heap.size+3) 102 v/\W.ownsRow (w.heap.size+6) 73 6 v s.E.length (zJ s.E)/\∀k,v.ownBlock=R k->¬F k
 but:But F0 w W
 lt:∀k,F0 k->k<w.heap.size
theorem EvI.keep {w W W':M} {b:Nat} {F0:Nat->Prop} {s:Pg.Trs} (h:EvI w b F0 s W) (hb:But (fun k=>k=w.heap.size+4\/k=w.heap.size+5) W W'):EvI w b F0 s W':=by
 obtain⟨F,v,hw,hF,hv,hr,hn⟩:=h.ex;have blk:∀(k:Nat) o,k<w.heap.size+4->W.heap[k]?=R o->W'.heap[k]?=R o:=fun k o hk ho=>(hb.block k (Z.1 ho).1 (by omega)).trans ho;refine⟨blk _ _ (by omega) h.b0,blk _ _ (by omega) h.b1,blk _ _ (by omega) h.b2,⟨F,v,hw.keep hb fun k hk e=> ?_,hF,blk _ _ (by omega) hv,zb hr hb fun k hk e=> ?_,hn⟩,h.but.trans hb fun i hi e=>by omega,h.lt⟩
 ·rcases hF k hk with hk|hk
  ·have:=h.lt k hk
   omega
  ·omega
 ·have:=(hr.lt k hk).1
  omega
theorem EvI.more {w W w1 W2 w3:M} {b g cap:Nat} {F0 F F1:Nat->Prop} {s s1:Pg.Trs} {v:kS} {e:Pg.Ev} {tmp:Obj} (h:EvI w b F0 s W) (hWs:w.heap.size+6<=W.heap.size) (hF:∀k,F k->F0 k\/w.heap.size+6<=k) (hb1:But F W w1) (hb2:Below w1.heap.size w1 W2)
 (h1:qw W2 b s1.X s1.L s1.L0 s1.ti F1) (hF1:∀k,F1 k->F k\/W.heap.size<=k) (hn1:∀k,v.ownBlock=R k->¬F1 k) (hr:W2.ownsRow (w.heap.size+6) 73 6 v s.E.length (zJ s.E)) (hE:s1.E=s.E++[e])
 (hown:w3.ownsRow (w.heap.size+6) 73 6 (kJ (R ⟨g,0,B⟩) (s.E.length+1) cap) (s.E.length+1) (zJ s.E++qi e)) (hgrow:(W2.alloc tmp).grownBy w3 v.ownBlock) (hat:v.ownBlock=R g\/g=(W2.alloc tmp).heap.size) (hv3:Boxed w3 (w.heap.size+3) 102 v):
 (w3.setCell ⟨w.heap.size+3,0,B⟩ (kJ (R ⟨g,0,B⟩) (s.E.length+1) cap)).heap[w.heap.size+4]?=W.heap[w.heap.size+4]?/\(w3.setCell ⟨w.heap.size+3,0,B⟩ (kJ (R ⟨g,0,B⟩) (s.E.length+1) cap)).heap[w.heap.size+5]?=W.heap[w.heap.size+5]?/\
 EvI w b F0 s1 (w3.setCell ⟨w.heap.size+3,0,B⟩ (kJ (R ⟨g,0,B⟩) (s.E.length+1) cap)):=by
 have hv2:∀k,v.ownBlock=R k->w.heap.size+6<=k:=fun k hk=>(hr.lt k hk).1;have hB3:But (fun k=>v.ownBlock=R k) W2 w3:=((But.refl _ W2).alloc tmp).grown hgrow fun j hj=> .inr hj;have hBf:But (fun k=>k=w.heap.size+3\/v.ownBlock=R k) W2 (w3.setCell ⟨w.heap.size+3,0,B⟩ (kJ (R ⟨g,0,B⟩) (s.E.length+1) cap)):=(hB3.mono fun i _ e=> .inr e).setCell (.inr (.inl rfl)) _;have s1:=hb1.size;have s2:=hb2.size;have nF:∀k,F k->k<w.heap.size\/w.heap.size+6<=k:=fun k hk=>(hF k hk).imp (h.lt k) id
 have blk:∀k,w.heap.size<=k->k<w.heap.size+6->k≠w.heap.size+3->(w3.setCell ⟨w.heap.size+3,0,B⟩ (kJ (R ⟨g,0,B⟩) (s.E.length+1) cap)).heap[k]?=W.heap[k]?:=fun k k1 k2 k3=>by
  rw[hBf.block k (by omega) (fun e=>e.elim k3 fun e=>by have:=hv2 k e;omega),hb2.block k (by omega),hb1.block k (by omega) fun e=>by have:=nF k e;omega]
 refine⟨blk _ (by omega) (by omega) (by omega),blk _ (by omega) (by omega) (by omega),(blk _ (by omega) (by omega) (by omega)).trans h.b0,(blk _ (by omega) (by omega) (by omega)).trans h.b1,(blk _ (by omega) (by omega) (by omega)).trans h.b2,
  ⟨F1,_,h1.keep hBf fun k hk e=> ?_,fun k hk=> ?_,hv3.set _,?_,fun k hk hf=> ?_⟩,?_,h.lt⟩
 ·rcases e with e|e
  ·rcases hF1 k hk with hk|hk
   ·have:=nF k hk;omega
   ·omega
  ·exact hn1 k e hk
 ·rcases hF1 k hk with hk|hk
  ·exact hF k hk
  ·exact .inr (by omega)
 ·rw[hE,ybm,kT]
  exact hown.kept (grownBy_setCell' w3 _ _) (.inr (hv3.not_row (by decide) hown).symm)
 ·obtain rfl:g=k:=by simpa[Value.ownBlock]using hk
  rcases hat with e|e
  ·exact hn1 g e hf
  ·have:=h1.lt hf
   simp at e;omega
 ·refine(((h.but.trans hb1 fun i hi e=>(hF i e).elim id fun e=>by omega).trans (But.yhl (F:=fun _=>False) hb2) fun _ _ e=>e.elim).trans hBf fun i hi e=> ?_)
  rcases e with e|e
  ·omega
  ·have:=hv2 i e;omega
theorem yfw:(Tryz.prog.info? 73).map (fun i=>(i.zero,i.size,i.bytes))=R (R (kX #[N V 0,kB kI,N V 0,N V 0,N V 0,kB kI]),6,48):=by kernel_rfl
end
section
open Go.Sort
namespace Pg
def tAns (a f r:Int):List UInt8:=if a=1 then tell [117,110,109,97,112,112,101,100] []else if a=2 then tell [102,111,114,98,105,100,100,101,110] []else tell [102,114,97,109,101] [f,r]
def tEv (e:Ev):List UInt8:=if e.c≠0 then tell [110,111] [e.c]else if e.ended=kY then tAns e.a e.f e.r else if e.back=kY then tell [98,97,99,107] []else tell [111,107] []
def Ev.Fits (e:Ev):Prop:=fits e.c/\fits e.f/\fits e.r
end Pg
section
variable {W:Bs} {w w' w1:M} {b:Nat} {p0:kS} {bs cs:List UInt8} {F:Nat->Prop}
theorem zd.after (hb:Below w.heap.size w w1) (h:zd w1 b p0 F cs w'):zd w b p0 F cs w':=by
 obtain⟨F',t,hb',hF⟩:=h;exact⟨F',t,(But.yhl hb).trans hb' fun i hi e=>e,fun k hk=>(hF k hk).imp id fun e=>kN hb.size e⟩
theorem qj (w:M):zl w B []:=fun j hj=>by simp at hj
theorem xV {w:M} {g:Nat} {ns:List Int} (h:w.heap[g]?=R (U (zv ns).toArray 3 (0,0))):zl w (R ⟨g,0,B⟩) ns:=fun j hj=>by
 refine⟨g,rfl,(Z.1 h).1,?_⟩;simp[kF,h,zv,List.getD,hj]
theorem yad (a f r:Int) (hf:Pg.fits f) (hr:Pg.fits r) (hG:xZ W) (h:Tl0 W w b p0 bs F) (hl:bs.length<=90000000000000):
 kM kR 150 #[d (R ⟨b,1,B⟩),kX #[N V a,N V f,N V r]] w fun e w'=>e=kP (kO #[])/\zd w b p0 F (bs++Pg.tAns a f r) w':=by
 have HT:=fun word w1 (hb:Below w.heap.size w w1) (hw:word.size<=20)=>zZ word B 0 [] hG (h.grow hb) (qj w1) (fun _ e=>by cases e) (fun _ e=>by cases e) (by simp;omega)
 by_cases h1:a=1
 ·subst h1
  have HE:O (Pg.tAns 1 f r=Pg.tell [117,110,109,97,112,112,101,100] []):=by simp[O,Pg.tAns]
  have HT:=HT ⟨#[117,110,109,97,112,112,101,100]⟩ _ (zA (zR w) (U #[N V 1,N V f,N V r] 71)) (by decide)
  go_enter Tryz.func150,Tryz.ntmps150
  go_wp2_with fail
  refine HT.mono ?_;rintro e w2 ⟨rfl,hd⟩;have D:O _:=hd;clear hd HT
  go_wp2_with fail
  go_end0
  exact⟨rfl,by rw[HE.out];exact zd.after (zA (zR w) _) D.out⟩
 ·by_cases h2:a=2
  ·subst h2
   have HE:O (Pg.tAns 2 f r=Pg.tell [102,111,114,98,105,100,100,101,110] []):=by simp[O,Pg.tAns]
   have HT:=HT ⟨#[102,111,114,98,105,100,100,101,110]⟩ _ (zA (zR w) (U #[N V 2,N V f,N V r] 71)) (by decide)
   go_enter Tryz.func150,Tryz.ntmps150
   go_wp2_with fail
   refine HT.mono ?_;rintro e w2 ⟨rfl,hd⟩;have D:O _:=hd;clear hd HT
   go_wp2_with fail
   go_end0
   exact⟨rfl,by rw[HE.out];exact zd.after (zA (zR w) _) D.out⟩
  ·have HE:O (Pg.tAns a f r=Pg.tell [102,114,97,109,101] [f,r]):=by simp[O,Pg.tAns,h1,h2]
   have q1:(a==1)=kI:=by simpa using h1
   have q2:(a==2)=kI:=by simpa using h2
   have hb2:Below w.heap.size w ((w.alloc (U #[N V a,N V f,N V r] 71)).alloc (U #[N V f,N V r] 3)):=zA (zA (zR w) _) _
   have HT2:=zZ ⟨#[102,114,97,109,101]⟩ (R ⟨w.heap.size+1,0,B⟩) 2 [f,r] hG (h.grow hb2) (xV (by
    have:=y (w.alloc (U #[N V a,N V f,N V r] 71)) (U #[N V f,N V r] 3)
    simpa[zv]using this)) (fun g e _ hF=>by
     have:=h.tl.lt hF;injection e with e;injection e with e
     omega) (by simp[hf,hr]) (by show _+5+_+1<=_;simp;omega)
   clear HT h1 h2
   go_enter Tryz.func150,Tryz.ntmps150
   go_wp2_with fail
   refine HT2.mono ?_;rintro e w2 ⟨rfl,hd⟩;have D:O _:=hd;have HB2:O _:=hb2;clear hd HT2 hb2
   go_wp2_with fail
   go_end0
   exact⟨rfl,by rw[HE.out];exact zd.after HB2.out D.out⟩
theorem yaZ (e:Pg.Ev) (hf:e.Fits) (hG:xZ W) (h:Tl0 W w b p0 bs F) (hl:bs.length<=90000000000000):
 kM kR 116 #[d (R ⟨b,1,B⟩),e.val] w fun r w'=>r=kP (kO #[])/\zd w b p0 F (bs++Pg.tEv e) w':=by
 obtain⟨ec,en,ea,ef,er,eb⟩:=e;obtain⟨f1,f2,f3⟩:=hf;simp only[Pg.Ev.val]at*;obtain⟨W1,hW1⟩:∃W1,W1=w.alloc (U #[N V ec,kB en,N V ea,N V ef,N V er,kB eb] 73):=⟨_,rfl⟩
 have hb1:Below w.heap.size w W1:=by rw[hW1];exact zA (zR w) _
 obtain⟨⟨e0,e1,e2,e3,e4,e5⟩,_⟩:=z9 (show W1.heap[w.heap.size]?=R (U #[N V ec,kB en,N V ea,N V ef,N V er,kB eb] 73 (0,0)) by rw[hW1];exact y _ _);have h1:=h.grow hb1;have HT:=fun word (hw:word.size<=20)=>zZ word B 0 [] hG h1 (qj W1) (fun _ e=>by cases e) (fun _ e=>by cases e) (by simp;omega);have HB1:O _:=hb1
 by_cases hc:ec=0
 ·subst hc
  cases en
  ·cases eb
   ·have HT:=HT ⟨#[111,107]⟩ (by decide)
    have HE:O (Pg.tEv ⟨0,kI,ea,ef,er,kI⟩=Pg.tell [111,107] []):=by simp[O,Pg.tEv]
    clear hb1 h1 h
    go_enter Tryz.func116,Tryz.ntmps116
    go_upto_region 2 with fail
    rw[<-hW1];clear hW1
    go_wp2_with fail
    refine HT.mono ?_;rintro e w2 ⟨rfl,hd⟩;have D:O _:=hd;clear hd HT
    go_wp2_with fail
    go_end0
    exact⟨rfl,by rw[HE.out];exact zd.after HB1.out D.out⟩
   ·have HT:=HT ⟨#[98,97,99,107]⟩ (by decide)
    have HE:O (Pg.tEv ⟨0,kI,ea,ef,er,kY⟩=Pg.tell [98,97,99,107] []):=by simp[O,Pg.tEv]
    clear hb1 h1 h
    go_enter Tryz.func116,Tryz.ntmps116
    go_upto_region 2 with fail
    rw[<-hW1];clear hW1
    go_wp2_with fail
    refine HT.mono ?_;rintro e w2 ⟨rfl,hd⟩;have D:O _:=hd;clear hd HT
    go_wp2_with fail
    go_end0
    exact⟨rfl,by rw[HE.out];exact zd.after HB1.out D.out⟩
  ·have HA:=yad ea ef er f2 f3 hG h1 hl
   have HE:O (Pg.tEv ⟨0,kY,ea,ef,er,eb⟩=Pg.tAns ea ef er):=by simp[O,Pg.tEv]
   clear hb1 h1 h HT
   go_enter Tryz.func116,Tryz.ntmps116
   go_upto_region 2 with fail
   rw[<-hW1];clear hW1
   go_wp2_with fail
   refine HA.mono ?_;rintro e w2 ⟨rfl,hd⟩;have D:O _:=hd;clear hd HA
   go_wp2_with fail
   go_end0
   exact⟨rfl,by rw[HE.out];exact zd.after HB1.out D.out⟩
 ·have HE:O (Pg.tEv ⟨ec,en,ea,ef,er,eb⟩=Pg.tell [110,111] [ec]):=by simp[O,Pg.tEv,hc]
  have q1:(ec !=0)=kY:=by simpa using hc
  have hb2:Below W1.heap.size W1 (W1.alloc (U #[N V ec] 3)):=zA (zR W1) _
  have HT2:=zZ ⟨#[110,111]⟩ (R ⟨W1.heap.size,0,B⟩) 1 [ec] hG (h1.grow hb2) (xV (by simpa[zv]using y W1 (U #[N V ec] 3))) (fun g e _ hF=>by
   have:=h1.tl.lt hF;injection e with e;injection e with e
   omega) (by simp[f1]) (by show _+2+_+1<=_;simp;omega)
  clear HT hc h1 h hb1
  go_enter Tryz.func116,Tryz.ntmps116
  go_upto_region 2 with fail
  rw[<-hW1];clear hW1
  go_wp2_with fail
  refine HT2.mono ?_;rintro e w2 ⟨rfl,hd⟩;have D:O _:=hd;have HB2:O _:=hb2;clear hd HT2 hb2
  go_wp2_with fail
  go_end0
  exact⟨rfl,by rw[HE.out];exact zd.after (zT HB1.out HB2.out) D.out⟩
end
namespace Pg
def tEvs:List Ev->List UInt8
 | []=>[]
 | e::r=>tEv e++tEvs r
theorem yjK:∀(a b:List Ev),tEvs (a++b)=tEvs a++tEvs b
 | [],b=>rfl
 | n::r,b=>by
   show tEv n++tEvs (r++b)=tEv n++tEvs r++tEvs b
   rw[yjK r b,List.append_assoc]
theorem ylJ (e:Ev) (h:e.Fits):(tEv e).length<=60:=by
 have l0:∀(w:List UInt8),(tell w []).length=w.length+1:=fun w=>by simp[tell,yh5]
 have l1:∀(w:List UInt8) n,fits n->(tell w [n]).length<=w.length+23:=fun w n hn=>by
  have:=yh3 [n] (by simpa using hn);simp[tell]at this ⊢;omega
 have l2:∀(w:List UInt8) n m,fits n->fits m->(tell w [n,m]).length<=w.length+45:=fun w n m hn hm=>by
  have:=yh3 [n,m] (by simp[hn,hm]);simp[tell]at this ⊢;omega
 obtain⟨h1,h2,h3⟩:=h;unfold tEv tAns;split
 ·exact kN (l1 _ _ h1) (by decide)
 ·split
  ·split
   ·rw[l0];decide
   ·split
    ·rw[l0];decide
    ·exact kN (l2 _ _ _ h2 h3) (by decide)
  ·split<;>(rw[l0];decide)
theorem yju:∀(L:List Ev),(∀e ∈ L,e.Fits)->(tEvs L).length<=60*L.length
 | [],_=>Nat.le_refl _
 | n::r,h=>by
   have h1:=ylJ n (h n (by simp));have h2:=yju r fun x hx=>h x (by simp[hx]);simp only[tEvs,kT,kU];omega
end Pg
section
variable {W:Bs} {w:M} {b:Nat} {p0:kS} {bs:List UInt8} {F:Nat->Prop}
theorem ja (ad:Option Addr) (cap:Nat) (L:List Pg.Ev) (hG:xZ W) (h:Tl0 W w b p0 bs F) (hn:jd w ad L) (hnF:∀g,ad=R ⟨g,0,B⟩->0<L.length->¬F g)
 (hf:∀e ∈ L,e.Fits) (hl:bs.length+60*L.length<=80000000000000):
 kM kR 74 #[d (R ⟨b,1,B⟩),kX #[N V 0,N V 0],kJ ad L.length cap] w fun e w'=>e=kP (kO #[])/\zd w b p0 F (bs++Pg.tEvs L) w':=by
 obtain⟨W1,hW1⟩:∃W1,W1=w.alloc (U #[N V 0,N V 0] 33):=⟨_,rfl⟩
 have hb1:Below w.heap.size w W1:=by rw[hW1];exact zA (zR w) _
 obtain⟨⟨z0,z1⟩,_⟩:=zP (show W1.heap[w.heap.size]?=R (U #[N V 0,N V 0] 33 (0,0)) by rw[hW1];exact y _ _)
 have T1:O (Tl0 W W1 b p0 (bs++Pg.tEvs (L.take 0)) F):=by rw[O,List.take_zero];simpa[Pg.tEvs]using h.grow hb1
 have HB1:O (But F w W1):=But.yhl hb1;have HF1:O (∀k,F k->F k\/w.heap.size<=k):=fun k hk=> .inl hk;have HG:O (xZ W):=hG;have HN:O (jd w ad L):=hn;clear h hG hb1 hn
 go_enter Tryz.func74,Tryz.ntmps74
 go_upto_region 1 with fail
 rw[<-hW1];clear hW1
 go_wp2_with fail
 go_loopw [20] (fun i wr=>∃(k:Nat) (F1:Nat->Prop),k<=L.length/\i=N V k/\O (Tl0 W wr b p0 (bs++Pg.tEvs (L.take k)) F1)/\O (But F w wr)/\O (∀x,F1 x->F x\/w.heap.size<=x)) (fun i _=>L.length-(intOf i).toNat)
 case atStart=>exact⟨0,F,kK _,rfl,T1,HB1,HF1⟩
 case round=>
  obtain⟨k,F2,hk,rfl,T,HB,HF⟩:=hrel;clear T1 HB1 HF1 z0 z1
  by_cases hlt:k<L.length
  ·have i0:(0:Int)<=(k:Int):=by omega
   have i1:(k:Int)<(L.length:Int):=by omega
   obtain⟨g,rfl,hg,hc⟩:=HN.out k hlt;have hgF:=hnF g rfl (by omega);have hx:(L.getD k .zz).Fits:=hf _ (by rw[List.getD,kV hlt];exact List.getElem_mem hlt)
   have HTK:O (Pg.tEvs (L.take (k+1))=Pg.tEvs (L.take k)++Pg.tEv (L.getD k .zz)):=by
    rw[O,List.take_add_one,kV hlt,Pg.yjK];simp[Pg.tEvs,List.getD,hlt]
   have hlb:(Pg.tEvs (L.take k)).length<=60*(L.take k).length:=Pg.yju _ fun n hn=>hf n (List.mem_of_mem_take hn);rw[List.length_take,Nat.min_eq_left hk]at hlb
   have hl2:(bs++Pg.tEvs (L.take k)).length<=90000000000000:=by
    simp only[kT];omega
   generalize L.getD k .zz=x at*;obtain⟨c0,c1,c2,c3,c4,c5⟩:=hc;have cc:∀p v,w.cell? ⟨g,p,B⟩=R v->wr.cell? ⟨g,p,B⟩=R v:=fun p v hv=>(HB.out.cell (a:=⟨g,p,B⟩) hg hgF).trans hv;have c0:=cc _ _ c0;have c1:=cc _ _ c1;have c2:=cc _ _ c2;have c3:=cc _ _ c3;have c4:=cc _ _ c4;have c5:=cc _ _ c5;obtain⟨W3,hW3⟩:∃W3,W3=wr.alloc (U #[N V x.c,kB x.ended,N V x.a,N V x.f,N V x.r,kB x.back] 73):=⟨_,rfl⟩
   have hb3:Below wr.heap.size wr W3:=by rw[hW3];exact zA (zR wr) _
   obtain⟨⟨e0,e1,e2,e3,e4,e5⟩,_⟩:=z9 (show W3.heap[wr.heap.size]?=R (U #[N V x.c,kB x.ended,N V x.a,N V x.f,N V x.r,kB x.back] 73 (0,0)) by rw[hW3];exact y _ _);have HV:=yaZ x hx HG.out (T.out.grow hb3) hl2;have HB3:O _:=hb3;simp only[Pg.Ev.val]at HV;clear cc hb3 hx hlb hl2
   go_upto_region 6 with fail
   rw[<-hW3];clear hW3 c0 c1 c2 c3 c4 c5
   go_wp2_with fail
   refine HV.mono ?_;rintro e w4 ⟨rfl,hd⟩;obtain⟨F5,t5,hb5,hF5⟩:=T.out.done (zd.after HB3.out hd)
   have T5:O (Tl0 W w4 b p0 (bs++Pg.tEvs (L.take (k+1))) F5):=by
    rw[O,HTK.out]
    simpa using t5
   have HB5:O (But F w w4):=HB.out.trans hb5 fun i hi e=>(HF.out i e).elim id fun e=>by omega
   have HF5:O (∀x,F5 x->F x\/w.heap.size<=x):=fun x hx=>(hF5 x hx).elim (HF.out x) fun e=> .inr (kN HB.out.size e);clear t5 hb5 hF5 hd HV T HTK HB HF HB3 e0 e1 e2 e3 e4 e5
   go_wp2_with fail
   exact⟨⟨k+1,F5,by omega,by go_num,T5,HB5,HF5⟩,by simp[intOf];omega⟩
  ·have i1:¬(k:Int)<(L.length:Int):=by omega
   have hk:k=L.length:=by omega
   have HE:O (L.take k=L):=by rw[O,hk,List.take_length]
   go_wp2_with fail
   go_end0
   refine⟨rfl,F2,?_,HB.out,HF.out⟩;rw[<-HE.out];exact T.out.tl
end
end
section
open Go.Sort
attribute [local go_sem] Oper.semAt_some
theorem ybJ {b:Nat} {s0:Pg.Trs} {F0:Nat->Prop} {gf:Nat} {lb:Array kS} {Fin:Pg.Trs->Prop} (w:M) (h:qw w b s0.X s0.L s0.L0 s0.ti F0) (hE:s0.E=[]) (hgf:∀args w,(callFunc gf args).run kR w= .ok (.enter gf args) w)
 (hs:Seq b F0 w s0 gf lb Fin):
 kM kR 114 #[d (R ⟨b,0,B⟩),.func (.func gf) #[] lb] w fun e w'=>∃s ad cap,Fin s/\s.E.length<=cap/\e=kP (kO #[kJ ad s.E.length cap,kX #[N V 0,N V 0]])/\jd w' ad s.E/\But F0 w w'/\
  ∃F',qw w' b s.X s.L s.L0 s.ti F'/\(∀k,F' k->F0 k\/w.heap.size<=k)/\∀g,ad=R ⟨g,0,B⟩->w.heap.size<=g/\¬F' g:=by
 refine(callsIn_wide (n:=3)).1 ?_;refine callsIn_of_wp_marks Tryz.func114 rfl trivial ?_ rfl;simp only[Tryz.ntmps114,List.size_toArray,kU,List.length_nil,Nat.reduceAdd,Nat.reduceSub,Array.replicate_succ,Array.replicate_zero,List.push_toArray,List.append_toArray,List.nil_append,List.cons_append]
 gi_wp2
 obtain⟨Wl,hWl⟩:∃Wl,Wl=(((w.alloc (U #[d (R ⟨b,0,B⟩)] 41)).alloc (U #[kJ B 0 0] 102)).alloc (U #[N V 0,N V 0] 33)).alloc (U #[kJ B 0 0] 102):=⟨_,rfl⟩;rw[<-hWl]
 have hsz:Wl.heap.size=w.heap.size+4:=by rw[hWl];simp
 have al:∀(k:Nat) o,(((w.alloc (U #[d (R ⟨b,0,B⟩)] 41)).alloc (U #[kJ B 0 0] 102)).alloc (U #[N V 0,N V 0] 33)).heap[k]?=R o->Wl.heap[k]?=R o:=fun k o hk=>by
  rw[hWl,Below.heap_alloc _ _ _ (Z.1 hk).1];exact hk
 obtain⟨a0,a1,a2⟩:=ycB w (U #[d (R ⟨b,0,B⟩)] 41) (U #[kJ B 0 0] 102) (U #[N V 0,N V 0] 33)
 have a3:Wl.heap[w.heap.size+3]?=R (U #[kJ B 0 0] 102 (0,0)):=by
  rw[hWl];exact(show(((w.alloc (U #[d (R ⟨b,0,B⟩)] 41)).alloc (U #[kJ B 0 0] 102)).alloc (U #[N V 0,N V 0] 33)).heap.size=w.heap.size+3 by simp)▸y _ _
 have hbl:Below w.heap.size w Wl:=by rw[hWl];exact zA (zA (zA (zA (zR _) _) _) _) _
 have I0:EvI w b F0 s0 Wl:=⟨al _ _ a0,al _ _ a1,al _ _ a2,⟨F0,_,h.grow hbl,fun k hk=> .inl hk,a3,by rw[hE];exact World.ownsRow_nil _ _ _ _,fun k hk=>by cases hk⟩,But.yhl hbl,fun k hk=>h.lt hk⟩
 have hI:∀s W W',EvI w b F0 s W->But (yfi Wl) W W'->EvI w b F0 s W':=fun s W W' hi hb=>hi.keep (hb.mono fun i _ e=>by
  rcases e with e|e
  ·exact .inl (by omega)
  ·exact .inr (by omega))
 clear al a0 a1 a2 a3 hbl h
 refine ydy rfl (by omega) (gf:=gf) (lb:=lb) rfl trivial hgf (EvI w b F0) (fun s x s'=>∃sx,xi sx/\Bd s/\x=#[Pg.Sx.val sx]/\s'=s.next sx) Fin ?ps hI s0 I0 ?seq
  (fun x a' W=>∃sx Bx,x=#[Pg.Sx.val sx]/\w.heap.size+6<=Bx/\W.heap[Bx]?=R (zu sx)/\a'={tmps:=#[d (R ⟨b,0,B⟩),.func (.func gf) #[] lb,d (R ⟨w.heap.size,0,B⟩),undef,d (R ⟨w.heap.size+1,0,B⟩),d (R ⟨w.heap.size+2,0,B⟩),d (R ⟨w.heap.size+3,0,B⟩),d (R ⟨Bx,0,B⟩),undef,undef,.func (.func gf) #[] lb,Pg.Sx.val sx,undef,undef,undef,undef,undef,undef,undef,undef,undef,undef,undef,undef,undef,undef,undef,undef],defers:=[]}) ?hAx ?assign ?body ?done
 case ps=>
  rintro s x s' ⟨sx,_,_,rfl,_⟩;rfl
 case seq=>
  intro J W1 hJ hJb hY h0;exact hs _ J W1 (fun s W hj=>⟨(hJ s W hj).but,by obtain⟨F,_,hw,_⟩:=(hJ s W hj).ex;exact⟨F,hw⟩⟩) hJb (fun s x W hj hx hb=>hY s _ _ W hj ⟨x,hx,hb,rfl,rfl⟩) h0
 case hAx=>
  rintro x a' W W' ⟨sx,Bx,h1,h2,h3,h4⟩ hb;refine⟨sx,Bx,h1,h2,(hb.block Bx (Z.1 h3).1 fun e=> ?_).trans h3,h4⟩
  rcases e with e|e<;>omega
 case assign=>
  rintro l s x s' W K hi ⟨sx,hx,hbd,rfl,rfl⟩ hlt hK;have hK:O (∀a' W',Below W.heap.size W W'->_->K a' W'):=hK;obtain⟨W2,hW2⟩:∃W2,W2=W.alloc (zu sx):=⟨_,rfl⟩
  have hb2:O (Below W.heap.size W W2):=by rw[O,hW2];exact zA (zR _) _
  have hx2:O (W2.heap[W.heap.size]?=R (zu sx)):=by rw[O,hW2];exact y _ _
  have hl:O (w.heap.size+6<=W.heap.size):=by rw[O];omega
  simp only[zu,Pg.Sx.val]at hW2;simp only[Pg.Sx.val];clear hlt hi hbd hx
  gi_wp2
  rw[<-hW2];exact hK.out _ _ hb2.out ⟨sx,_,rfl,hl.out,hx2.out,rfl⟩
 case body=>
  rintro l s x s' a' W hi ⟨sx,hx,hbd,rfl,rfl⟩ ⟨sy,Bx,hxy,hBx,hbox,rfl⟩ hlt
  obtain rfl:sx=sy:=by
   obtain⟨kd,cr,⟨mp,ms,mf,mr⟩,xq,xk,xu⟩:=sx;obtain⟨kd',cr',⟨mp',ms',mf',mr'⟩,xq',xk',xu'⟩:=sy;simp[Pg.Sx.val]at hxy;simp[hxy]
  clear hxy;obtain⟨F,v,hw,hF,hv,hr,hn⟩:=hi.ex;have HD:=ycP sx hx W hw ⟨hbd.1,by have:=hbd.2.1;omega⟩
  have y0:W.cell? ⟨w.heap.size,0,B⟩=R (d (R ⟨b,0,B⟩)):=by simp[kF,hi.b0]
  have yx:∀p v,(#[N V sx.kind,N V sx.core,N V sx.m.p,N V sx.m.s,N V sx.m.f,N V sx.m.r,N V sx.q,N V sx.k,kB sx.u]:Array kS)[p]?=R v->W.cell? ⟨Bx,p,B⟩=R v:=fun p v hp=>by
   unfold zu at hbox;simp[kF,hbox,hp]
  have x1:=yx 0 _ rfl;have x2:=yx 1 _ rfl;have x3:=yx 2 _ rfl;have x4:=yx 3 _ rfl;have x5:=yx 4 _ rfl;have x6:=yx 5 _ rfl;have x7:=yx 6 _ rfl;have x8:=yx 7 _ rfl;have x9:=yx 8 _ rfl;clear yx hbox;have HI:O (EvI w b F0 s W):=hi
  have hWs:w.heap.size+6<=W.heap.size:=by omega
  have HF:O (∀k,F k->F0 k\/w.heap.size+6<=k):=hF;have HV:O (Boxed W (w.heap.size+3) 102 v):=hv;have HR:O (W.ownsRow (w.heap.size+6) 73 6 v s.E.length (zJ s.E)):=hr;have HN:O (∀k,v.ownBlock=R k->¬F k):=hn;have BD:O (s.E.length<=100000):=hbd.2.2;generalize hs1:s.next sx=s1;have HS1:O (s.next sx=s1):=hs1;clear hi hF hv hr hn hx hbd hw hs1 hlt;obtain⟨i0,hii,hz0,hz1,hz2⟩:=info_parts yfw
  have HE:O (s1.E=s.E++[s.X.goE sx]):=by rw[O,<-HS1.out];rfl
  have HW:O (s1.X=s.X.goN sx/\s1.L=s.X.nxL s.L sx/\s1.L0=s.X.nxP s.L s.L0 sx/\s1.ti=s.ti+s.X.chg sx):=by rw[O,<-HS1.out];exact⟨rfl,rfl,rfl,rfl⟩
  rw[<-HW.out.1,<-HW.out.2.1,<-HW.out.2.2.1,<-HW.out.2.2.2]at HD;generalize s.X.goE sx=E at*;obtain⟨ec,en,ea,ef,er,eb⟩:=E;simp only[Pg.Sx.val,Pg.Ev.val]at HD;clear HS1 HW
  gi_wp2_with fail
  refine⟨trivial,(CallsIn.inRound l (callsIn_wide.2 HD)).mono ?_⟩;rintro e w1 ⟨rfl,F1,h1,hb1,hF1⟩;have nF:∀k,F k->k<w.heap.size\/w.heap.size+6<=k:=fun k hk=>(HF.out k hk).imp (HI.out.lt k) id;have s1':=hb1.size;have blk:∀(k:Nat) o,w.heap.size<=k->k<w.heap.size+6->W.heap[k]?=R o->w1.heap[k]?=R o:=fun k o h1 h2 hk=>(hb1.block k (Z.1 hk).1 fun e=>by have:=nF k e;omega).trans hk;have hv1:Boxed w1 (w.heap.size+3) 102 v:=blk _ _ (by omega) (by omega) HV.out;have hr1:=zb HR.out hb1 HN.out
  have hn1:∀k,v.ownBlock=R k->¬F1 k:=fun k hk e=>(hF1 k e).elim (HN.out k hk) fun e=>by have:=(HR.out.lt k hk).2;omega
  obtain⟨W2,hW2⟩:∃W2,W2=(w1.alloc (U #[N V ec,kB en,N V ea,N V ef,N V er,kB eb] 73)).alloc (U #[N V 0,N V 0] 33):=⟨_,rfl⟩
  have hb2:Below w1.heap.size w1 W2:=by rw[hW2];exact zA (zA (zR _) _) _
  have e6:W2.heap[w1.heap.size]?=R (U #[N V ec,kB en,N V ea,N V ef,N V er,kB eb] 73 (0,0)):=by
   rw[hW2,Below.heap_alloc _ _ _ (by simp)];exact y _ _
  have s2:W2.heap.size=w1.heap.size+2:=by rw[hW2];simp
  have f0:W2.cell? ⟨w1.heap.size+1,0,B⟩=R (N V 0):=by rw[hW2];simp[go_sem]
  have f1:W2.cell? ⟨w1.heap.size+1,1,B⟩=R (N V 0):=by rw[hW2];simp[go_sem]
  have hv2:Boxed W2 (w.heap.size+3) 102 v:=(hb2.block _ hv1.lt).trans hv1;have hr2:=zr hr1 hb2;have H1:O (qw W2 b s1.X s1.L s1.L0 s1.ti F1):=h1.grow hb2;have HB1:O (But F W w1):=hb1;have HB2:O (Below w1.heap.size w1 W2):=hb2;have HF1:O (∀k,F1 k->F k\/W.heap.size<=k):=hF1;have NF:O (∀k,F k->k<w.heap.size\/w.heap.size+6<=k):=nF;have HN1:O (∀k,v.ownBlock=R k->¬F1 k):=hn1;have HV2:O (Boxed W2 (w.heap.size+3) 102 v):=hv2;have HR2:O (W2.ownsRow (w.heap.size+6) 73 6 v s.E.length (zJ s.E)):=hr2;have hc2:=hv2.cell;have BLK:O (∀(k:Nat) o,w.heap.size<=k->k<w.heap.size+6->W.heap[k]?=R o->w1.heap[k]?=R o):=blk;clear hb1 hF1 nF hv1 hr1 hn1 hb2 hv2 hr2 h1 blk HD y0 x1 x2 x3 x4 x5 x6 x7 x8 x9
  gi_upto_region 5 with fail
  rw[<-hW2];clear hW2
  gi_upto_region 7 with fail
  obtain⟨⟨e0,e1,e2,e3,e4,e5⟩,_⟩:=z9 e6
  have hsz2:w.heap.size+6<=W2.heap.size:=by omega
  have bd:=BD.out;have S2:O (W2.heap.size=w1.heap.size+2):=s2;clear s2
  gi_wp2_with (gi_at_builtin;refine qX _ rfl _ _ 102 rfl (w.heap.size+6) 73 i0 _ 6 48 Tryz.underlying102 hii hz0 hz1 hz2 rfl (by decide) v s.E.length (zJ s.E) rfl (HR2.out.alloc _) ⟨W2.heap.size,0,B⟩ 1 1 (qi ⟨ec,en,ea,ef,er,eb⟩) rfl rfl (World.news_of_block (y _ _)) (by simp[qi,Value.oneCell']) (by decide) (by simp[maxLen];omega) (by omega) (by simp;omega) ?_;intro g cap w3 hown hgrow hat hlt3;have hv3:=(HV2.out.alloc (U #[N V ec,kB en,N V ea,N V ef,N V er,kB eb] 73)).kept hgrow (HV2.out.not_row (by decide) HR2.out);have hc3:=hv3.cell;have hf3:=hv3.frozen)
  exact HI.out.more hWs HF.out HB1.out HB2.out H1.out HF1.out HN1.out HR2.out HE.out hown hgrow hat hv3
 case done=>
  intro s W hf hi hK;rw[hsz]at hK;obtain⟨F,v,hw,hF,hv,hr,hn⟩:=hi.ex;have c3:=hv.cell;obtain⟨ad,cap,rfl⟩:=zF hr;have c1:=hi.b1.cell;have z1:=hi.b1.frozen;have hb2:=hi.b2
  have f0:W.cell? ⟨w.heap.size+2,0,B⟩=R (N V 0):=by simp[kF,hb2]
  have f1:W.cell? ⟨w.heap.size+2,1,B⟩=R (N V 0):=by simp[kF,hb2]
  have fz:∀i,W.frozen? ⟨w.heap.size+2,i,B⟩=kI:=fun i=>by simp[World.frozen?,hb2]
  have HI:O (EvI w b F0 s W):=hi
  have HCP:O (s.E.length<=cap):=by
   rcases hr.2 with ⟨e,e0⟩|⟨g,cap',cur,e,_,_,hc,_⟩
   ·rw[O,e0]
    exact kK _
   ·injection e with _ _ e
    rw[O,e];exact hc
  clear hi hb2
  gi_wp2
  obtain⟨Wf,hWf⟩:∃Wf,Wf=(((W.setCell ⟨w.heap.size+1,0,B⟩ (kJ ad s.E.length cap)).setCell ⟨w.heap.size+1+1,0,B⟩ (N V 0)).setCell ⟨w.heap.size+1+1,1,B⟩ (N V 0)):=⟨_,rfl⟩;rw[<-hWf]
  have bf:But (fun k=>k=w.heap.size+1\/k=w.heap.size+2) W Wf:=by
   rw[hWf];exact(((But.refl _ W).setCell (a:=⟨w.heap.size+1,0,B⟩) (.inr (.inl rfl)) _).setCell (a:=⟨w.heap.size+1+1,0,B⟩) (.inr (.inr rfl)) _).setCell (a:=⟨w.heap.size+1+1,1,B⟩) (.inr (.inr rfl)) _
  have hKf:Wf.heap[Wl.heap.size]?=R (.deferred (R [])):=by
   rw[hsz];exact(bf.block _ (Z.1 hK).1 (by omega)).trans hK
  have bg:But (fun k=>k=w.heap.size+1\/k=w.heap.size+2\/k=w.heap.size+4) W (Wf.putObj Wl.heap.size (.deferred B)):=(bf.mono fun i _ e=>e.imp id .inl).putObj (.inr (.inr (.inr hsz))) _;have nF:∀k,F k->k<w.heap.size\/w.heap.size+6<=k:=fun k hk=>(hF k hk).imp (HI.out.lt k) id;have g0:(Wf.putObj Wl.heap.size (.deferred B)).heap[w.heap.size+1]?=Wf.heap[w.heap.size+1]?:=H (by omega);have g1:(Wf.putObj Wl.heap.size (.deferred B)).heap[w.heap.size+2]?=Wf.heap[w.heap.size+2]?:=H (by omega);have d0:(Wf.putObj Wl.heap.size (.deferred B)).cell? ⟨w.heap.size+1,0,B⟩=R (kJ ad s.E.length cap):=(kC (a:=⟨w.heap.size+1,0,B⟩) g0).trans (by rw[hWf];simp[go_sem,c1]);have d1:(Wf.putObj Wl.heap.size (.deferred B)).cell? ⟨w.heap.size+2,0,B⟩=R (N V 0):=(kC (a:=⟨w.heap.size+2,0,B⟩) g1).trans (by rw[hWf];simp[go_sem,f0,f1]);have d2:(Wf.putObj Wl.heap.size (.deferred B)).cell? ⟨w.heap.size+2,1,B⟩=R (N V 0):=(kC (a:=⟨w.heap.size+2,1,B⟩) g1).trans (by rw[hWf];simp[go_sem,f0,f1])
  have FIN:O (jd (Wf.putObj Wl.heap.size (.deferred B)) ad s.E/\But F0 w (Wf.putObj Wl.heap.size (.deferred B))/\∃F',qw (Wf.putObj Wl.heap.size (.deferred B)) b s.X s.L s.L0 s.ti F'/\(∀k,F' k->F0 k\/w.heap.size<=k)/\∀g,ad=R ⟨g,0,B⟩->w.heap.size<=g/\¬F' g):=by
   refine⟨ye1 (zb hr bg fun k hk e=> ?_),HI.out.but.trans bg fun i hi e=>by omega,F,hw.keep bg fun k hk e=> ?_,fun k hk=> ?_,fun g hg=>⟨?_,?_⟩⟩
   ·have:=(hr.lt k hk).1;omega
   ·have:=nF k hk;omega
   ·rcases hF k hk with hk|hk
    ·exact .inl hk
    ·exact .inr (by omega)
   ·subst hg
    have:=(hr.lt g rfl).1;omega
   ·subst hg
    exact hn g rfl
  clear g0 g1 bf bg hWf c1 c3 z1 f0 f1 fz;refine⟨by simp,.inl ⟨_,_,rfl,run_takeDeferred hKf,?_⟩⟩;generalize Wf.putObj Wl.heap.size (.deferred B)=Wg at*;refine⟨kO #[kJ ad s.E.length cap,kX #[N V 0,N V 0]],?_,s,ad,cap,hf,HCP.out,rfl,FIN.out⟩;simp[results,Tryz.results114,go_sem,d0,d1,d2]
end
namespace Pg
namespace Trs
def yhX (s:Trs):Nat->Trs
 | 0=>s
 | k+1=>if (s.yhX k).X.W.getD k kI=kY then(s.yhX k).next (.ack k)else s.yhX k
def wlkN (c:Nat):Nat->Trs->Trs
 | 0,s=>s
 | n+1,s=>if (s.X.C.getD c Cr.new).K.on=kY then wlkN c n (s.next (.wlk c))else s
def yjU (s:Trs):Nat->Trs
 | 0=>s
 | k+1=>wlkN k 6 (s.yjU k)
end Trs
structure AckI (s:Trs) (k:Nat) (t:Trs):Prop where
 eq:t=s.yhX k
 inv:Inv t.X t.L t.L0
 len:t.X.C.length=s.X.C.length
 n:t.X.S.n=s.X.S.n
 wt:∀j,t.X.W.getD j kI=if j<k then kI else s.X.W.getD j kI
 ti:t.ti=s.ti
 E:t.E.length<=s.E.length+k
structure WlkI (s:Trs) (k:Nat) (t:Trs):Prop where
 eq:t=s.yjU k
 inv:Inv t.X t.L t.L0
 len:t.X.C.length=s.X.C.length
 n:t.X.S.n=s.X.S.n
 calm:t.X.busy=kI
 off:∀j,j<k->(t.X.C.getD j Cr.new).K.on=kI
 ti:t.ti=s.ti
 E:t.E.length<=s.E.length+6*k
structure WlkR (s:Trs) (k i:Nat) (t:Trs):Prop where
 eq:Trs.wlkN k (6-i) t=s.yjU (k+1)
 le:i<=6
 rk:(t.X.C.getD k Cr.new).K.on=kY->rk t.X.S (t.X.C.getD k Cr.new).K+i<=6
 inv:Inv t.X t.L t.L0
 len:t.X.C.length=s.X.C.length
 n:t.X.S.n=s.X.S.n
 calm:t.X.busy=kI
 off:∀j,j<k->(t.X.C.getD j Cr.new).K.on=kI
 ti:t.ti=s.ti
 E:t.E.length<=s.E.length+6*k+i
def Rest (s t:Trs):Prop:=∃a,AckI s s.X.C.length a/\WlkI a s.X.C.length t
section
variable {s t:Trs} {k i:Nat}
theorem ylB (t:Trs) (x:Sx) (h:¬(1<=x.kind/\x.kind<=3)):(t.next x).ti=t.ti:=by
 show t.ti+t.X.chg x=t.ti
 unfold Spc.chg;rw[if_neg (fun e=>h ⟨e.1,e.2.1⟩)];omega
theorem ylX (t:Trs) (x:Sx):(t.next x).E.length=t.E.length+1:=by simp[Trs.next]
theorem yl2 (h:Inv s.X s.L s.L0):AckI s 0 s:=⟨rfl,h,rfl,rfl,fun j=>by simp,rfl,by omega⟩
theorem AckI.yes (h:AckI s k t) (hk:k<s.X.C.length) (hw:t.X.W.getD k kI=kY):AckI s (k+1) (t.next (.ack k)):=by
 have hk':k<t.X.C.length:=by rw[h.len];exact hk
 have g:=(go_ack t.X hk').2;refine⟨?_,yiQ h.inv (.ack k),(yiP h.inv (.ack k)).2.trans h.len,(yiP h.inv (.ack k)).1.trans h.n,fun j=> ?_,?_,?_⟩
 ·show _=if (s.yhX k).X.W.getD k kI=kY then(s.yhX k).next (.ack k)else s.yhX k
  rw[<-h.eq,if_pos hw]
 ·show(t.X.goN (.ack k)).W.getD j kI=_
  rw[g,ack_W h.inv hk',h.wt j]
  by_cases e:j=k
  ·rw[if_pos e,if_pos (by omega)]
  ·rw[if_neg e]
   by_cases e2:j<k
   ·rw[if_pos e2,if_pos (by omega)]
   ·rw[if_neg e2,if_neg (by omega)]
 ·exact(ylB t (.ack k) (by simp[Sx.ack])).trans h.ti
 ·have:=h.E
  rw[ylX];omega
theorem AckI.no (h:AckI s k t) (hw:t.X.W.getD k kI=kI):AckI s (k+1) t:=by
 refine⟨?_,h.inv,h.len,h.n,fun j=> ?_,h.ti,Nat.le_succ_of_le h.E⟩
 ·show _=if (s.yhX k).X.W.getD k kI=kY then(s.yhX k).next (.ack k)else s.yhX k
  rw[<-h.eq,if_neg (by rw[hw];simp)]
 ·by_cases e:j=k
  ·rw[if_pos (by omega),e,hw]
  ·rw[h.wt j]
   by_cases e2:j<k
   ·rw[if_pos e2,if_pos (by omega)]
   ·rw[if_neg e2,if_neg (by omega)]
theorem AckI.calm (h:AckI s s.X.C.length t):t.X.busy=kI:=by
 refine busy_no fun j hj=> ?_;rw[h.wt j,if_pos];rw[h.inv.len,h.len]at hj;exact hj
theorem AckI.wlk (h:AckI s s.X.C.length t):WlkI t 0 t:=⟨rfl,h.inv,rfl,rfl,h.calm,fun j hj=>by omega,rfl,by omega⟩
theorem WlkI.begin (h:WlkI s k t) (hk:k<s.X.C.length):WlkR s k 0 t:=by
 have hk':k<t.X.C.length:=by rw[h.len];exact hk
 refine⟨?_,by omega,fun _=> ?_,h.inv,h.len,h.n,h.calm,h.off,h.ti,by have:=h.E;omega⟩
 ·show Trs.wlkN k 6 t=Trs.wlkN k 6 (s.yjU k)
  rw[<-h.eq]
 ·exact rk_le (h.inv.cores k hk').ok.walk
theorem WlkR.on (h:WlkR s k i t) (hk:k<s.X.C.length) (ho:(t.X.C.getD k Cr.new).K.on=kY):i<6/\WlkR s k (i+1) (t.next (.wlk k)):=by
 have hk':k<t.X.C.length:=by rw[h.len];exact hk
 have g:=(go_wlk t.X hk').2;have hr:=h.rk ho;have hp:=rk_pos t.X.S (t.X.C.getD k Cr.new).K
 have hi:i<6:=by omega
 have eX:(t.next (.wlk k)).X=t.X.goN (.wlk k):=rfl
 have eC:((t.next (.wlk k)).X.C.getD k Cr.new)=(t.X.C.getD k Cr.new).stN t.X.S 0:=by
  rw[eX,g]
  show(t.X.C.set k _).getD k Cr.new=_
  rw[yh9 hk',if_pos rfl]
 refine⟨hi,?_,by omega,fun h2=> ?_,yiQ h.inv (.wlk k),(yiP h.inv (.wlk k)).2.trans h.len,(yiP h.inv (.wlk k)).1.trans h.n,?_,fun j hj=> ?_,?_,?_⟩
 ·have e:=h.eq
  obtain⟨n,hn⟩:∃n,6-i=n+1:=⟨6-i-1,by omega⟩;rw[hn]at e;rw[show 6-(i+1)=n by omega,<-e]
  show _=if (t.X.C.getD k Cr.new).K.on=kY then Trs.wlkN k n (t.next (.wlk k))else t
  rw[if_pos ho]
 ·rw[eC]at h2 ⊢
  rcases walk_on h.inv h.calm hk' ho with ⟨_,w2,_,_,_,_,w7⟩|⟨_,w2⟩
  ·rw[eX,g]
   show Pg.rk ((t.X.C.getD k Cr.new).stS t.X.S 0) _+_<=6
   rw[w2];omega
  ·rw[w2]at h2
   cases h2
 ·rw[eX,g]
  exact h.calm
 ·rw[eX,g]
  show((t.X.C.set k _).getD j Cr.new).K.on=kI
  rw[yh9 hk',if_neg (by omega)];exact h.off j hj
 ·exact(ylB t (.wlk k) (by simp[Sx.wlk])).trans h.ti
 ·have:=h.E
  rw[ylX];omega
theorem WlkR.ended (h:WlkR s k i t) (ho:(t.X.C.getD k Cr.new).K.on=kI):WlkI s (k+1) t:=by
 refine⟨?_,h.inv,h.len,h.n,h.calm,fun j hj=> ?_,h.ti,by have:=h.E;have:=h.le;omega⟩
 ·rw[<-h.eq]
  cases hn:6-i with
  | zero=>rfl
  | succ n=>
    show t=if (t.X.C.getD k Cr.new).K.on=kY then Trs.wlkN k n (t.next (.wlk k))else t
    rw[if_neg (by rw[ho];simp)]
 ·by_cases e:j=k
  ·rw[e]
   exact ho
  ·exact h.off j (by omega)
end
end Pg
end Go.Proofs.YtdphiompijbelaaGreatDoor
