import Derived.RangeFuncNested
import Derived.RangeFuncBound
import Derived.RangeFuncLeaves
import Derived.Test.YtdphiompijbelaaGreatWtH
import Derived.OwnWalkIn
import Derived.TacticsInMore
import Derived.LoopNIn
import Derived.LoopIn
import Derived.Shelf.Abstract
import Derived.Sort.CutIn
set_option linter.all false
set_option maxRecDepth 100000
open Nat renaming le_refl->kR,reduceAdd->kF,lt_of_lt_of_le->kZ,reduceSub->kL,le_of_lt->kG,zero_le->kW
open List renaming length_nil->kP,append_toArray->kV,length_append->kQ,size_toArray->kU,push_toArray->kO,length_cons->kK,cons_append->kX,nil_append->kE
open Bool renaming false->y,true->kH
open Go.Proofs.Tryz renaming prog->D
open Go.Ending renaming returned->M
open Go.Obj renaming cells->U
open Go.World renaming putObj_heap_other->Z,block_lt_of_cell?->d,cell?_of_block->kI,putObj_heap_same->kJ,cell?->kC,alloc_heap_new->kN
open Go renaming World->V
open Array renaming getElem?_eq_some_iff->N,replicate_succ->kY,replicate_zero->kT
open Go.IntKind renaming i64->C
open Go.Value renaming int->S,slice->T,pointer->O,bool->H,tuple->kS,agg->kD
open Option renaming none->B,some->R
set_option maxHeartbeats 4000000
namespace Go.Proofs.YtdphiompijbelaaGreat
open Go.RowKit Go.Sort
theorem But.putObj {F:Nat->Prop} {w w1:V} (h:But F w w1) {l:Nat} (hl:w.heap.size<=l\/F l) (o:Obj):But F w (w1.putObj l o):=
 ⟨h.os,h.tape,h.output,Nat.le_trans h.size (by simp),fun i hi hF=>(Z (fun e=>by subst e;exact hl.elim (fun h=>by omega) hF)).trans (h.block i hi hF)⟩
def yfG (w:V):Nat->Prop:=fun k=>k=w.heap.size\/k=w.heap.size+1
theorem yd5 {F:Fence} {n:Nat} {P:Program} {σ:Type} {g:Operand} {ps:Array Tmp} {assign body:Code} {Q:Exit->Act->V->Prop} {a:Act} {w:V}
 (hro:F.round=B) (h1:1<=n) {gf:Nat} {lb:Array Value} (hg:a.eval g= .func (.func gf) #[] lb) (hFg:F.fn gf) (eg:∀args w,(callFunc gf args).run P w= .ok (.enter gf args) w)
 (I:σ->V->Prop) (Y:σ->Array Value->σ->Prop) (Fin:σ->Prop) (hps:∀s x s',Y s x s'->x.size=ps.size)
 (hI:∀s W W',I s W->But (yfG w) W W'->I s W') (s0:σ) (h0:I s0 w)
 (hseq:∀(J:σ->V->Prop) (W1:V),(∀s W,J s W->I s W)->(∀s W W',J s W->Below W.heap.size W W'->J s W')->
   (∀s x s' W,J s W->Y s x s'->YieldAt F (n-1-1) P (w.heap.size+1) x W fun e W'=>e=M (H kH)/\J s' W')->J s0 W1->
   CallsIn F (n-1) P gf (#[.func (.yield (w.heap.size+1)) #[] #[]]++lb) W1 fun e W'=>(∃v,e=M v)/\∃s,Fin s/\J s W')
 (Ax:Array Value->Act->V->Prop) (hAx:∀x a' W W',Ax x a' W->But (yfG w) W W'->Ax x a' W')
 (hassign:∀(l:Nat) s x s' (W:V) (K:Act->V->Prop),I s W->Y s x s'->w.heap.size+1<W.heap.size->(∀a' W',Below W.heap.size W W'->Ax x a' W'->K a' W')->
   assign.wpIn (F.inRound l) (n-1-1) P (Exit.then K (fun _ _ _=>False)) {tmps:=(ps.zip x).foldl (fun t (p,v)=>t.setIfInBounds p v) a.tmps,defers:=[]} W)
 (hbody:∀(l:Nat) s x s' (a':Act) (W:V),I s W->Y s x s'->Ax x a' W->w.heap.size+1<W.heap.size->
   body.wpIn (F.inRound l) (n-1-1) P (fun e _ W'=>e= .normal/\W'.heap[w.heap.size]?=W.heap[w.heap.size]?/\W'.heap[w.heap.size+1]?=W.heap[w.heap.size+1]?/\I s' W') a' W)
 (hdone:∀s (W:V),Fin s->I s W->W.heap[w.heap.size]?=R (.deferred (R []))->Q .normal {a with defers:={target:= .collected w.heap.size,args:=#[]}::a.defers} W):
 (Code.rangeFunc g ps assign body).wpIn F n P Q a w:=by
 refine wpIn_rangeFunc ?_;intro fn hfn;rw[hro];obtain⟨rec,hrec⟩:∃rec:LoopState->Option Code->Loop,rec=fun st pe=>{state:=st,pending:=pe,fn,tmps:=a.tmps,params:=ps,assign,body,defers:=w.heap.size}:=⟨_,rfl⟩;obtain⟨W1,hW1⟩:∃W1,(w.alloc (.deferred (R []))).alloc (.loop (rec .ready B))=W1:=⟨_,rfl⟩
 have hL1:W1.heap[w.heap.size+1]?=R (.loop (rec .ready B)):=by
  rw[<-hW1];have:=kN (w.alloc (.deferred (R []))) (.loop (rec .ready B));rwa [World.size_alloc]at this
 have hK1:W1.heap[w.heap.size]?=R (.deferred (R [])):=by
  rw[<-hW1];exact(Below.heap_alloc _ _ _ (by simp)).trans (kN w _)
 have hI1:I s0 W1:=hI _ _ _ h0 (by rw[<-hW1];exact((But.refl _ w).alloc _).alloc _);have hB:∀{W W':V},Below W.heap.size W W'->w.heap.size+1<W.heap.size->W'.heap[w.heap.size+1]?=W.heap[w.heap.size+1]?/\W'.heap[w.heap.size]?=W.heap[w.heap.size]?:=fun h hl=>⟨h.block _ hl,h.block _ (by omega)⟩
 refine⟨w.heap.size+1,[{target:= .collected w.heap.size,args:=#[]}],W1,{target:= .fn (.func gf) lb,args:=#[.func (.yield (w.heap.size+1)) #[] #[]]},W1,gf,
  #[.func (.yield (w.heap.size+1)) #[] #[]]++lb,W1,?_,?_,?_,?_,fun _=>h1,?_⟩
 ·rw[<-hW1,hrec];exact run_enterLoop_outer _ _ _ _ _
 ·simp only[resolve,hg]
  simp[go_sem]
 ·intro f' hf';simp[Target.leads]at hf';subst hf';exact hFg
 ·simp[invoke,go_sem,eg]
 ·refine(hseq (fun s W=>I s W/\W.heap[w.heap.size+1]?=R (.loop (rec .ready B))/\W.heap[w.heap.size]?=R (.deferred (R []))) W1 (fun _ _ h=>h.1)
   (fun s W W' hs hb=>by
     have hl:=(N.1 hs.2.1).1
     exact⟨hI _ _ _ hs.1 (But.yhf hb),(hB hb hl).1.trans hs.2.1,(hB hb hl).2.trans hs.2.2⟩) ?_ ⟨hI1,hL1,hK1⟩).mono ?_
  ·rintro s x s' W ⟨hi,hl,hk⟩ hy'
   have hy:=run_yield (P:=P) (args:=x) hl (by rw[hrec];exact hps _ _ _ hy');rw[hrec]at hy;refine⟨fn,_,assign,body,hy,roundIn_of_wpIn hfn (hassign _ s x s' W _ hi hy' (N.1 hl).1 ?_)⟩;clear hy;intro a' Wa hba hax;have hlt:=(N.1 hl).1
   replace hi:=hI _ _ _ hi (But.yhf hba)
   obtain⟨e1,e2⟩:=hB hba hlt
   replace hl:=e1.trans hl
   replace hk:=e2.trans hk
   replace hlt:w.heap.size+1<Wa.heap.size:=(N.1 hl).1
   refine⟨_,run_beginRound hl (by rw[hrec]),?_⟩;have hbut:But (yfG w) Wa (Wa.putObj (w.heap.size+1) (.loop {rec .ready B with state:= .busy})):=(But.refl _ Wa).putObj (.inr (.inr rfl)) _;have hl2:(Wa.putObj (w.heap.size+1) (.loop {rec .ready B with state:= .busy})).heap[w.heap.size+1]?=R (.loop {rec .ready B with state:= .busy}):=kJ hlt;have hk2:(Wa.putObj (w.heap.size+1) (.loop {rec .ready B with state:= .busy})).heap[w.heap.size]?=R (.deferred (R [])):=(Z (by omega)).trans hk;refine wpIn_mono (hbody _ s x s' a' _ (hI _ _ _ hi hbut) hy' (hAx _ _ _ _ hax hbut) (by simpa using hlt)) ?_;rintro e a3 W3 ⟨rfl,k3,l3,i3⟩
   replace l3:=l3.trans hl2
   have hend:=run_endRound (P:=P) B l3;refine⟨_,_,hend,rfl,hI _ _ _ i3 ((But.refl _ W3).putObj (.inr (.inr rfl)) _),?_,(Z (by omega)).trans (k3.trans hk2)⟩;rw[kJ (N.1 l3).1,hrec];rfl
  ·rintro e W2 ⟨⟨v,rfl⟩,s,hf,hi,hl,hk⟩
   exact⟨B,_,by have:=run_endLoop (P:=P) hl (by rw[hrec];simp);rw[hrec]at this;exact this,hdone _ _ hf (hI _ _ _ hi ((But.refl _ W2).putObj (.inr (.inr rfl)) _)) ((Z (by omega)).trans hk)⟩
set_option linter.unusedSimpArgs false
set_option maxRecDepth 100000
namespace Pg
def Ev.zz:Ev:=⟨0,y,0,0,0,y⟩
structure Trs where
 X:Spc
 L:List Mp
 L0:List Mp
 ti:Int
 E:List Ev
namespace Trs
def new (co n:Nat):Trs:=⟨Spc.new co n,[],[],0,[]⟩
def next (s:Trs) (x:Sx):Trs:=⟨s.X.goN x,s.X.nxL s.L x,s.X.nxP s.L s.L0 x,s.ti+s.X.chg x,s.E++[s.X.goE x]⟩
def upto (s:Trs) (q:Nat->Sx):Nat->Trs
 | 0=>s
 | k+1=>(s.upto q k).next (q k)
theorem chg_le (X:Spc) (x:Sx):0<=X.chg x/\X.chg x<=1:=by
 unfold Spc.chg
 split<;>omega
theorem yli (s:Trs) (q:Nat->Sx):∀k,s.ti<=(s.upto q k).ti/\(s.upto q k).ti<=s.ti+k
 | 0=>⟨Int.le_refl _,by simp[upto]⟩
 | k+1=>by
   have:=yli s q k;have h:=chg_le (s.upto q k).X (q k);simp only[upto,next];omega
theorem yiX (s:Trs) (q:Nat->Sx):∀k,(s.upto q k).E.length=s.E.length+k
 | 0=>rfl
 | k+1=>by
   have:=yiX s q k;simp only[upto,next,kQ,List.length_singleton];omega
end Trs
end Pg
def qa (e:Pg.Ev):List Value:=[S C e.c,H e.ended,S C e.a,S C e.f,S C e.r,H e.back]
def zw (L:List Pg.Ev):List Value:=L.flatMap qa
theorem jX (A:List Pg.Ev) (m:Pg.Ev):zw (A++[m])=zw A++qa m:=by simp[zw]
theorem yaH:∀(L:List Pg.Ev) (j i:Nat),j<L.length->i<6->(zw L)[j*6+i]?=(qa (L.getD j .zz))[i]?
 | [],j,_,h,_=>by simp at h
 | x::r,0,i,_,hi=>by
   rw[show zw (x::r)=qa x++zw r by simp[zw],List.getElem?_append_left (by simp[qa];omega)];simp
 | x::r,j+1,i,h,hi=>by
   have:=yaH r j i (by simpa using h) hi;rw[show zw (x::r)=qa x++zw r by simp[zw],List.getElem?_append_right (by simp[qa];omega)];rw[show(j+1)*6+i-(qa x).length=j*6+i by simp[qa];omega,this];simp
def ygt (w:V) (g o:Nat) (e:Pg.Ev):Prop:=
 w.cell? ⟨g,o,B⟩=R (S C e.c)/\w.cell? ⟨g,o+1,B⟩=R (H e.ended)/\w.cell? ⟨g,o+2,B⟩=R (S C e.a)/\w.cell? ⟨g,o+3,B⟩=R (S C e.f)/\w.cell? ⟨g,o+4,B⟩=R (S C e.r)/\w.cell? ⟨g,o+5,B⟩=R (H e.back)
theorem ygt.of {w w':V} {g o:Nat} {l:Pg.Ev} (h:ygt w g o l) (hc:∀p,w'.cell? ⟨g,p,B⟩=w.cell? ⟨g,p,B⟩):ygt w' g o l:=
 ⟨(hc _).trans h.1,(hc _).trans h.2.1,(hc _).trans h.2.2.1,(hc _).trans h.2.2.2.1,(hc _).trans h.2.2.2.2.1,(hc _).trans h.2.2.2.2.2⟩
def qc (w:V) (ad:Option Addr) (E:List Pg.Ev):Prop:=∀j,j<E.length->∃g,ad=R ⟨g,0,B⟩/\g<w.heap.size/\ygt w g (j*6) (E.getD j .zz)
theorem qc.but {G:Nat->Prop} {w w':V} {ad:Option Addr} {E:List Pg.Ev} (h:qc w ad E) (hb:But G w w') (hG:∀g,ad=R ⟨g,0,B⟩->¬G g):qc w' ad E:=by
 intro j hj;obtain⟨g,e,hg,hm⟩:=h j hj;exact⟨g,e,kZ hg hb.size,hm.of fun p=>hb.cell (a:=⟨g,p,B⟩) hg (hG g e)⟩
theorem qc.below {w w':V} {ad:Option Addr} {E:List Pg.Ev} (h:qc w ad E) (hb:Below w.heap.size w w'):qc w' ad E:=h.but (G:=fun _=>False) (But.yhf hb) fun _ _=>id
theorem yda {w:V} {base:Nat} {e:TypeId} {ad:Option Addr} {n cap:Nat} {L:List Pg.Ev} (h:w.ownsRow base e 6 (T ad n cap) L.length (zw L)):qc w ad L:=by
 intro j hj;obtain⟨g,cap',e,_,hg⟩:=h.form (by omega);cases e;have hc:=fun i (hi:i<6)=>(h.cellAt (j*6+i) (by omega)).trans (yaH L j i hj hi);have h0:=hc 0 (by omega);have h1:=hc 1 (by omega);have h2:=hc 2 (by omega);have h3:=hc 3 (by omega);have h4:=hc 4 (by omega);have h5:=hc 5 (by omega);simp only[qa,Nat.add_zero]at h0 h1 h2 h3 h4 h5;exact⟨g,rfl,hg,by simpa using h0,by simpa using h1,by simpa using h2,by simpa using h3,by simpa using h4,by simpa using h5⟩
theorem yao {ad ad':Option Addr} {cap cap':Nat} {L:List Pg.Ev} (w:V) (h:qc w ad L) (h':qc w ad' L) (hl:L.length<=1000000):
 Calls D 38 #[T ad L.length cap,T ad' L.length cap'] w fun e w'=>e=M (H kH)/\Below w.heap.size w w':=by
 have HA:Hid (qc w ad L):=h;have HB:Hid (qc w ad' L):=h';clear h h'
 go_enter Tryz.func38,Tryz.ntmps38
 go_wp2_with fail
 go_loopw [5] (fun i wr=>∃j:Nat,j<=L.length/\i=S C j/\Hid (Below w.heap.size w wr)) (fun i _=>L.length-(intOf i).toNat)
 case atStart=>exact⟨0,by omega,rfl,zR _⟩
 case round=>
  obtain⟨j,hj,rfl,HR⟩:=hrel
  have i0:(0:Int)<=(j:Int):=by omega
  by_cases hlt:j<L.length
  ·obtain⟨g,rfl,hg,hm⟩:=qc.below HA.out HR.out j hlt
   obtain⟨g',rfl,hg',hm'⟩:=qc.below HB.out HR.out j hlt;obtain⟨k0,k1,k2,k3,k4,k5⟩:=hm;obtain⟨m0,m1,m2,m3,m4,m5⟩:=hm'
   have i1:(j:Int)<(L.length:Int):=by omega
   have fin:Hid (∀nq,Below w.heap.size w (wr.drewN nq)):=fun nq=>zT HR.out (below_drewN (zR _) nq);generalize L.getD j .zz=x at*;obtain⟨ec,en,ea,ef,er,eb⟩:=x;simp only at k0 k1 k2 k3 k4 k5 m0 m1 m2 m3 m4 m5
   go_wp2_with fail
   go_quiet (fail)
   go_wp2_with fail
   go_roundw
   case rel=>exact⟨j+1,by omega,by go_num,fin.out _⟩
   case measure=>simp[intOf];omega
  ·have i1:¬(j:Int)<(L.length:Int):=by omega
   go_wp2_with fail
   go_ret
   exact⟨rfl,HR.out⟩
attribute [local go_sem] Oper.semAt_some
theorem ji {F:Fence} {n':Nat} {P:Program} (w:V) {ops:Array Oper} {rest:List Oper} {o:Oper} {a:Act} {Q:Exit->Act->V->Prop} (hgd:o.guard=B) (s x:Operand) (t:TypeId)
 (ho:o.op= .call {callee:= .builtin .append,args:=#[s,x],argTypes:=#[t,t]})
 (base:Nat) (e:TypeId) (i:TypeInfo) (z:Value) (size bytes:Nat) (ht:P.underlying t=R (.slice e)) (hi:P.info? e=R i) (hz:i.zero=R z)
 (hsize:i.size=size) (hby:i.bytes=bytes) (hzs:z.cells.size=size) (hsz:0<size)
 (v:Value) (n:Nat) (xs:List Value) (hs:a.eval s=v) (hown:w.ownsRow base e size v n xs)
 (ad:Addr) (m c:Nat) (news:List Value) (hx:a.eval x=T (R ad) m c) (hl:news.length=m*size) (hnews:∀j u,news[j]?=R u->w.cell? (ad.add j)=R u) (h1:∀u ∈ news,u.oneCell'=kH)
 (hm:0<m) (h63:n+m<=maxLen) (hbytes:(n+m)*bytes<=140737488355328) (hbase:base<=w.heap.size)
 (h:∀g cap w',w'.ownsRow base e size (T (R ⟨g,0,B⟩) (n+m) cap) (n+m) (xs++news)->w.grownBy w' v.ownBlock->(v.ownBlock=R g\/g=w.heap.size)->g<w'.heap.size->wpListIn F n' P ops Q rest (a.put o.dst (T (R ⟨g,0,B⟩) (n+m) cap)) w'):wpListIn F n' P ops Q (o::rest) a w:=by
 refine wpListIn_plain hgd fun K hK'=> ?_;obtain⟨g,cap,w',hr,h2,h3,h4,h5⟩:=run_append_lies (P:=P) w t o.type base e i z size bytes ht hi hz hsize hby hzs hsz v n xs hown ad m c news hl hnews h1 hm h63 hbytes hbase _ rfl;unfold Oper.wpIn;refine⟨?_,?_⟩
 ·simp[Oper.about,ho,resolve,Target.leads,Sem.run_pure]
 ·rw[Oper.semAt_plain F _ _ (by rw[ho];intro c hc';cases hc')]
  simp[execOp,ho,resolve,invoke,builtin,hs,hx,hr,Result.andThen];exact hK' _ _ (h g cap w' h2 h3 h4 h5)
def Bd (s:Pg.Trs):Prop:=0<=s.ti/\s.ti<=100000/\s.E.length<=100000
def Seq (b:Nat) (F0:Nat->Prop) (w:V) (s0:Pg.Trs) (gf:Nat) (lb:Array Value) (Fin:Pg.Trs->Prop):Prop:=
 ∀(l:Nat) (J:Pg.Trs->V->Prop) (W1:V),(∀s W,J s W->But F0 w W/\∃F,vZ W b s.X s.L s.L0 s.ti F)->(∀s W W',J s W->Below W.heap.size W W'->J s W')->
  (∀s x W,J s W->yav x->Bd s->YieldAt Fence.wide 1 D l #[x.val] W fun e W'=>e=M (H kH)/\J (s.next x) W')->J s0 W1->
  CallsIn Fence.wide 2 D gf (#[.func (.yield l) #[] #[]]++lb) W1 fun e W'=>(∃v,e=M v)/\∃s,Fin s/\J s W'
structure EvI (w:V) (b:Nat) (F0:Nat->Prop) (s:Pg.Trs) (W:V):Prop where
 b0:W.heap[w.heap.size]?=R (U #[O (R ⟨b,0,B⟩)] 75 (0,0))
 b1:Boxed W (w.heap.size+1) 92 (T B 0 0)
 b2:W.heap[w.heap.size+2]?=R (U #[S C 0,S C 0] 27 (0,0))
 ex:∃F v,vZ W b s.X s.L s.L0 s.ti F/\(∀k,F k->F0 k\/w.heap.size+6<=k)/\Boxed W (w.heap.size+3) 92 v/\W.ownsRow (w.heap.size+6) 36 6 v s.E.length (zw s.E)/\∀k,v.ownBlock=R k->¬F k
 but:But F0 w W
 lt:∀k,F0 k->k<w.heap.size
theorem EvI.keep {w W W':V} {b:Nat} {F0:Nat->Prop} {s:Pg.Trs} (h:EvI w b F0 s W) (hb:But (fun k=>k=w.heap.size+4\/k=w.heap.size+5) W W'):EvI w b F0 s W':=by
 obtain⟨F,v,hw,hF,hv,hr,hn⟩:=h.ex;have blk:∀(k:Nat) o,k<w.heap.size+4->W.heap[k]?=R o->W'.heap[k]?=R o:=fun k o hk ho=>(hb.block k (N.1 ho).1 (by omega)).trans ho;refine⟨blk _ _ (by omega) h.b0,blk _ _ (by omega) h.b1,blk _ _ (by omega) h.b2,⟨F,v,hw.keep hb fun k hk e=> ?_,hF,blk _ _ (by omega) hv,zc hr hb fun k hk e=> ?_,hn⟩,h.but.trans hb fun i hi e=>by omega,h.lt⟩
 ·rcases hF k hk with hk|hk
  ·have:=h.lt k hk
   omega
  ·omega
 ·have:=(hr.lt k hk).1
  omega
theorem EvI.more {w W w1 W2 w3:V} {b g cap:Nat} {F0 F F1:Nat->Prop} {s s1:Pg.Trs} {v:Value} {e:Pg.Ev} {tmp:Obj} (h:EvI w b F0 s W) (hWs:w.heap.size+6<=W.heap.size) (hF:∀k,F k->F0 k\/w.heap.size+6<=k) (hb1:But F W w1) (hb2:Below w1.heap.size w1 W2)
 (h1:vZ W2 b s1.X s1.L s1.L0 s1.ti F1) (hF1:∀k,F1 k->F k\/W.heap.size<=k) (hn1:∀k,v.ownBlock=R k->¬F1 k) (hr:W2.ownsRow (w.heap.size+6) 36 6 v s.E.length (zw s.E)) (hE:s1.E=s.E++[e])
 (hown:w3.ownsRow (w.heap.size+6) 36 6 (T (R ⟨g,0,B⟩) (s.E.length+1) cap) (s.E.length+1) (zw s.E++qa e)) (hgrow:(W2.alloc tmp).grownBy w3 v.ownBlock) (hat:v.ownBlock=R g\/g=(W2.alloc tmp).heap.size) (hv3:Boxed w3 (w.heap.size+3) 92 v):
 (w3.setCell ⟨w.heap.size+3,0,B⟩ (T (R ⟨g,0,B⟩) (s.E.length+1) cap)).heap[w.heap.size+4]?=W.heap[w.heap.size+4]?/\(w3.setCell ⟨w.heap.size+3,0,B⟩ (T (R ⟨g,0,B⟩) (s.E.length+1) cap)).heap[w.heap.size+5]?=W.heap[w.heap.size+5]?/\
 EvI w b F0 s1 (w3.setCell ⟨w.heap.size+3,0,B⟩ (T (R ⟨g,0,B⟩) (s.E.length+1) cap)):=by
 have hv2:∀k,v.ownBlock=R k->w.heap.size+6<=k:=fun k hk=>(hr.lt k hk).1;have hB3:But (fun k=>v.ownBlock=R k) W2 w3:=((But.refl _ W2).alloc tmp).grown hgrow fun j hj=> .inr hj;have hBf:But (fun k=>k=w.heap.size+3\/v.ownBlock=R k) W2 (w3.setCell ⟨w.heap.size+3,0,B⟩ (T (R ⟨g,0,B⟩) (s.E.length+1) cap)):=(hB3.mono fun i _ e=> .inr e).setCell (.inr (.inl rfl)) _;have s1:=hb1.size;have s2:=hb2.size;have nF:∀k,F k->k<w.heap.size\/w.heap.size+6<=k:=fun k hk=>(hF k hk).imp (h.lt k) id
 have blk:∀k,w.heap.size<=k->k<w.heap.size+6->k≠w.heap.size+3->(w3.setCell ⟨w.heap.size+3,0,B⟩ (T (R ⟨g,0,B⟩) (s.E.length+1) cap)).heap[k]?=W.heap[k]?:=fun k k1 k2 k3=>by
  rw[hBf.block k (by omega) (fun e=>e.elim k3 fun e=>by have:=hv2 k e;omega),hb2.block k (by omega),hb1.block k (by omega) fun e=>by have:=nF k e;omega]
 refine⟨blk _ (by omega) (by omega) (by omega),blk _ (by omega) (by omega) (by omega),(blk _ (by omega) (by omega) (by omega)).trans h.b0,(blk _ (by omega) (by omega) (by omega)).trans h.b1,(blk _ (by omega) (by omega) (by omega)).trans h.b2,
  ⟨F1,_,h1.keep hBf fun k hk e=> ?_,fun k hk=> ?_,hv3.set _,?_,fun k hk hf=> ?_⟩,?_,h.lt⟩
 ·rcases e with e|e
  ·rcases hF1 k hk with hk|hk
   ·have:=nF k hk;omega
   ·omega
  ·exact hn1 k e hk
 ·rcases hF1 k hk with hk|hk
  ·exact hF k hk
  ·exact .inr (by omega)
 ·rw[hE,jX,kQ]
  exact hown.kept (grownBy_setCell' w3 _ _) (.inr (hv3.not_row (by decide) hown).symm)
 ·obtain rfl:g=k:=by simpa[Value.ownBlock]using hk
  rcases hat with e|e
  ·exact hn1 g e hf
  ·have:=h1.lt hf
   simp at e;omega
 ·refine(((h.but.trans hb1 fun i hi e=>(hF i e).elim id fun e=>by omega).trans (But.yhf (F:=fun _=>False) hb2) fun _ _ e=>e.elim).trans hBf fun i hi e=> ?_)
  rcases e with e|e
  ·omega
  ·have:=hv2 i e;omega
theorem yfZ:(Tryz.prog.info? 36).map (fun i=>(i.zero,i.size,i.bytes))=R (R (kD #[S C 0,H y,S C 0,S C 0,S C 0,H y]),6,48):=by kernel_rfl
end Go.Proofs.YtdphiompijbelaaGreat
namespace Go.Proofs.YtdphiompijbelaaGreat
open Go.RowKit Go.Sort
attribute [local go_sem] Oper.semAt_some
theorem ycb {b:Nat} {s0:Pg.Trs} {F0:Nat->Prop} {gf:Nat} {lb:Array Value} {Fin:Pg.Trs->Prop} (w:V) (h:vZ w b s0.X s0.L s0.L0 s0.ti F0) (hE:s0.E=[]) (hgf:∀args w,(callFunc gf args).run D w= .ok (.enter gf args) w)
 (hs:Seq b F0 w s0 gf lb Fin):
 Calls D 79 #[O (R ⟨b,0,B⟩),.func (.func gf) #[] lb] w fun e w'=>∃s ad cap,Fin s/\s.E.length<=cap/\e=M (kS #[T ad s.E.length cap,kD #[S C 0,S C 0]])/\qc w' ad s.E/\But F0 w w'/\
  ∃F',vZ w' b s.X s.L s.L0 s.ti F'/\(∀k,F' k->F0 k\/w.heap.size<=k)/\∀g,ad=R ⟨g,0,B⟩->w.heap.size<=g/\¬F' g:=by
 refine(callsIn_wide (n:=3)).1 ?_;refine callsIn_of_wp_marks Tryz.func79 rfl trivial ?_ rfl;simp only[Tryz.ntmps79,kU,kK,kP,kF,kL,kY,kT,kO,kV,kE,kX]
 gi_wp2
 obtain⟨Wl,hWl⟩:∃Wl,Wl=(((w.alloc (U #[O (R ⟨b,0,B⟩)] 75)).alloc (U #[T B 0 0] 92)).alloc (U #[S C 0,S C 0] 27)).alloc (U #[T B 0 0] 92):=⟨_,rfl⟩;rw[<-hWl]
 have hsz:Wl.heap.size=w.heap.size+4:=by rw[hWl];simp
 have al:∀(k:Nat) o,(((w.alloc (U #[O (R ⟨b,0,B⟩)] 75)).alloc (U #[T B 0 0] 92)).alloc (U #[S C 0,S C 0] 27)).heap[k]?=R o->Wl.heap[k]?=R o:=fun k o hk=>by
  rw[hWl,Below.heap_alloc _ _ _ (N.1 hk).1];exact hk
 obtain⟨a0,a1,a2⟩:=jj w (U #[O (R ⟨b,0,B⟩)] 75) (U #[T B 0 0] 92) (U #[S C 0,S C 0] 27)
 have a3:Wl.heap[w.heap.size+3]?=R (U #[T B 0 0] 92 (0,0)):=by
  rw[hWl];exact(show(((w.alloc (U #[O (R ⟨b,0,B⟩)] 75)).alloc (U #[T B 0 0] 92)).alloc (U #[S C 0,S C 0] 27)).heap.size=w.heap.size+3 by simp)▸heap_alloc_new _ _
 have hbl:Below w.heap.size w Wl:=by rw[hWl];exact zA (zA (zA (zA (zR _) _) _) _) _
 have I0:EvI w b F0 s0 Wl:=⟨al _ _ a0,al _ _ a1,al _ _ a2,⟨F0,_,h.grow hbl,fun k hk=> .inl hk,a3,by rw[hE];exact World.ownsRow_nil _ _ _ _,fun k hk=>by cases hk⟩,But.yhf hbl,fun k hk=>h.lt hk⟩
 have hI:∀s W W',EvI w b F0 s W->But (yfG Wl) W W'->EvI w b F0 s W':=fun s W W' hi hb=>hi.keep (hb.mono fun i _ e=>by
  rcases e with e|e
  ·exact .inl (by omega)
  ·exact .inr (by omega))
 clear al a0 a1 a2 a3 hbl h
 refine yd5 rfl (by omega) (gf:=gf) (lb:=lb) rfl trivial hgf (EvI w b F0) (fun s x s'=>∃sx,yav sx/\Bd s/\x=#[Pg.Sx.val sx]/\s'=s.next sx) Fin ?ps hI s0 I0 ?seq
  (fun x a' W=>∃sx Bx,x=#[Pg.Sx.val sx]/\w.heap.size+6<=Bx/\W.heap[Bx]?=R (zG sx)/\a'={tmps:=#[O (R ⟨b,0,B⟩),.func (.func gf) #[] lb,O (R ⟨w.heap.size,0,B⟩),undef,O (R ⟨w.heap.size+1,0,B⟩),O (R ⟨w.heap.size+2,0,B⟩),O (R ⟨w.heap.size+3,0,B⟩),O (R ⟨Bx,0,B⟩),undef,undef,.func (.func gf) #[] lb,Pg.Sx.val sx,undef,undef,undef,undef,undef,undef,undef,undef,undef,undef,undef,undef,undef,undef,undef,undef],defers:=[]}) ?hAx ?assign ?body ?done
 case ps=>
  rintro s x s' ⟨sx,_,_,rfl,_⟩;rfl
 case seq=>
  intro J W1 hJ hJb hY h0;exact hs _ J W1 (fun s W hj=>⟨(hJ s W hj).but,by obtain⟨F,_,hw,_⟩:=(hJ s W hj).ex;exact⟨F,hw⟩⟩) hJb (fun s x W hj hx hb=>hY s _ _ W hj ⟨x,hx,hb,rfl,rfl⟩) h0
 case hAx=>
  rintro x a' W W' ⟨sx,Bx,h1,h2,h3,h4⟩ hb;refine⟨sx,Bx,h1,h2,(hb.block Bx (N.1 h3).1 fun e=> ?_).trans h3,h4⟩
  rcases e with e|e<;>omega
 case assign=>
  rintro l s x s' W K hi ⟨sx,hx,hbd,rfl,rfl⟩ hlt hK;have hK:Hid (∀a' W',Below W.heap.size W W'->_->K a' W'):=hK;obtain⟨W2,hW2⟩:∃W2,W2=W.alloc (zG sx):=⟨_,rfl⟩
  have hb2:Hid (Below W.heap.size W W2):=by rw[Hid,hW2];exact zA (zR _) _
  have hx2:Hid (W2.heap[W.heap.size]?=R (zG sx)):=by rw[Hid,hW2];exact heap_alloc_new _ _
  have hl:Hid (w.heap.size+6<=W.heap.size):=by rw[Hid];omega
  simp only[zG,Pg.Sx.val]at hW2;simp only[Pg.Sx.val];clear hlt hi hbd hx
  gi_wp2
  rw[<-hW2];exact hK.out _ _ hb2.out ⟨sx,_,rfl,hl.out,hx2.out,rfl⟩
 case body=>
  rintro l s x s' a' W hi ⟨sx,hx,hbd,rfl,rfl⟩ ⟨sy,Bx,hxy,hBx,hbox,rfl⟩ hlt
  obtain rfl:sx=sy:=by
   obtain⟨kd,cr,⟨mp,ms,mf,mr⟩,xq,xk,xu⟩:=sx;obtain⟨kd',cr',⟨mp',ms',mf',mr'⟩,xq',xk',xu'⟩:=sy;simp[Pg.Sx.val]at hxy;simp[hxy]
  clear hxy;obtain⟨F,v,hw,hF,hv,hr,hn⟩:=hi.ex;have HD:=yfJ sx hx W hw ⟨hbd.1,by have:=hbd.2.1;omega⟩
  have y0:W.cell? ⟨w.heap.size,0,B⟩=R (O (R ⟨b,0,B⟩)):=by simp[kC,hi.b0]
  have yx:∀p v,(#[S C sx.kind,S C sx.core,S C sx.m.p,S C sx.m.s,S C sx.m.f,S C sx.m.r,S C sx.q,S C sx.k,H sx.u]:Array Value)[p]?=R v->W.cell? ⟨Bx,p,B⟩=R v:=fun p v hp=>by
   unfold zG at hbox;simp[kC,hbox,hp]
  have x1:=yx 0 _ rfl;have x2:=yx 1 _ rfl;have x3:=yx 2 _ rfl;have x4:=yx 3 _ rfl;have x5:=yx 4 _ rfl;have x6:=yx 5 _ rfl;have x7:=yx 6 _ rfl;have x8:=yx 7 _ rfl;have x9:=yx 8 _ rfl;clear yx hbox;have HI:Hid (EvI w b F0 s W):=hi
  have hWs:w.heap.size+6<=W.heap.size:=by omega
  have HF:Hid (∀k,F k->F0 k\/w.heap.size+6<=k):=hF;have HV:Hid (Boxed W (w.heap.size+3) 92 v):=hv;have HR:Hid (W.ownsRow (w.heap.size+6) 36 6 v s.E.length (zw s.E)):=hr;have HN:Hid (∀k,v.ownBlock=R k->¬F k):=hn;have BD:Hid (s.E.length<=100000):=hbd.2.2;generalize hs1:s.next sx=s1;have HS1:Hid (s.next sx=s1):=hs1;clear hi hF hv hr hn hx hbd hw hs1 hlt;obtain⟨i0,hii,hz0,hz1,hz2⟩:=info_parts yfZ
  have HE:Hid (s1.E=s.E++[s.X.goE sx]):=by rw[Hid,<-HS1.out];rfl
  have HW:Hid (s1.X=s.X.goN sx/\s1.L=s.X.nxL s.L sx/\s1.L0=s.X.nxP s.L s.L0 sx/\s1.ti=s.ti+s.X.chg sx):=by rw[Hid,<-HS1.out];exact⟨rfl,rfl,rfl,rfl⟩
  rw[<-HW.out.1,<-HW.out.2.1,<-HW.out.2.2.1,<-HW.out.2.2.2]at HD;generalize s.X.goE sx=E at*;obtain⟨ec,en,ea,ef,er,eb⟩:=E;simp only[Pg.Sx.val,Pg.Ev.val]at HD;clear HS1 HW
  gi_wp2_with fail
  refine⟨trivial,(CallsIn.inRound l (callsIn_wide.2 HD)).mono ?_⟩;rintro e w1 ⟨rfl,F1,h1,hb1,hF1⟩;have nF:∀k,F k->k<w.heap.size\/w.heap.size+6<=k:=fun k hk=>(HF.out k hk).imp (HI.out.lt k) id;have s1':=hb1.size;have blk:∀(k:Nat) o,w.heap.size<=k->k<w.heap.size+6->W.heap[k]?=R o->w1.heap[k]?=R o:=fun k o h1 h2 hk=>(hb1.block k (N.1 hk).1 fun e=>by have:=nF k e;omega).trans hk;have hv1:Boxed w1 (w.heap.size+3) 92 v:=blk _ _ (by omega) (by omega) HV.out;have hr1:=zc HR.out hb1 HN.out
  have hn1:∀k,v.ownBlock=R k->¬F1 k:=fun k hk e=>(hF1 k e).elim (HN.out k hk) fun e=>by have:=(HR.out.lt k hk).2;omega
  obtain⟨W2,hW2⟩:∃W2,W2=(w1.alloc (U #[S C ec,H en,S C ea,S C ef,S C er,H eb] 36)).alloc (U #[S C 0,S C 0] 27):=⟨_,rfl⟩
  have hb2:Below w1.heap.size w1 W2:=by rw[hW2];exact zA (zA (zR _) _) _
  have e6:W2.heap[w1.heap.size]?=R (U #[S C ec,H en,S C ea,S C ef,S C er,H eb] 36 (0,0)):=by
   rw[hW2,Below.heap_alloc _ _ _ (by simp)];exact heap_alloc_new _ _
  have s2:W2.heap.size=w1.heap.size+2:=by rw[hW2];simp
  have f0:W2.cell? ⟨w1.heap.size+1,0,B⟩=R (S C 0):=by rw[hW2];simp[go_sem]
  have f1:W2.cell? ⟨w1.heap.size+1,1,B⟩=R (S C 0):=by rw[hW2];simp[go_sem]
  have hv2:Boxed W2 (w.heap.size+3) 92 v:=(hb2.block _ hv1.lt).trans hv1;have hr2:=zm hr1 hb2;have H1:Hid (vZ W2 b s1.X s1.L s1.L0 s1.ti F1):=h1.grow hb2;have HB1:Hid (But F W w1):=hb1;have HB2:Hid (Below w1.heap.size w1 W2):=hb2;have HF1:Hid (∀k,F1 k->F k\/W.heap.size<=k):=hF1;have NF:Hid (∀k,F k->k<w.heap.size\/w.heap.size+6<=k):=nF;have HN1:Hid (∀k,v.ownBlock=R k->¬F1 k):=hn1;have HV2:Hid (Boxed W2 (w.heap.size+3) 92 v):=hv2;have HR2:Hid (W2.ownsRow (w.heap.size+6) 36 6 v s.E.length (zw s.E)):=hr2;have hc2:=hv2.cell;have BLK:Hid (∀(k:Nat) o,w.heap.size<=k->k<w.heap.size+6->W.heap[k]?=R o->w1.heap[k]?=R o):=blk;clear hb1 hF1 nF hv1 hr1 hn1 hb2 hv2 hr2 h1 blk HD y0 x1 x2 x3 x4 x5 x6 x7 x8 x9
  gi_upto_region 5 with fail
  rw[<-hW2];clear hW2
  gi_upto_region 7 with fail
  obtain⟨⟨e0,e1,e2,e3,e4,e5⟩,_⟩:=zx e6
  have hsz2:w.heap.size+6<=W2.heap.size:=by omega
  have bd:=BD.out;have S2:Hid (W2.heap.size=w1.heap.size+2):=s2;clear s2
  gi_wp2_with (gi_at_builtin;refine ji _ rfl _ _ 92 rfl (w.heap.size+6) 36 i0 _ 6 48 Tryz.underlying92 hii hz0 hz1 hz2 rfl (by decide) v s.E.length (zw s.E) rfl (HR2.out.alloc _) ⟨W2.heap.size,0,B⟩ 1 1 (qa ⟨ec,en,ea,ef,er,eb⟩) rfl rfl (World.news_of_block (heap_alloc_new _ _)) (by simp[qa,Value.oneCell']) (by decide) (by simp[maxLen];omega) (by omega) (by simp;omega) ?_;intro g cap w3 hown hgrow hat hlt3;have hv3:=(HV2.out.alloc (U #[S C ec,H en,S C ea,S C ef,S C er,H eb] 36)).kept hgrow (HV2.out.not_row (by decide) HR2.out);have hc3:=hv3.cell;have hf3:=hv3.frozen)
  exact HI.out.more hWs HF.out HB1.out HB2.out H1.out HF1.out HN1.out HR2.out HE.out hown hgrow hat hv3
 case done=>
  intro s W hf hi hK;rw[hsz]at hK;obtain⟨F,v,hw,hF,hv,hr,hn⟩:=hi.ex;have c3:=hv.cell;obtain⟨ad,cap,rfl⟩:=zF hr;have c1:=hi.b1.cell;have z1:=hi.b1.frozen;have hb2:=hi.b2
  have f0:W.cell? ⟨w.heap.size+2,0,B⟩=R (S C 0):=by simp[kC,hb2]
  have f1:W.cell? ⟨w.heap.size+2,1,B⟩=R (S C 0):=by simp[kC,hb2]
  have fz:∀i,W.frozen? ⟨w.heap.size+2,i,B⟩=y:=fun i=>by simp[World.frozen?,hb2]
  have HI:Hid (EvI w b F0 s W):=hi
  have HCP:Hid (s.E.length<=cap):=by
   rcases hr.2 with ⟨e,e0⟩|⟨g,cap',cur,e,_,_,hc,_⟩
   ·rw[Hid,e0]
    exact kW _
   ·injection e with _ _ e
    rw[Hid,e];exact hc
  clear hi hb2
  gi_wp2
  obtain⟨Wf,hWf⟩:∃Wf,Wf=(((W.setCell ⟨w.heap.size+1,0,B⟩ (T ad s.E.length cap)).setCell ⟨w.heap.size+1+1,0,B⟩ (S C 0)).setCell ⟨w.heap.size+1+1,1,B⟩ (S C 0)):=⟨_,rfl⟩;rw[<-hWf]
  have bf:But (fun k=>k=w.heap.size+1\/k=w.heap.size+2) W Wf:=by
   rw[hWf];exact(((But.refl _ W).setCell (a:=⟨w.heap.size+1,0,B⟩) (.inr (.inl rfl)) _).setCell (a:=⟨w.heap.size+1+1,0,B⟩) (.inr (.inr rfl)) _).setCell (a:=⟨w.heap.size+1+1,1,B⟩) (.inr (.inr rfl)) _
  have hKf:Wf.heap[Wl.heap.size]?=R (.deferred (R [])):=by
   rw[hsz];exact(bf.block _ (N.1 hK).1 (by omega)).trans hK
  have bg:But (fun k=>k=w.heap.size+1\/k=w.heap.size+2\/k=w.heap.size+4) W (Wf.putObj Wl.heap.size (.deferred B)):=(bf.mono fun i _ e=>e.imp id .inl).putObj (.inr (.inr (.inr hsz))) _;have nF:∀k,F k->k<w.heap.size\/w.heap.size+6<=k:=fun k hk=>(hF k hk).imp (HI.out.lt k) id;have g0:(Wf.putObj Wl.heap.size (.deferred B)).heap[w.heap.size+1]?=Wf.heap[w.heap.size+1]?:=Z (by omega);have g1:(Wf.putObj Wl.heap.size (.deferred B)).heap[w.heap.size+2]?=Wf.heap[w.heap.size+2]?:=Z (by omega);have d0:(Wf.putObj Wl.heap.size (.deferred B)).cell? ⟨w.heap.size+1,0,B⟩=R (T ad s.E.length cap):=(kI (a:=⟨w.heap.size+1,0,B⟩) g0).trans (by rw[hWf];simp[go_sem,c1]);have d1:(Wf.putObj Wl.heap.size (.deferred B)).cell? ⟨w.heap.size+2,0,B⟩=R (S C 0):=(kI (a:=⟨w.heap.size+2,0,B⟩) g1).trans (by rw[hWf];simp[go_sem,f0,f1]);have d2:(Wf.putObj Wl.heap.size (.deferred B)).cell? ⟨w.heap.size+2,1,B⟩=R (S C 0):=(kI (a:=⟨w.heap.size+2,1,B⟩) g1).trans (by rw[hWf];simp[go_sem,f0,f1])
  have FIN:Hid (qc (Wf.putObj Wl.heap.size (.deferred B)) ad s.E/\But F0 w (Wf.putObj Wl.heap.size (.deferred B))/\∃F',vZ (Wf.putObj Wl.heap.size (.deferred B)) b s.X s.L s.L0 s.ti F'/\(∀k,F' k->F0 k\/w.heap.size<=k)/\∀g,ad=R ⟨g,0,B⟩->w.heap.size<=g/\¬F' g):=by
   refine⟨yda (zc hr bg fun k hk e=> ?_),HI.out.but.trans bg fun i hi e=>by omega,F,hw.keep bg fun k hk e=> ?_,fun k hk=> ?_,fun g hg=>⟨?_,?_⟩⟩
   ·have:=(hr.lt k hk).1;omega
   ·have:=nF k hk;omega
   ·rcases hF k hk with hk|hk
    ·exact .inl hk
    ·exact .inr (by omega)
   ·subst hg
    have:=(hr.lt g rfl).1;omega
   ·subst hg
    exact hn g rfl
  clear g0 g1 bf bg hWf c1 c3 z1 f0 f1 fz;refine⟨by simp,.inl ⟨_,_,rfl,run_takeDeferred hKf,?_⟩⟩;generalize Wf.putObj Wl.heap.size (.deferred B)=Wg at*;refine⟨kS #[T ad s.E.length cap,kD #[S C 0,S C 0]],?_,s,ad,cap,hf,HCP.out,rfl,FIN.out⟩;simp[results,Tryz.results79,go_sem,d0,d1,d2]
theorem ycd (ad:Option Addr) (len cap:Nat) (w:V):
 Calls D 80 #[T ad len cap] w fun e w'=>e=M (.func (.func 129) #[] #[O (R ⟨w.heap.size,0,B⟩)])/\w'=w.alloc (U #[T ad len cap] 22):=by
 go_enter Tryz.func80,Tryz.ntmps80
 go_wp2
 go_ret
 exact⟨rfl,rfl⟩
theorem yce {b:Nat} {F0:Nat->Prop} {w:V} {ad:Option Addr} {len cap Bs:Nat} {q:Nat->Bst} {s0:Pg.Trs} (hE:s0.E=[]) (hti:0<=s0.ti/\s0.ti<=1000) (hlen:len<=2000)
 (hBs:w.cell? ⟨Bs,0,B⟩=R (T ad len cap)) (nBs:¬F0 Bs) (hq:∀j,j<len->(∃b o,ad=R ⟨b,o,B⟩/\b<w.heap.size/\¬F0 b/\j9 w b (o+j*9) (q j))/\jo (q j)):
 Seq b F0 w s0 129 #[O (R ⟨Bs,0,B⟩)] (fun s=>s=s0.upto (fun j=>(q j).sx) len):=by
 intro l J W1 hI hJb hY h0;have hI:Hid (∀s W,J s W->But F0 w W/\∃F,vZ W b s.X s.L s.L0 s.ti F):=hI;have hJb:Hid (∀s W W',J s W->Below W.heap.size W W'->J s W'):=hJb;have hY:Hid (∀s x W,J s W->yav x->Bd s->YieldAt Fence.wide 1 D l #[x.val] W fun e W'=>e=M (H kH)/\J (s.next x) W'):=hY;have hq:Hid (∀j,j<len->(∃b o,ad=R ⟨b,o,B⟩/\b<w.heap.size/\¬F0 b/\j9 w b (o+j*9) (q j))/\jo (q j)):=hq;have hJ0:Hid (J s0 W1):=h0;have hbs:Bs<w.heap.size:=d _ _ hBs;have c1:W1.cell? ⟨Bs,0,B⟩=R (T ad len cap):=((hI.out _ _ h0).1.cell (a:=⟨Bs,0,B⟩) hbs nBs).trans hBs;clear h0 hBs;refine callsIn_of_wp Tryz.func129 rfl trivial ?_ rfl;simp only[Tryz.ntmps129,kU,kK,kP,kF,kL,kY,kT,kO,kV,kE,kX]
 gi_wp2
 gi_loopw [7] (fun i wr=>∃k:Nat,k<=len/\i=S C k/\Hid (J (s0.upto (fun j=>(q j).sx) k) wr)) (fun i _=>len-(intOf i).toNat)
 case atStart=>exact⟨0,kW _,rfl,hJ0.out⟩
 case round=>
  obtain⟨k,hk,rfl,HJ⟩:=hrel;clear hJ0 c1
  by_cases hlt:k<len
  ·obtain⟨⟨xb,xo,rfl,hxl,nx,hx⟩,fx⟩:=hq.out k hlt
   have hbt:=(hI.out _ _ HJ.out).1;have cc:∀p v,w.cell? ⟨xb,p,B⟩=R v->wr.cell? ⟨xb,p,B⟩=R v:=fun p v hv=>(hbt.cell (a:=⟨xb,p,B⟩) hxl nx).trans hv;obtain⟨x0,x1,x2,x3,x4,x5,x6,x7,x8⟩:=hx;have x0:=cc _ _ x0;have x1:=cc _ _ x1;have x2:=cc _ _ x2;have x3:=cc _ _ x3;have x4:=cc _ _ x4;have x5:=cc _ _ x5;have x6:=cc _ _ x6;have x7:=cc _ _ x7;have x8:=cc _ _ x8;clear cc hbt
   have bd:Hid (Bd (s0.upto (fun j=>(q j).sx) k)):=by
    have h1:=Pg.Trs.yli s0 (fun j=>(q j).sx) k;have h2:=Pg.Trs.yiX s0 (fun j=>(q j).sx) k;rw[hE]at h2;simp only[kP]at h2;exact⟨by omega,by omega,by omega⟩
   have i0:(0:Int)<=(k:Int):=by omega
   have i1:(k:Int)<(len:Int):=by omega
   have HX:Hid (∀W o,W=wr.alloc o->YieldAt Fence.wide 1 D l #[(q k).sx.val] W fun e W'=>e=M (H kH)/\J (s0.upto (fun j=>(q j).sx) (k+1)) W'):=fun W o hW=>hY.out _ _ W (by rw[hW];exact hJb.out _ _ _ HJ.out (zA (zR _) _)) fx bd.out;generalize hs1:s0.upto (fun j=>(q j).sx) (k+1)=s1 at*;have HS1:Hid (s0.upto (fun j=>(q j).sx) (k+1)=s1):=hs1;clear hq hs1;generalize (q k)=x at*;obtain⟨kd,cr,⟨mp,ms,mf,mr⟩,xq,xk,xu⟩:=x;simp only[Bst.sx,Pg.Sx.val]at HX x0 x1 x2 x3 x4 x5 x6 x7 x8;obtain⟨fn,tmps,assign,body,hy,hR⟩:=HX.out _ (U #[S C kd,S C cr,S C mp,S C ms,S C mf,S C mr,S C xq,S C xk,H xu] 43) rfl;clear HX
   gi_wp2
   refine hR.mono ?_;rintro e W3 ⟨rfl,hJ3⟩;have HJ3:Hid (J s1 W3):=hJ3;clear hJ3 x0 x1 x2 x3 x4 x5 x6 x7 x8
   gi_wp2
   go_roundw
   case rel=>exact⟨k+1,by omega,by go_num,by rw[HS1.out];exact HJ3.out⟩
   case measure=>simp[intOf];omega
  ·have hk:k=len:=by omega
   have i1:¬(k:Int)<(len:Int):=by omega
   gi_wp2
   go_end0
   exact⟨⟨_,rfl⟩,by rw[<-hk];exact HJ.out⟩
end Go.Proofs.YtdphiompijbelaaGreat
namespace Go.Proofs.YtdphiompijbelaaGreat
open Go.RowKit Go.Sort
attribute [local go_sem] Loose.gent
theorem ye0 (co n:Int) (ad:Option Addr) (len cap:Nat) (w:V) (hbad:co<1\/4<co\/n<1\/128<n):
 Calls D 37 #[S C co,S C n,T ad len cap] w fun e w'=>e=M (kS #[T B 0 0,kD #[S C 1,S C (-1)]])/\Below w.heap.size w w':=by
 have HN:=fun w=>ye5 co n w hbad;clear hbad
 go_enter Tryz.func37,Tryz.ntmps37
 go_wp2_with fail
 refine(HN _).mono ?_;rintro e w1 ⟨rfl,hb1⟩;have r0:w1.cell? ⟨w.heap.size,0,B⟩=R (S C 0):=(hb1.cell (p:=⟨w.heap.size,0,B⟩) (by simp)).trans (by simp[go_sem]);have r1:w1.cell? ⟨w.heap.size,1,B⟩=R (S C 0):=(hb1.cell (p:=⟨w.heap.size,1,B⟩) (by simp)).trans (by simp[go_sem]);have rz:∀p,w1.frozen? ⟨w.heap.size,p,B⟩=y:=fun p=>(hb1.frozen (p:=⟨w.heap.size,p,B⟩) (by simp)).trans (by simp[go_sem])
 have hs:w.heap.size<w1.heap.size:=by have:=hb1.size;simp at this;omega
 have HB:Hid (Below w.heap.size w w1):=zT (zA (zR w) _) hb1
 have n1:w.heap.size≠w1.heap.size:=by omega
 have n2:w1.heap.size≠w.heap.size:=by omega
 clear hb1 HN
 go_wp2_with fail
 go_region
 all_goals
  go_wp2_with fail
  refine bodyPost_ret (v:=kS #[T B 0 0,kD #[S C 1,S C (-1)]]) ?_ rfl ⟨rfl,?_⟩
  ·simp[results,Tryz.results37,go_sem,r0,r1,hs,n1,n2]
  ·repeat (first|exact HB.out|exact(HB.out.setCell (p:=⟨w.heap.size,0,B⟩) (kR _) _).setCell (p:=⟨w.heap.size,1,B⟩) (kR _) _|refine Below.drew ?_|refine zA ?_ _)
theorem yd3 (co n:Nat) (ad:Option Addr) (len cap:Nat) (w:V) (h1:1<=co) (h4:co<=4) (h2:1<=n) (h3:n<=128) (hl:2000<len):
 Calls D 37 #[S C co,S C n,T ad len cap] w fun e w'=>e=M (kS #[T B 0 0,kD #[S C 10,S C (-1)]])/\Below w.heap.size w w':=by
 have HN:=fun w=>ych co n w h1 h4 h2 h3;clear h1 h4 h2 h3
 go_enter Tryz.func37,Tryz.ntmps37
 go_wp2_with fail
 refine(HN _).mono ?_;rintro e w1 ⟨b,F,rfl,t1,hb1,hF1⟩;have r0:w1.cell? ⟨w.heap.size,0,B⟩=R (S C 0):=(hb1.cell (p:=⟨w.heap.size,0,B⟩) (by simp)).trans (by simp[go_sem]);have r1:w1.cell? ⟨w.heap.size,1,B⟩=R (S C 0):=(hb1.cell (p:=⟨w.heap.size,1,B⟩) (by simp)).trans (by simp[go_sem]);have rz:∀p,w1.frozen? ⟨w.heap.size,p,B⟩=y:=fun p=>(hb1.frozen (p:=⟨w.heap.size,p,B⟩) (by simp)).trans (by simp[go_sem])
 have hs:w.heap.size<w1.heap.size:=by have:=hb1.size;simp at this;omega
 have HB:Hid (Below w.heap.size w w1):=zT (zA (zR w) _) hb1
 have n1:w.heap.size≠w1.heap.size:=by omega
 have n2:w1.heap.size≠w.heap.size:=by omega
 have i1:(2000:Int)<(len:Int):=by omega
 clear hb1 HN t1 hF1
 go_wp2_with fail
 refine bodyPost_ret (v:=kS #[T B 0 0,kD #[S C 10,S C (-1)]]) ?_ rfl ⟨rfl,?_⟩
 ·simp[results,Tryz.results37,go_sem,r0,r1,hs,n1,n2]
 ·repeat (first|exact HB.out|exact(HB.out.setCell (p:=⟨w.heap.size,0,B⟩) (kR _) _).setCell (p:=⟨w.heap.size,1,B⟩) (kR _) _|refine Below.drew ?_|refine zA ?_ _)
theorem ycc (co n:Nat) {ad:Option Addr} {len cap:Nat} {q:Nat->Bst} (w:V) (h1:1<=co) (h4:co<=4) (h2:1<=n) (h3:n<=128) (hl:len<=2000)
 (hq:∀j,j<len->(∃b o,ad=R ⟨b,o,B⟩/\b<w.heap.size/\j9 w b (o+j*9) (q j))/\jo (q j)):
 Calls D 37 #[S C co,S C n,T ad len cap] w fun e w'=>∃ae ce,len<=ce/\e=M (kS #[T ae len ce,kD #[S C 0,S C 0]])/\qc w' ae ((Pg.Trs.new co n).upto (fun j=>(q j).sx) len).E/\Below w.heap.size w w':=by
 have HN:=fun w=>ych co n w h1 h4 h2 h3;clear h1 h4 h2 h3;have HQ:Hid (∀j,j<len->(∃b o,ad=R ⟨b,o,B⟩/\b<w.heap.size/\j9 w b (o+j*9) (q j))/\jo (q j)):=hq;clear hq
 go_enter Tryz.func37,Tryz.ntmps37
 go_wp2_with fail
 refine(HN _).mono ?_;rintro e w1 ⟨b,F,rfl,t1,hb1,hF1⟩;have r0:w1.cell? ⟨w.heap.size,0,B⟩=R (S C 0):=(hb1.cell (p:=⟨w.heap.size,0,B⟩) (by simp)).trans (by simp[go_sem]);have r1:w1.cell? ⟨w.heap.size,1,B⟩=R (S C 0):=(hb1.cell (p:=⟨w.heap.size,1,B⟩) (by simp)).trans (by simp[go_sem]);have rz:∀p,w1.frozen? ⟨w.heap.size,p,B⟩=y:=fun p=>(hb1.frozen (p:=⟨w.heap.size,p,B⟩) (by simp)).trans (by simp[go_sem])
 have hs:w.heap.size<w1.heap.size:=by have:=hb1.size;simp at this;omega
 have n1:w.heap.size≠w1.heap.size:=by omega
 have n2:w1.heap.size≠w.heap.size:=by omega
 have i1:¬(2000:Int)<(len:Int):=by omega
 obtain⟨W2,hW2⟩:∃W2,W2=w1.alloc (U #[S C 0,S C 0] 27):=⟨_,rfl⟩
 have hb2:Below w1.heap.size w1 W2:=by rw[hW2];exact zA (zR _) _
 have f0:W2.cell? ⟨w1.heap.size,0,B⟩=R (S C 0):=by rw[hW2];simp[go_sem]
 have f1:W2.cell? ⟨w1.heap.size,1,B⟩=R (S C 0):=by rw[hW2];simp[go_sem]
 have hB2:Below w.heap.size w W2:=zT (zT (zA (zR w) _) hb1) hb2
 have hF:∀k,F k->w.heap.size<k:=fun k hk=>by have:=hF1 k hk;simp at this;omega
 have r0:=cell_later hb2 r0;have r1:=cell_later hb2 r1;have rz:∀p,W2.frozen? ⟨w.heap.size,p,B⟩=y:=fun p=>(hb2.frozen (p:=⟨w.heap.size,p,B⟩) hs).trans (rz p);have T2:=t1.grow hb2;obtain⟨W3,hW3⟩:∃W3,W3=W2.alloc (U #[T ad len cap] 22):=⟨_,rfl⟩
 have hb3:Below W2.heap.size W2 W3:=by rw[hW3];exact zA (zR _) _
 have hB3:Below w.heap.size w W3:=zT hB2 hb3
 have sv:W3.cell? ⟨W2.heap.size,0,B⟩=R (T ad len cap):=by rw[hW3];simp[go_sem]
 have SEQ:=yce (b:=b) (F0:=F) (w:=W3) (q:=q) (s0:=Pg.Trs.new co n) rfl ⟨by simp[Pg.Trs.new],by simp[Pg.Trs.new]⟩ hl sv (fun e=>by have:=T2.lt e;omega) fun j hj=>by
  obtain⟨⟨xb,xo,e,hx,hc⟩,hf⟩:=HQ.out j hj;refine⟨⟨xb,xo,e,kZ hx hB3.size,fun e=>by have:=hF xb e;omega,?_⟩,hf⟩;obtain⟨x0,x1,x2,x3,x4,x5,x6,x7,x8⟩:=hc;exact⟨(hB3.cell (p:=⟨xb,_,B⟩) hx).trans x0,(hB3.cell (p:=⟨xb,_,B⟩) hx).trans x1,(hB3.cell (p:=⟨xb,_,B⟩) hx).trans x2,(hB3.cell (p:=⟨xb,_,B⟩) hx).trans x3,(hB3.cell (p:=⟨xb,_,B⟩) hx).trans x4,(hB3.cell (p:=⟨xb,_,B⟩) hx).trans x5,(hB3.cell (p:=⟨xb,_,B⟩) hx).trans x6,(hB3.cell (p:=⟨xb,_,B⟩) hx).trans x7,(hB3.cell (p:=⟨xb,_,B⟩) hx).trans x8⟩
 have EV:=ycb W3 (s0:=Pg.Trs.new co n) (T2.grow hb3) rfl (enters_of Tryz.func129 (by kernel_rfl) rfl) SEQ
 have hs2:w.heap.size<W2.heap.size:=by have:=hb2.size;omega
 have r0':=cell_later hb3 r0;have r1':=cell_later hb3 r1;have rz':∀p,W3.frozen? ⟨w.heap.size,p,B⟩=y:=fun p=>(hb3.frozen (p:=⟨w.heap.size,p,B⟩) hs2).trans (rz p);have HB3:Hid (Below w.heap.size w W3):=hB3;have HF:Hid (∀k,F k->w.heap.size<k):=hF;clear hb1 HN t1 hF1 SEQ T2 hB2 hB3 hF HQ sv hb2
 go_upto_region 2 with fail
 rw[<-hW2];clear hW2
 go_wp2_with fail
 refine(ycd ad len cap W2).mono ?_;rintro e w3 ⟨rfl,hw3⟩;rw[<-hW3]at hw3;subst w3;clear r0 r1 rz f0 f1 hb3 hW3
 go_wp2_with fail
 refine EV.mono ?_;have hlE:=Pg.Trs.yiX (Pg.Trs.new co n) (fun j=>(q j).sx) len;rw[show(Pg.Trs.new co n).E.length+len=len by simp[Pg.Trs.new]]at hlE;generalize hsE:((Pg.Trs.new co n).upto (fun j=>(q j).sx) len)=sE at*;have HSE:Hid (((Pg.Trs.new co n).upto (fun j=>(q j).sx) len)=sE):=hsE;clear hsE;rintro e w4 ⟨s,ae,ce,rfl,hce,rfl,he4,hb4,_,_,_,ge⟩;rw[hlE]at hce ⊢;have HCE:Hid (len<=ce):=hce;clear hce;have hs3:w.heap.size<W3.heap.size:=d _ _ r0'
 have nf:¬F w.heap.size:=fun e=>by have:=HF.out _ e;omega
 have r0:=(hb4.cell (a:=⟨w.heap.size,0,B⟩) hs3 nf).trans r0';have r1:=(hb4.cell (a:=⟨w.heap.size,1,B⟩) hs3 nf).trans r1';have rz:∀p,w4.frozen? ⟨w.heap.size,p,B⟩=y:=fun p=>(hb4.frozen (a:=⟨w.heap.size,p,B⟩) hs3 nf).trans (rz' p);have hs4:w.heap.size<w4.heap.size:=d _ _ r0;have FIN:Hid (∀Wf,But (fun k=>k=w.heap.size) w4 Wf->qc Wf ae s.E/\Below w.heap.size w Wf):=fun Wf hb=>⟨he4.but hb fun g hg e=>by have:=(ge g hg).1;omega,(HB3.out.trans (hb4.below HB3.out.size fun k hk=>kG (HF.out k hk))).trans (hb.below (kG hs4) fun k e=>by omega)⟩;clear he4 hb4 ge r0' r1' rz' hs3 nf EV
 go_wp2_with fail
 refine bodyPost_ret (v:=kS #[T ae len ce,kD #[S C 0,S C 0]]) ?_ rfl ⟨ae,ce,HCE.out,rfl,by rw[HSE.out];exact FIN.out _ (by exact(xI w4 _ _ _).trans (xI _ _ _ _) fun _ _ e=>e)⟩;simp[results,Tryz.results37,go_sem,r0,r1,hs4]
namespace Pg
def bgT:Nat->Bst
 | 0=>⟨1,0,⟨5,0,9,0⟩,0,0,y⟩
 | 1=>⟨4,0,⟨0,0,0,0⟩,5,0,y⟩
 | _=>⟨5,1,⟨0,0,0,0⟩,0,0,y⟩
theorem bt_E:((Trs.new 1 4).upto (fun j=>(bgT j).sx) 3).E=[⟨0,y,0,0,0,kH⟩,⟨0,y,0,0,0,y⟩,⟨1,y,0,0,0,y⟩]:=by kernel_rfl
end Pg
theorem yap (w:V):Calls D 36 #[] w fun e w'=>e=M (H kH)/\Below w.heap.size w w':=by
 obtain⟨W,hW⟩:∃W,W=w.alloc (U #[S C 1,S C 0,S C 5,S C 0,S C 9,S C 0,S C 0,S C 0,H y,S C 4,S C 0,S C 0,S C 0,S C 0,S C 0,S C 5,S C 0,H y,S C 5,S C 1,S C 0,S C 0,S C 0,S C 0,S C 0,S C 0,H y] 43):=⟨_,rfl⟩
 have hB:Below w.heap.size w W:=by rw[hW];exact zA (zR _) _
 have hs:w.heap.size<W.heap.size:=by rw[hW];simp
 have HR:=ycc 1 4 (ad:=R ⟨w.heap.size,0,B⟩) (len:=3) (cap:=3) (q:=Pg.bgT) W (by decide) (by decide) (by decide) (by decide) (by decide) fun j hj=>by
  have f0:Pg.fits 0:=by unfold Pg.fits;omega
  have f5:Pg.fits 5:=by unfold Pg.fits;omega
  have f9:Pg.fits 9:=by unfold Pg.fits;omega
  obtain rfl|rfl|rfl:j=0\/j=1\/j=2:=by omega
  ·exact⟨⟨_,_,rfl,hs,by unfold j9;rw[hW];simp[Pg.bgT,go_sem]⟩,f5,f0,f9,f0,f0,f0⟩
  ·exact⟨⟨_,_,rfl,hs,by unfold j9;rw[hW];simp[Pg.bgT,go_sem]⟩,f0,f0,f0,f0,f5,f0⟩
  ·exact⟨⟨_,_,rfl,hs,by unfold j9;rw[hW];simp[Pg.bgT,go_sem]⟩,f0,f0,f0,f0,f0,f0⟩
 rw[Pg.bt_E]at HR;simp only[show((1:Nat):Int)=1 from rfl,show((4:Nat):Int)=4 from rfl]at HR
 go_enter Tryz.func36,Tryz.ntmps36
 go_wp2_with fail
 rw[<-hW];refine HR.mono ?_;rintro e w1 ⟨ae,ce,_,rfl,he,hb1⟩;obtain⟨g,rfl,hg,a0,a1,a2,a3,a4,a5⟩:=he 0 (by decide);obtain⟨g',e',_,b0,b1,b2,b3,b4,b5⟩:=he 1 (by decide);obtain⟨g'',e'',_,c0,c1,c2,c3,c4,c5⟩:=he 2 (by decide);cases e';cases e'';simp only[List.getD,List.getElem?_cons_zero,List.getElem?_cons_succ,Option.getD_some,Nat.reduceMul,kF,Nat.zero_mul,Nat.one_mul]at a0 a1 a2 a3 a4 a5 b0 b1 b2 b3 b4 b5 c0 c1 c2 c3 c4 c5;have HB:Hid (Below w.heap.size w w1):=zT hB hb1
 have ng:g≠w1.heap.size:=by omega
 have ng':w1.heap.size≠g:=by omega
 clear hb1 he hB hW HR hs
 go_wp2_with fail
 go_ret
 exact⟨rfl,zA HB.out _⟩
end Go.Proofs.YtdphiompijbelaaGreat
