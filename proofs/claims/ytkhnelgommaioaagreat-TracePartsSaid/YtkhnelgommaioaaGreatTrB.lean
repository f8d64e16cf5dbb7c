import Derived.Test.YtkhnelgommaioaaGreatHeap
import Derived.RangeFuncNested
import Derived.RangeFuncBound
import Derived.RangeFuncLeaves
import Derived.Test.YtkhnelgommaioaaGreatWtH
import Derived.OwnWalkIn
import Derived.TacticsInMore
import Derived.LoopNIn
import Derived.LoopIn
import Derived.Shelf.Abstract
import Derived.WalkKit
namespace Go.Proofs.YtkhnelgommaioaaGreat
open Go.RowKit Go.Sort
set_option linter.unusedVariables false
theorem But.putObj {F:Nat->Prop} {w w1:World} (h:But F w w1) {l:Nat} (hl:w.heap.size<=l\/F l) (o:Obj):But F w (w1.putObj l o):=
 ⟨h.os,h.tape,h.output,Nat.le_trans h.size (by simp),fun i hi hF=>(World.putObj_heap_other (fun e=>by subst e;exact hl.elim (fun h=>by omega) hF)).trans (h.block i hi hF)⟩
def twoOf (w:World):Nat->Prop:=fun k=>k=w.heap.size\/k=w.heap.size+1
theorem wpIn_range {F:Fence} {n:Nat} {P:Program} {σ:Type} {g:Operand} {ps:Array Tmp} {assign body:Code} {Q:Exit->Act->World->Prop} {a:Act} {w:World}
 (hro:F.round=none) (h1:1<=n) {gf:Nat} {lb:Array Value} (hg:a.eval g= .func (.func gf) #[] lb) (hFg:F.fn gf) (eg:∀args w,(callFunc gf args).run P w= .ok (.enter gf args) w)
 (I:σ->World->Prop) (Y:σ->Array Value->σ->Prop) (Fin:σ->Prop) (hps:∀s x s',Y s x s'->x.size=ps.size)
 (hI:∀s W W',I s W->But (twoOf w) W W'->I s W') (s0:σ) (h0:I s0 w)
 (hseq:∀(J:σ->World->Prop) (W1:World),(∀s W,J s W->I s W)->(∀s W W',J s W->Below W.heap.size W W'->J s W')->
   (∀s x s' W,J s W->Y s x s'->YieldAt F (n-1-1) P (w.heap.size+1) x W fun e W'=>e= .returned (.bool true)/\J s' W')->J s0 W1->
   CallsIn F (n-1) P gf (#[.func (.yield (w.heap.size+1)) #[] #[]]++lb) W1 fun e W'=>(∃v,e= .returned v)/\∃s,Fin s/\J s W')
 (Ax:Array Value->Act->World->Prop) (hAx:∀x a' W W',Ax x a' W->But (twoOf w) W W'->Ax x a' W')
 (hassign:∀(l:Nat) s x s' (W:World) (K:Act->World->Prop),I s W->Y s x s'->w.heap.size+1<W.heap.size->(∀a' W',Below W.heap.size W W'->Ax x a' W'->K a' W')->
   assign.wpIn (F.inRound l) (n-1-1) P (Exit.then K (fun _ _ _=>False)) {tmps:=(ps.zip x).foldl (fun t (p,v)=>t.setIfInBounds p v) a.tmps,defers:=[]} W)
 (hbody:∀(l:Nat) s x s' (a':Act) (W:World),I s W->Y s x s'->Ax x a' W->w.heap.size+1<W.heap.size->
   body.wpIn (F.inRound l) (n-1-1) P (fun e _ W'=>e= .normal/\W'.heap[w.heap.size]?=W.heap[w.heap.size]?/\W'.heap[w.heap.size+1]?=W.heap[w.heap.size+1]?/\I s' W') a' W)
 (hdone:∀s (W:World),Fin s->I s W->W.heap[w.heap.size]?=some (.deferred (some []))->Q .normal {a with defers:={target:= .collected w.heap.size,args:=#[]}::a.defers} W):
 (Code.rangeFunc g ps assign body).wpIn F n P Q a w:=by
 refine wpIn_rangeFunc ?_
 intro fn hfn
 rw[hro]
 obtain⟨rec,hrec⟩:∃rec:LoopState->Option Code->Loop,rec=fun st pe=>{state:=st,pending:=pe,fn,tmps:=a.tmps,params:=ps,assign,body,defers:=w.heap.size}:=⟨_,rfl⟩
 obtain⟨W1,hW1⟩:∃W1,(w.alloc (.deferred (some []))).alloc (.loop (rec .ready none))=W1:=⟨_,rfl⟩
 have hL1:W1.heap[w.heap.size+1]?=some (.loop (rec .ready none)):=by
  rw[<-hW1];have:=World.alloc_heap_new (w.alloc (.deferred (some []))) (.loop (rec .ready none));rwa [World.size_alloc]at this
 have hK1:W1.heap[w.heap.size]?=some (.deferred (some [])):=by
  rw[<-hW1];exact(Below.heap_alloc _ _ _ (by simp)).trans (World.alloc_heap_new w _)
 have hI1:I s0 W1:=hI _ _ _ h0 (by rw[<-hW1];exact((But.refl _ w).alloc _).alloc _)
 have hB:∀{W W':World},Below W.heap.size W W'->w.heap.size+1<W.heap.size->W'.heap[w.heap.size+1]?=W.heap[w.heap.size+1]?/\W'.heap[w.heap.size]?=W.heap[w.heap.size]?:=fun h hl=>⟨h.block _ hl,h.block _ (by omega)⟩
 refine⟨w.heap.size+1,[{target:= .collected w.heap.size,args:=#[]}],W1,{target:= .fn (.func gf) lb,args:=#[.func (.yield (w.heap.size+1)) #[] #[]]},W1,gf,
  #[.func (.yield (w.heap.size+1)) #[] #[]]++lb,W1,?_,?_,?_,?_,fun _=>h1,?_⟩
 ·rw[<-hW1,hrec];exact run_enterLoop_outer _ _ _ _ _
 ·simp only[resolve,hg]
  simp[go_sem]
 ·intro f' hf';simp[Target.leads]at hf';subst hf';exact hFg
 ·simp[invoke,go_sem,eg]
 ·refine(hseq (fun s W=>I s W/\W.heap[w.heap.size+1]?=some (.loop (rec .ready none))/\W.heap[w.heap.size]?=some (.deferred (some []))) W1 (fun _ _ h=>h.1)
   (fun s W W' hs hb=>by
     have hl:=(Array.getElem?_eq_some_iff.1 hs.2.1).1
     exact⟨hI _ _ _ hs.1 (But.of_below hb),(hB hb hl).1.trans hs.2.1,(hB hb hl).2.trans hs.2.2⟩) ?_ ⟨hI1,hL1,hK1⟩).mono ?_
  ·rintro s x s' W ⟨hi,hl,hk⟩ hy'
   have hy:=run_yield (P:=P) (args:=x) hl (by rw[hrec];exact hps _ _ _ hy')
   rw[hrec]at hy
   refine⟨fn,_,assign,body,hy,roundIn_of_wpIn hfn (hassign _ s x s' W _ hi hy' (Array.getElem?_eq_some_iff.1 hl).1 ?_)⟩
   clear hy
   intro a' Wa hba hax
   have hlt:=(Array.getElem?_eq_some_iff.1 hl).1
   replace hi:=hI _ _ _ hi (But.of_below hba)
   obtain⟨e1,e2⟩:=hB hba hlt
   replace hl:=e1.trans hl
   replace hk:=e2.trans hk
   replace hlt:w.heap.size+1<Wa.heap.size:=(Array.getElem?_eq_some_iff.1 hl).1
   refine⟨_,run_beginRound hl (by rw[hrec]),?_⟩
   have hbut:But (twoOf w) Wa (Wa.putObj (w.heap.size+1) (.loop {rec .ready none with state:= .busy})):=(But.refl _ Wa).putObj (.inr (.inr rfl)) _
   have hl2:(Wa.putObj (w.heap.size+1) (.loop {rec .ready none with state:= .busy})).heap[w.heap.size+1]?=some (.loop {rec .ready none with state:= .busy}):=World.putObj_heap_same hlt
   have hk2:(Wa.putObj (w.heap.size+1) (.loop {rec .ready none with state:= .busy})).heap[w.heap.size]?=some (.deferred (some [])):=(World.putObj_heap_other (by omega)).trans hk
   refine wpIn_mono (hbody _ s x s' a' _ (hI _ _ _ hi hbut) hy' (hAx _ _ _ _ hax hbut) (by simpa using hlt)) ?_
   rintro e a3 W3 ⟨rfl,k3,l3,i3⟩
   replace l3:=l3.trans hl2
   have hend:=run_endRound (P:=P) none l3
   refine⟨_,_,hend,rfl,hI _ _ _ i3 ((But.refl _ W3).putObj (.inr (.inr rfl)) _),?_,(World.putObj_heap_other (by omega)).trans (k3.trans hk2)⟩
   rw[World.putObj_heap_same (Array.getElem?_eq_some_iff.1 l3).1,hrec]
   rfl
  ·rintro e W2 ⟨⟨v,rfl⟩,s,hf,hi,hl,hk⟩
   exact⟨none,_,by have:=run_endLoop (P:=P) hl (by rw[hrec];simp);rw[hrec]at this;exact this,hdone _ _ hf (hI _ _ _ hi ((But.refl _ W2).putObj (.inr (.inr rfl)) _)) ((World.putObj_heap_other (by omega)).trans hk)⟩
set_option linter.unusedSimpArgs false
set_option maxRecDepth 100000
namespace Pg
def Ev.zz:Ev:=⟨0,false,0,0,0,false⟩
structure Trs where
 X:Spc
 L:List Mp
 L0:List Mp
 ti:Int
 E:List Ev
namespace Trs
def new (co n:Nat):Trs:=⟨Spc.new co n,[],[],0,[]⟩
def next (s:Trs) (x:Sx):Trs:=⟨s.X.goN x,s.X.nxL s.L x,s.X.nxP s.L s.L0 x,s.ti+s.X.chg x,s.E++[s.X.goE x]⟩
def upto (s:Trs) (q:Nat->Sx):Nat->Trs
 | 0=>s
 | k+1=>(s.upto q k).next (q k)
theorem chg_le (X:Spc) (x:Sx):0<=X.chg x/\X.chg x<=1:=by
 unfold Spc.chg
 split<;>omega
theorem upto_ti (s:Trs) (q:Nat->Sx):∀k,s.ti<=(s.upto q k).ti/\(s.upto q k).ti<=s.ti+k
 | 0=>⟨Int.le_refl _,by simp[upto]⟩
 | k+1=>by
   have:=upto_ti s q k
   have h:=chg_le (s.upto q k).X (q k)
   simp only[upto,next]
   omega
theorem upto_len (s:Trs) (q:Nat->Sx):∀k,(s.upto q k).E.length=s.E.length+k
 | 0=>rfl
 | k+1=>by
   have:=upto_len s q k
   simp only[upto,next,List.length_append,List.length_singleton]
   omega
theorem upto_take (s:Trs) (q:Nat->Sx) (h0:s.E=[]):∀{n k:Nat},k<=n->(s.upto q n).E.take k=(s.upto q k).E
 | 0,k,h=>by
   obtain rfl:k=0:=by omega
   simp[upto,h0]
 | n+1,k,h=>by
   have hl:=upto_len s q n
   rw[h0]at hl
   simp only[List.length_nil]at hl
   by_cases hk:k=n+1
   ·subst hk
    exact List.take_of_length_le (by rw[upto_len,h0];simp)
   ·have ih:=upto_take s q h0 (n:=n) (k:=k) (by omega)
    show((s.upto q n).E++[_]).take k=_
    rw[List.take_append_of_le_length (by omega),ih]
end Trs
end Pg
def evCell (e:Pg.Ev):List Value:=[.int .i64 e.c,.bool e.ended,.int .i64 e.a,.int .i64 e.f,.int .i64 e.r,.bool e.back]
def evCells (L:List Pg.Ev):List Value:=L.flatMap evCell
theorem evCells_push (A:List Pg.Ev) (m:Pg.Ev):evCells (A++[m])=evCells A++evCell m:=by simp[evCells]
theorem evCells_at:∀(L:List Pg.Ev) (j i:Nat),j<L.length->i<6->(evCells L)[j*6+i]?=(evCell (L.getD j .zz))[i]?
 | [],j,_,h,_=>by simp at h
 | x::r,0,i,_,hi=>by
   rw[show evCells (x::r)=evCell x++evCells r by simp[evCells],List.getElem?_append_left (by simp[evCell];omega)]
   simp
 | x::r,j+1,i,h,hi=>by
   have:=evCells_at r j i (by simpa using h) hi
   rw[show evCells (x::r)=evCell x++evCells r by simp[evCells],List.getElem?_append_right (by simp[evCell];omega)]
   rw[show(j+1)*6+i-(evCell x).length=j*6+i by simp[evCell];omega,this]
   simp
def EvAt (w:World) (g o:Nat) (e:Pg.Ev):Prop:=
 w.cell? ⟨g,o,none⟩=some (.int .i64 e.c)/\w.cell? ⟨g,o+1,none⟩=some (.bool e.ended)/\w.cell? ⟨g,o+2,none⟩=some (.int .i64 e.a)/\w.cell? ⟨g,o+3,none⟩=some (.int .i64 e.f)/\w.cell? ⟨g,o+4,none⟩=some (.int .i64 e.r)/\w.cell? ⟨g,o+5,none⟩=some (.bool e.back)
theorem EvAt.of {w w':World} {g o:Nat} {l:Pg.Ev} (h:EvAt w g o l) (hc:∀p,w'.cell? ⟨g,p,none⟩=w.cell? ⟨g,p,none⟩):EvAt w' g o l:=
 ⟨(hc _).trans h.1,(hc _).trans h.2.1,(hc _).trans h.2.2.1,(hc _).trans h.2.2.2.1,(hc _).trans h.2.2.2.2.1,(hc _).trans h.2.2.2.2.2⟩
def EvsAt (w:World) (ad:Option Addr) (E:List Pg.Ev):Prop:=∀j,j<E.length->∃g,ad=some ⟨g,0,none⟩/\g<w.heap.size/\EvAt w g (j*6) (E.getD j .zz)
theorem EvsAt.but {G:Nat->Prop} {w w':World} {ad:Option Addr} {E:List Pg.Ev} (h:EvsAt w ad E) (hb:But G w w') (hG:∀g,ad=some ⟨g,0,none⟩->¬G g):EvsAt w' ad E:=by
 intro j hj
 obtain⟨g,e,hg,hm⟩:=h j hj
 exact⟨g,e,Nat.lt_of_lt_of_le hg hb.size,hm.of fun p=>hb.cell (a:=⟨g,p,none⟩) hg (hG g e)⟩
theorem EvsAt.below {w w':World} {ad:Option Addr} {E:List Pg.Ev} (h:EvsAt w ad E) (hb:Below w.heap.size w w'):EvsAt w' ad E:=h.but (G:=fun _=>False) (But.of_below hb) fun _ _=>id
theorem EvsAt.take {w:World} {ad:Option Addr} {E:List Pg.Ev} (h:EvsAt w ad E) (k:Nat):EvsAt w ad (E.take k):=by
 intro j hj
 rw[List.length_take]at hj
 obtain⟨g,e,hg,hm⟩:=h j (by omega)
 refine⟨g,e,hg,?_⟩
 rw[show(E.take k).getD j Pg.Ev.zz=E.getD j .zz by simp[List.getD,List.getElem?_take];rw[if_pos (by omega)]]
 exact hm
theorem owns_evs {w:World} {base:Nat} {e:TypeId} {ad:Option Addr} {n cap:Nat} {L:List Pg.Ev} (h:w.ownsRow base e 6 (.slice ad n cap) L.length (evCells L)):EvsAt w ad L:=by
 intro j hj
 obtain⟨g,cap',e,_,hg⟩:=h.form (by omega)
 cases e
 have hc:=fun i (hi:i<6)=>(h.cellAt (j*6+i) (by omega)).trans (evCells_at L j i hj hi)
 have h0:=hc 0 (by omega)
 have h1:=hc 1 (by omega)
 have h2:=hc 2 (by omega)
 have h3:=hc 3 (by omega)
 have h4:=hc 4 (by omega)
 have h5:=hc 5 (by omega)
 simp only[evCell,Nat.add_zero]at h0 h1 h2 h3 h4 h5
 exact⟨g,rfl,hg,by simpa using h0,by simpa using h1,by simpa using h2,by simpa using h3,by simpa using h4,by simpa using h5⟩
theorem sameEvents_yes {ad ad':Option Addr} {cap cap':Nat} {L:List Pg.Ev} (w:World) (h:EvsAt w ad L) (h':EvsAt w ad' L) (hl:L.length<=1000000):
 Calls Tryz.prog 39 #[.slice ad L.length cap,.slice ad' L.length cap'] w fun e w'=>e= .returned (.bool true)/\Below w.heap.size w w':=by
 have HA:Hid (EvsAt w ad L):=h
 have HB:Hid (EvsAt w ad' L):=h'
 clear h h'
 go_enter Tryz.func39,Tryz.ntmps39
 go_wp2_with fail
 go_loopw [5] (fun i wr=>∃j:Nat,j<=L.length/\i= .int .i64 j/\Hid (Below w.heap.size w wr)) (fun i _=>L.length-(intOf i).toNat)
 case atStart=>exact⟨0,by omega,rfl,zR _⟩
 case round=>
  obtain⟨j,hj,rfl,HR⟩:=hrel
  have i0:(0:Int)<=(j:Int):=by omega
  by_cases hlt:j<L.length
  ·obtain⟨g,rfl,hg,hm⟩:=EvsAt.below HA.out HR.out j hlt
   obtain⟨g',rfl,hg',hm'⟩:=EvsAt.below HB.out HR.out j hlt
   obtain⟨k0,k1,k2,k3,k4,k5⟩:=hm
   obtain⟨m0,m1,m2,m3,m4,m5⟩:=hm'
   have i1:(j:Int)<(L.length:Int):=by omega
   have fin:Hid (∀nq,Below w.heap.size w (wr.drewN nq)):=fun nq=>zT HR.out (below_drewN (zR _) nq)
   generalize L.getD j .zz=x at*
   obtain⟨ec,en,ea,ef,er,eb⟩:=x
   simp only at k0 k1 k2 k3 k4 k5 m0 m1 m2 m3 m4 m5
   go_wp2_with fail
   go_quiet (fail)
   go_wp2_with fail
   go_roundw
   case rel=>exact⟨j+1,by omega,by go_num,fin.out _⟩
   case measure=>simp[intOf];omega
  ·have i1:¬(j:Int)<(L.length:Int):=by omega
   go_wp2_with fail
   go_ret
   exact⟨rfl,HR.out⟩
attribute [local go_sem] Oper.semAt_some
theorem wpListIn_append_lies {F:Fence} {n':Nat} {P:Program} (w:World) {ops:Array Oper} {rest:List Oper} {o:Oper} {a:Act} {Q:Exit->Act->World->Prop} (hgd:o.guard=none) (s x:Operand) (t:TypeId)
 (ho:o.op= .call {callee:= .builtin .append,args:=#[s,x],argTypes:=#[t,t]})
 (base:Nat) (e:TypeId) (i:TypeInfo) (z:Value) (size bytes:Nat) (ht:P.underlying t=some (.slice e)) (hi:P.info? e=some i) (hz:i.zero=some z)
 (hsize:i.size=size) (hby:i.bytes=bytes) (hzs:z.cells.size=size) (hsz:0<size)
 (v:Value) (n:Nat) (xs:List Value) (hs:a.eval s=v) (hown:w.ownsRow base e size v n xs)
 (ad:Addr) (m c:Nat) (news:List Value) (hx:a.eval x= .slice (some ad) m c) (hl:news.length=m*size) (hnews:∀j u,news[j]?=some u->w.cell? (ad.add j)=some u) (h1:∀u ∈ news,u.oneCell'=true)
 (hm:0<m) (h63:n+m<=maxLen) (hbytes:(n+m)*bytes<=140737488355328) (hbase:base<=w.heap.size)
 (h:∀g cap w',w'.ownsRow base e size (.slice (some ⟨g,0,none⟩) (n+m) cap) (n+m) (xs++news)->w.grownBy w' v.ownBlock->(v.ownBlock=some g\/g=w.heap.size)->g<w'.heap.size->wpListIn F n' P ops Q rest (a.put o.dst (.slice (some ⟨g,0,none⟩) (n+m) cap)) w'):wpListIn F n' P ops Q (o::rest) a w:=by
 refine wpListIn_plain hgd fun K hK'=> ?_
 obtain⟨g,cap,w',hr,h2,h3,h4,h5⟩:=run_append_lies (P:=P) w t o.type base e i z size bytes ht hi hz hsize hby hzs hsz v n xs hown ad m c news hl hnews h1 hm h63 hbytes hbase _ rfl
 unfold Oper.wpIn
 refine⟨?_,?_⟩
 ·simp[Oper.about,ho,resolve,Target.leads,Sem.run_pure]
 ·rw[Oper.semAt_plain F _ _ (by rw[ho];intro c hc';cases hc')]
  simp[execOp,ho,resolve,invoke,builtin,hs,hx,hr,Result.andThen]
  exact hK' _ _ (h g cap w' h2 h3 h4 h5)
def Bd (s:Pg.Trs):Prop:=0<=s.ti/\s.ti<=100000/\s.E.length<=100000
def Seq (b:Nat) (F0:Nat->Prop) (w:World) (s0:Pg.Trs) (gf:Nat) (lb:Array Value) (Fin:Pg.Trs->Prop):Prop:=
 ∀(l:Nat) (J:Pg.Trs->World->Prop) (W1:World),(∀s W,J s W->But F0 w W/\∃F,WtAt W b s.X s.L s.L0 s.ti F)->(∀s W W',J s W->Below W.heap.size W W'->J s W')->
  (∀s x W,J s W->SxFits x->Bd s->YieldAt Fence.wide 1 Tryz.prog l #[x.val] W fun e W'=>e= .returned (.bool true)/\J (s.next x) W')->J s0 W1->
  CallsIn Fence.wide 2 Tryz.prog gf (#[.func (.yield l) #[] #[]]++lb) W1 fun e W'=>(∃v,e= .returned v)/\∃s,Fin s/\J s W'
structure EvI (w:World) (b:Nat) (F0:Nat->Prop) (s:Pg.Trs) (W:World):Prop where
 b0:W.heap[w.heap.size]?=some (.cells #[.pointer (some ⟨b,0,none⟩)] 75 (0,0))
 b1:Boxed W (w.heap.size+1) 92 (.slice none 0 0)
 b2:W.heap[w.heap.size+2]?=some (.cells #[.int .i64 0,.int .i64 0] 27 (0,0))
 ex:∃F v,WtAt W b s.X s.L s.L0 s.ti F/\(∀k,F k->F0 k\/w.heap.size+6<=k)/\Boxed W (w.heap.size+3) 92 v/\W.ownsRow (w.heap.size+6) 36 6 v s.E.length (evCells s.E)/\∀k,v.ownBlock=some k->¬F k
 but:But F0 w W
 lt:∀k,F0 k->k<w.heap.size
theorem EvI.keep {w W W':World} {b:Nat} {F0:Nat->Prop} {s:Pg.Trs} (h:EvI w b F0 s W) (hb:But (fun k=>k=w.heap.size+4\/k=w.heap.size+5) W W'):EvI w b F0 s W':=by
 obtain⟨F,v,hw,hF,hv,hr,hn⟩:=h.ex
 have blk:∀(k:Nat) o,k<w.heap.size+4->W.heap[k]?=some o->W'.heap[k]?=some o:=fun k o hk ho=>(hb.block k (Array.getElem?_eq_some_iff.1 ho).1 (by omega)).trans ho
 refine⟨blk _ _ (by omega) h.b0,blk _ _ (by omega) h.b1,blk _ _ (by omega) h.b2,⟨F,v,hw.keep hb fun k hk e=> ?_,hF,blk _ _ (by omega) hv,ownsMaps_but hr hb fun k hk e=> ?_,hn⟩,h.but.trans hb fun i hi e=>by omega,h.lt⟩
 ·rcases hF k hk with hk|hk
  ·have:=h.lt k hk
   omega
  ·omega
 ·have:=(hr.lt k hk).1
  omega
theorem EvI.more {w W w1 W2 w3:World} {b g cap:Nat} {F0 F F1:Nat->Prop} {s s1:Pg.Trs} {v:Value} {e:Pg.Ev} {tmp:Obj} (h:EvI w b F0 s W) (hWs:w.heap.size+6<=W.heap.size) (hF:∀k,F k->F0 k\/w.heap.size+6<=k) (hb1:But F W w1) (hb2:Below w1.heap.size w1 W2)
 (h1:WtAt W2 b s1.X s1.L s1.L0 s1.ti F1) (hF1:∀k,F1 k->F k\/W.heap.size<=k) (hn1:∀k,v.ownBlock=some k->¬F1 k) (hr:W2.ownsRow (w.heap.size+6) 36 6 v s.E.length (evCells s.E)) (hE:s1.E=s.E++[e])
 (hown:w3.ownsRow (w.heap.size+6) 36 6 (.slice (some ⟨g,0,none⟩) (s.E.length+1) cap) (s.E.length+1) (evCells s.E++evCell e)) (hgrow:(W2.alloc tmp).grownBy w3 v.ownBlock) (hat:v.ownBlock=some g\/g=(W2.alloc tmp).heap.size) (hv3:Boxed w3 (w.heap.size+3) 92 v):
 (w3.setCell ⟨w.heap.size+3,0,none⟩ (.slice (some ⟨g,0,none⟩) (s.E.length+1) cap)).heap[w.heap.size+4]?=W.heap[w.heap.size+4]?/\(w3.setCell ⟨w.heap.size+3,0,none⟩ (.slice (some ⟨g,0,none⟩) (s.E.length+1) cap)).heap[w.heap.size+5]?=W.heap[w.heap.size+5]?/\
 EvI w b F0 s1 (w3.setCell ⟨w.heap.size+3,0,none⟩ (.slice (some ⟨g,0,none⟩) (s.E.length+1) cap)):=by
 have hv2:∀k,v.ownBlock=some k->w.heap.size+6<=k:=fun k hk=>(hr.lt k hk).1
 have hB3:But (fun k=>v.ownBlock=some k) W2 w3:=((But.refl _ W2).alloc tmp).grown hgrow fun j hj=> .inr hj
 have hBf:But (fun k=>k=w.heap.size+3\/v.ownBlock=some k) W2 (w3.setCell ⟨w.heap.size+3,0,none⟩ (.slice (some ⟨g,0,none⟩) (s.E.length+1) cap)):=(hB3.mono fun i _ e=> .inr e).setCell (.inr (.inl rfl)) _
 have s1:=hb1.size
 have s2:=hb2.size
 have nF:∀k,F k->k<w.heap.size\/w.heap.size+6<=k:=fun k hk=>(hF k hk).imp (h.lt k) id
 have blk:∀k,w.heap.size<=k->k<w.heap.size+6->k≠w.heap.size+3->(w3.setCell ⟨w.heap.size+3,0,none⟩ (.slice (some ⟨g,0,none⟩) (s.E.length+1) cap)).heap[k]?=W.heap[k]?:=fun k k1 k2 k3=>by
  rw[hBf.block k (by omega) (fun e=>e.elim k3 fun e=>by have:=hv2 k e;omega),hb2.block k (by omega),hb1.block k (by omega) fun e=>by have:=nF k e;omega]
 refine⟨blk _ (by omega) (by omega) (by omega),blk _ (by omega) (by omega) (by omega),(blk _ (by omega) (by omega) (by omega)).trans h.b0,(blk _ (by omega) (by omega) (by omega)).trans h.b1,(blk _ (by omega) (by omega) (by omega)).trans h.b2,
  ⟨F1,_,h1.keep hBf fun k hk e=> ?_,fun k hk=> ?_,hv3.set _,?_,fun k hk hf=> ?_⟩,?_,h.lt⟩
 ·rcases e with e|e
  ·rcases hF1 k hk with hk|hk
   ·have:=nF k hk;omega
   ·omega
  ·exact hn1 k e hk
 ·rcases hF1 k hk with hk|hk
  ·exact hF k hk
  ·exact .inr (by omega)
 ·rw[hE,evCells_push,List.length_append]
  exact hown.kept (grownBy_setCell' w3 _ _) (.inr (hv3.not_row (by decide) hown).symm)
 ·obtain rfl:g=k:=by simpa[Value.ownBlock]using hk
  rcases hat with e|e
  ·exact hn1 g e hf
  ·have:=h1.lt hf
   simp at e
   omega
 ·refine(((h.but.trans hb1 fun i hi e=>(hF i e).elim id fun e=>by omega).trans (But.of_below (F:=fun _=>False) hb2) fun _ _ e=>e.elim).trans hBf fun i hi e=> ?_)
  rcases e with e|e
  ·omega
  ·have:=hv2 i e;omega
theorem ev_info:(Tryz.prog.info? 36).map (fun i=>(i.zero,i.size,i.bytes))=some (some (.agg #[.int .i64 0,.bool false,.int .i64 0,.int .i64 0,.int .i64 0,.bool false]),6,48):=by kernel_rfl
end Go.Proofs.YtkhnelgommaioaaGreat
