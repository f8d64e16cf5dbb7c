import Derived.Test.YtdphiompijbelaaGreatLooseT
open Nat renaming lt_or_ge->Z,le_refl->L,min_eq_left->W
open Go renaming World->V,Value->H
open List renaming all_eq_true->C,length_take->Y,mem_range->F,range_eq_range'->M,pairwise_cons->E,getElem?_take->A,mem_cons->z,range'->p
open Option renaming some->S,none->g
open Bool renaming true->B,false->T,or_eq_true->U
open Array renaming getElem?_eq_some_iff->J,replicate->O,getElem?_eq_none->q,getElem_append->s,all_eq_true'->f,ext->m
namespace Go.Proofs.YtdphiompijbelaaGreat.Loose
open Go.RowKit Go.Sort
def yeh (P:Program) (o:Oper):Prop:=∀(e:Operand->H) (w:V),(∃v,∀w',(execOp e o).run P w'= .ok (.value v) w')\/(∃h w'',(execOp e o).run P w= .halt h w'')
theorem ygS {P:Program} {o:Oper} {x:Operand} {k:Nat} (h:o.op= .extract x k):yeh P o:=by
 intro e w;simp only[execOp,h,Instr.extract];split
 ·split
  ·exact .inl ⟨_,fun w'=>rfl⟩
  ·exact .inr ⟨_,_,rfl⟩
 ·exact .inr ⟨_,_,rfl⟩
def ye2 (ops:Array Oper) (N:Nat) (D:List Nat):Bool:=(List.range ops.size).all fun t=>decide (t<N)||(List.range N).all fun i=>
 if D.contains i then(Region.waitsFor .any ops t i||(match ops[i]?,ops[t]? with|some oi,S ot=>oi.apart ops ot|_,_=>T))else vG ops N t i
def ybC (ops:Array Oper) (n N:Nat) (D:List Nat):Bool:=decide (n<=N)&&decide (N<=ops.size)&&Region.noSelect ops&&yeI ops N&&ycG ops N&&ye2 ops N D&&D.all (fun i=>decide (i<n))&&Region.seqB .any ops (ops.size-N) N (zD N (ops.size-N))
section
variable {P:Program} {ops:Array Oper} {w0:V} {n N:Nat} {D:List Nat} {R:Nat->H->V->Prop} {Q:Exit->Act->V->Prop}
structure OkD (P:Program) (ops:Array Oper) (w0:V) (n N:Nat) (D:List Nat) (R:Nat->H->V->Prop):Prop where
 le:n<=N
 size:N<=ops.size
 sel:∀(j:Nat) (o:Oper) cs b,ops[j]?=S o->o.op≠ .select cs b
 pair:∀i j oi oj,i<j->j<N->ops[i]?=S oi->ops[j]?=S oj->(∀e ∈ oj.after,Region.binds .any e=B->e.on≠i)->oi.apart ops oj=B
 back:∀j o,j<N->ops[j]?=S o->∀e ∈ o.after,Region.binds .any e=B->e.on<j
 tail:∀t,N<=t->t<ops.size->∀i,i<N->i ∉ D->vG ops N t i=B
 late:∀t ot,N<=t->ops[t]?=S ot->∀i oi,i<N->i ∈ D->ops[i]?=S oi->(∀e ∈ ot.after,Region.binds .any e=B->e.on≠i)->oi.apart ops ot=B
 low:∀i,i ∈ D->i<n
 seq:Region.seqB .any ops (ops.size-N) N (zD N (ops.size-N))=B
 calm:∀i o,i ∈ D->ops[i]?=S o->yeh P o
 loose:∀i o,n<=i->i<N->ops[i]?=S o->(∀a:Act,Region.wanted o (yielded ops a.tmps)=B)/\∀(a:Act) w,G w0 w->∃v w',(execOp a.eval o).run P w= .ok (.value v) w'/\G w w'/\R i v w'
 stable:∀i v w w',R i v w->G w w'->R i v w'
theorem ydR (hB:ybC ops n N D=B) (calm:∀i o,i ∈ D->ops[i]?=S o->yeh P o)
 (loose:∀i o,n<=i->i<N->ops[i]?=S o->(∀a:Act,Region.wanted o (yielded ops a.tmps)=B)/\∀(a:Act) w,G w0 w->∃v w',(execOp a.eval o).run P w= .ok (.value v) w'/\G w w'/\R i v w')
 (stable:∀i v w w',R i v w->G w w'->R i v w'):OkD P ops w0 n N D R:=by
 simp only[ybC,Bool.and_eq_true,decide_eq_true_eq]at hB;obtain⟨⟨⟨⟨⟨⟨⟨hn,hN⟩,hsel⟩,hpair⟩,hback⟩,hdr⟩,hlow⟩,hseq⟩:=hB;simp only[ye2,C,F,U,decide_eq_true_eq]at hdr;refine⟨hn,hN,fun j o cs b hj=>Region.noSelect_spec hsel j o cs b hj,?_,?_,?_,?_,?_,hseq,calm,loose,stable⟩
 ·intro i j oi oj hij hj hi hj' hno
  simp only[yeI,C,F]at hpair;have:=hpair j hj i hij;simp only[hi,hj',U]at this;rcases this with h|h
  ·obtain⟨oj',ho,e,he,hb,hon⟩:=Region.waitsFor_spec h
   rw[hj']at ho;cases ho;exact absurd hon (hno e he hb)
  ·exact h
 ·intro j o hj ho e he hb
  simp only[ycG,C,F]at hback;have:=hback j hj;simp only[ho,f]at this;have:=this e he
  simpa[hb]using this
 ·intro t ht hts i hi hD
  rcases hdr t hts with h|h
  ·omega
  ·have:=h i hi
   rw[if_neg (by simpa using hD)]at this;exact this
 ·intro t ot ht ho i oi hi hD hoi hno
  have hts:t<ops.size:=(J.1 ho).1;rcases hdr t hts with h|h
  ·omega
  ·have:=h i hi
   rw[if_pos (by simpa using hD),hoi,ho]at this;simp only[U]at this;rcases this with h|h
   ·obtain⟨o',ho',e,he,hb,hon⟩:=Region.waitsFor_spec h
    rw[ho]at ho';cases ho';exact absurd hon (hno e he hb)
   ·exact h
 ·intro i hi
  simpa using C.1 hlow i hi
theorem yef {o:Oper} {a:Act} {v:H} {w:V} (hc:yeh P o) (hg:G w0 w) (h:Yl P ops w0 o a v):Yields P ops o v a:=by
 rcases h with ⟨h1,h2⟩|h
 ·refine .inl ⟨h1,?_⟩
  have h3:=h2 w hg;unfold Oper.quietAt at h3;rcases hc a.eval w with ⟨u,hu⟩|⟨x,w'',hx⟩
  ·rw[hu w]at h3
   obtain⟨_,e⟩:=h3;subst e;exact hu
  ·rw[hx]at h3
   exact h3.elim
 ·exact .inr h
theorem yb0 (K:OkD P ops w0 n N D R) (hQ:∀(d:Option Tmp) (v:H) c a w,Q (.panic c) (a.put d v) w->Q (.panic c) a w):
 ∀(k:Nat) (listed:Array Bool) (a:Act) (w:V) (I:V->Prop),(rst N listed).length=k->listed.size=ops.size->
  (∀t,N<=t->t<ops.size->listed.getD t B=T)->jg ops listed->(∀w w',I w->G w w'->I w')->G w0 w->I w->
  vX P ops w0 n R (fun a w=>wpList P ops Q (ops.toList.drop N) a w) (rst N listed) a I->
  wpAny P .any ops Q (k+(ops.size-N)) listed a w:=by
 intro k
 induction k with
 | zero=>
   intro listed a w I hk hs ht hc hI hw hIw h;have hr:rst N listed=[]:=List.length_eq_zero_iff.1 hk;rw[hr]at h
   have hl:listed=zD N (ops.size-N):=by
    apply m
    ·simp[zD,hs];have:=K.size;omega
    ·intro i h1 h2
     by_cases hi:i<N
     ·have:i ∉ rst N listed:=by rw[hr];simp
      have:listed.getD i B=B:=by
       cases hg:listed.getD i B
       ·exact absurd (zu.2 ⟨hi,hg⟩) this
       ·rfl
      simp only[Array.getD,h1,dite_true]at this;rw[show(zD N (ops.size-N))[i]=B from by simp[zD,hi]];exact this
     ·have:=ht i (by omega) (by omega)
      simp only[Array.getD,h1,dite_true]at this;rw[show(zD N (ops.size-N))[i]=T from by simp[zD,s,hi]];exact this
   have hf:=h w hw hIw
   have hlen:(ops.toList.drop N).length=ops.size-N:=by simp
   have:=wpAny_of_seq (P:=P) (md:= .any) (Q':=Q) (ops.toList.drop N) N listed a w (by intro j;simp) (by rw[hlen,hl];exact K.seq) hf;rw[hlen]at this
   simpa using this
 | succ k ih=>
   intro listed a w I hk hs ht hc hI hw hIw h
   have hne:rst N listed≠[]:=by intro e;rw[e]at hk;cases hk
   have e:k+1+(ops.size-N)=(k+(ops.size-N))+1:=by omega
   rw[e];obtain⟨i0,r,hr0⟩:=List.exists_cons_of_ne_nil hne
   have hm0:i0 ∈ rst N listed:=by rw[hr0];simp
   obtain⟨hi0,hu0⟩:=zu.1 hm0
   have hlt0:i0<ops.size:=by have:=K.size;omega
   have ho0:ops[i0]?=S ops[i0]:=by simp[hlt0]
   have hready0:i0 ∈ Region.ready .any ops listed:=by
    refine mem_ready.2 ⟨hu0,ops[i0],ho0,fun e he hb=> ?_⟩;have hon:=K.back i0 ops[i0] hi0 ho0 e he hb
    have:e.on ∉ rst N listed:=by
     rw[hr0];intro hmem;rcases z.1 hmem with h|h
     ·omega
     ·have hp:=xK N listed
      rw[hr0]at hp;have:=(E.1 hp).1 _ h;omega
    have h1:listed.getD e.on B=B:=by
     cases hg:listed.getD e.on B
     ·exact absurd (zu.2 ⟨by omega,hg⟩) this
     ·rfl
    have hes:e.on<listed.size:=by omega
    simp only[Array.getD,hes,dite_true]at h1 ⊢;exact h1
   have hnext:∀i o,i<N->ops[i]?=S o->listed.getD i B=T->(∀e ∈ o.after,Region.binds .any e=B->listed.getD e.on T=B)->
    (rst N (listed.setIfInBounds i B)).length=k/\(listed.setIfInBounds i B).size=ops.size/\(∀t,N<=t->t<ops.size->(listed.setIfInBounds i B).getD t B=T)/\jg ops (listed.setIfInBounds i B):=by
    intro i o hiN ho hu hall;have him:i ∈ rst N listed:=zu.2 ⟨hiN,hu⟩;have his:i<ops.size:=(J.1 ho).1;refine⟨by rw[qw him,List.length_erase_of_mem him,hk];rfl,by simpa using hs,?_,?_⟩
    ·intro t h1 h2
     rw[getD_set_ne B (by omega:¬i=t)];exact ht t h1 h2
    ·have hmono:∀x,listed.getD x T=B->(listed.setIfInBounds i B).getD x T=B:=by
      intro x hx
      by_cases e:i=x
      ·subst e
       have:i<listed.size:=by omega
       simp[Array.getD,this]
      ·rw[getD_set_ne T e]
       exact hx
     intro j oj hj hl e he hb
     by_cases e':i=j
     ·subst e'
      rw[ho]at hj;cases hj;exact hmono _ (hall e he hb)
     ·rw[getD_set_ne T e']at hl
      exact hmono _ (hc j oj hj hl e he hb)
   by_cases hall:∀i,i ∈ rst N listed->i ∈ D
   ·--nothing but such as yfq at no memory:the first one comes now
    have hD0:=hall i0 hm0;have hin:=K.low i0 hD0;rw[hr0]at h;obtain⟨o,ho,h⟩:=h;rw[ho0]at ho;cases ho;rcases h with ⟨_,v,hy,hL⟩|⟨h',_⟩
    ·obtain⟨q1,q2,q3,q4⟩:=hnext i0 ops[i0] hi0 ho0 hu0 (fun e he hb=>by
      obtain⟨_,o',ho',hall'⟩:=mem_ready.1 hready0;rw[ho0]at ho';cases ho'
      exact hall' e he hb)
     have hL':vX P ops w0 n R (fun a w=>wpList P ops Q (ops.toList.drop N) a w) (rst N (listed.setIfInBounds i0 B)) (a.put ops[i0].dst v) I:=by
      rw[qw hm0,hr0,List.erase_cons_head];exact hL
     refine wpAny_first ho0 K.sel (hQ _ _) _ listed a w ?_ hready0 (yef (K.calm i0 _ hD0 ho0) hw hy) (ih _ _ w I q1 q2 q3 q4 hI hw hIw hL');intro j oj hj hne' hun hno;have hjs:j<ops.size:=(J.1 hj).1;rcases Z j N with hjN|hjN
     ·have hjm:j ∈ rst N listed:=zu.2 ⟨hjN,hun⟩
      rw[hr0]at hjm
      have hjr:j ∈ r:=by
       rcases z.1 hjm with e|e
       ·exact absurd e hne'
       ·exact e
      have hp:=xK N listed;rw[hr0]at hp;exact K.pair i0 j _ oj ((E.1 hp).1 j hjr) hjN ho0 hj hno
     ·exact K.late j oj hjN hj i0 _ hi0 hD0 ho0 hno
    ·omega
   ·have hex:∃j,j ∈ rst N listed/\j ∉ D:=by
     by_cases hx:∃j,j ∈ rst N listed/\j ∉ D
     ·exact hx
     ·exact absurd (fun i hi=>by
       by_cases hd:i ∈ D
       ·exact hd
       ·exact absurd ⟨i,hi,hd⟩ hx) hall
    obtain⟨j0,hj0,hjD⟩:=hex;obtain⟨hj0N,hj0u⟩:=zu.1 hj0;refine⟨fun hr=>(by rw[hr]at hready0;cases hready0),fun i hi=> ?_⟩;obtain⟨hu,o,ho,hall'⟩:=mem_ready.1 hi;have his:i<ops.size:=(J.1 ho).1
    have hiN:i<N:=by
     rcases Z i N with h'|h'
     ·exact h'
     ·exfalso
      have h1:=qI hc N i j0 o ho hall' (K.tail i h' his j0 hj0N hjD)
      have hes:j0<listed.size:=by have:=K.size;omega
      simp only[Array.getD,hes,dite_true]at h1 hj0u;rw[hj0u]at h1;cases h1
    have him:i ∈ rst N listed:=zu.2 ⟨hiN,hu⟩
    have hapart:∀i' oi',i' ∈ rst N listed->i'<i->ops[i']?=S oi'->oi'.apart ops o=B:=by
     intro i' oi' hm' hlt ho';refine K.pair i' i oi' o hlt hiN ho' ho (fun e he hb hon=> ?_);have h1:=hall' e he hb;have h2:=(zu.1 hm').2;rw[hon]at h1
     have hes:i'<listed.size:=by have:=K.size;omega
     simp only[Array.getD,hes,dite_true]at h1 h2;rw[h2]at h1;cases h1
    obtain⟨q1,q2,q3,q4⟩:=hnext i o hiN ho hu hall';unfold wpOp;simp only[ho]
    by_cases hin:i<n
    ·obtain⟨v,hy,hL⟩:=qQ K.sel ho hin (xK N listed) him hapart h
     rw[<-qw him]at hL;rcases hy with ⟨hwant,hq⟩|⟨hwant,rfl⟩
     ·rw[if_pos hwant]
      left;exact xV (hq w hw) G.rfl (fun w' hg=>ih _ _ w' I q1 q2 q3 q4 hI (hw.trans hg) (hI _ _ hIw hg) hL)
     ·rw[if_neg (by rw[hwant];exact Bool.false_ne_true)]
      exact ih _ _ w I q1 q2 q3 q4 hI hw hIw hL
    ·obtain⟨hwant,hrun⟩:=K.loose i o (by omega) hiN ho
     rw[if_pos (hwant a)];left;obtain⟨v,w',he,hg,hR⟩:=hrun a w hw;unfold Oper.wp;rw[he];have hL:=qP K.sel ho (by omega) v (xK N listed) him hapart h;rw[<-qw him]at hL;exact ih _ _ w' _ q1 q2 q3 q4 (fun x y hx hg=>⟨hI _ _ hx.1 hg,K.stable _ _ _ _ hx.2 hg⟩) (hw.trans hg) ⟨hI _ _ hIw hg,hR⟩ hL
theorem ve (ops:Array Oper):jg ops (O ops.size T):=by
 intro j o ho hl;have hj:j<ops.size:=(J.1 ho).1;simp[Array.getD,hj]at hl
theorem xS {id:Nat} {a:Act} {w:V} (hm:P.follows .mixedOrders=B) (K:OkD P ops w n N D R) (hQ:∀(d:Option Tmp) (v:H) c a w,Q (.panic c) (a.put d v) w->Q (.panic c) a w)
 (h:vX P ops w n R (fun a w=>wpList P ops Q (ops.toList.drop N) a w) (List.range N) a (fun _=>True)):(Code.region id ops B).wp P Q a w:=by
 refine wp_region_any hm ?_
 have hr:rst N (O ops.size T)=List.range N:=by
  unfold rst;rw[List.filter_eq_self];intro i hi
  have:i<ops.size:=by have:=K.size;have:=F.1 hi;omega
  simp[Array.getD,this]
 have:=yb0 K hQ N (O ops.size T) a {w with drawn:=w.drawn+1} (fun _=>True) (by rw[hr];simp) (by simp)
  (fun t _ ht=>by simp[Array.getD,ht]) (ve ops) (fun _ _ _ _=>trivial) (show Below _ _ _ from⟨rfl,rfl,rfl,L _,fun _ _=>rfl⟩) trivial (by rw[hr];exact h)
 have hN:=K.size
 rwa [show N+(ops.size-N)=ops.size from by omega]at this
theorem yg4 {id:Nat} {a:Act} {w:V} {l:List Oper} (N:Nat) (D:List Nat) (hm:P.follows .mixedOrders=B) (hB:ybC l.toArray N N D=B) (hc:∀i o,i ∈ D->l[i]?=S o->yeh P o)
 (hQ:∀(d:Option Tmp) (v:H) c a w,Q (.panic c) (a.put d v) w->Q (.panic c) a w)
 (h:xg P l.toArray w (fun a'=>∀w',Below w.heap.size w w'->wpList P l.toArray Q (l.drop N) a' w') (l.take N) a):(Code.region id l.toArray B).wp P Q a w:=by
 have K:OkD P l.toArray w N N D (fun _ _ _=>True):=ydR hB (fun i o hi ho=>hc i o hi (by simpa using ho)) (fun i o h1 h2 _=>by omega) (fun _ _ _ _ _ _=>trivial)
 have hlen:N<=l.length:=by simpa using K.size
 refine xS hm K hQ ?_
 have hr:List.range N=p 0 (l.take N).length++[]:=by
  rw[Y,W hlen,M,List.append_nil]
 rw[hr];refine zx (late:=[]) ?_ (l.take N) 0 a ?_ (by rw[Y];omega) h
 ·intro a' hk w' hw' _
  exact hk w' hw'
 ·intro j o' hj
  have:l[j]?=S o':=by
   rw[A]at hj;split at hj
   ·exact hj
   ·cases hj
  simpa using this
theorem ygx {id:Nat} {a:Act} {w:V} {l:List Oper} (n:Nat) (D:List Nat) (d:Tmp) (X:Obj) (o:Oper)
 (hm:P.follows .mixedOrders=B) (hB:ybC l.toArray n (n+1) D=B) (hc:∀i o,i ∈ D->l[i]?=S o->yeh P o) (ho:l[n]?=S o) (hd:o.dst=S d) (hg:o.guard=g)
 (hrun:∀(a:Act) w,(execOp a.eval o).run P w= .ok (.value (.pointer (S ⟨w.heap.size,0,g⟩))) (w.alloc X))
 (hQ:∀(d:Option Tmp) (v:H) c a w,Q (.panic c) (a.put d v) w->Q (.panic c) a w)
 (h:xg P l.toArray w (fun a'=>∀b w',Below w.heap.size w w'->w.heap.size<=b->w'.heap[b]?=S X->
   wpList P l.toArray Q (l.drop (n+1)) (a'.put (S d) (.pointer (S ⟨b,0,g⟩))) w') (l.take n) a):(Code.region id l.toArray B).wp P Q a w:=by
 have hlen:n<l.length:=by
  rcases Z n l.length with h'|h'
  ·exact h'
  ·rw[List.getElem?_eq_none h']at ho;cases ho
 have K:OkD P l.toArray w n (n+1) D (fun _ v w'=>∃b,v= .pointer (S ⟨b,0,g⟩)/\w.heap.size<=b/\w'.heap[b]?=S X):=by
  refine ydR hB (fun i o hi ho=>hc i o hi (by simpa using ho)) ?_ ?_
  ·intro i o' h1 h2 ho'
   have hi:i=n:=by omega
   subst hi
   have he:o'=o:=by
    have h3:l[i]?=S o':=by simpa using ho'
    rw[ho]at h3;cases h3;rfl
   subst he;refine⟨fun a=>by simp[Region.wanted,hg],fun a w1 hw1=>⟨_,_,hrun a w1,?_,w1.heap.size,rfl,hw1.size,by show(w1.heap.push X)[w1.heap.size]?=S X;simp⟩⟩;exact(Below.refl _ _).alloc (L _) _
  ·rintro i v w1 w2 ⟨b,e,hb,hx⟩ hg2
   refine⟨b,e,hb,?_⟩
   have hlt:b<w1.heap.size:=by
    rcases Z b w1.heap.size with h'|h'
    ·exact h'
    ·rw[q h']at hx;cases hx
   rw[Below.block hg2 b hlt];exact hx
 refine xS hm K hQ ?_
 have hr:List.range (n+1)=p 0 (l.take n).length++[n]:=by
  rw[Y,W (by omega),List.range_succ,M]
 rw[hr];refine zx (late:=[n]) ?_ (l.take n) 0 a ?_ (by rw[Y];omega) h
 ·intro a' hk
  refine⟨o,by simpa using ho,.inr ⟨L _,fun v w' hw' hI=> ?_⟩⟩;obtain⟨_,b,e,hb,hx⟩:=hI;subst e;rw[hd];exact hk b w' hw' hb hx
 ·intro j o' hj
  have:l[j]?=S o':=by
   rw[A]at hj;split at hj
   ·exact hj
   ·cases hj
  simpa using this
end
end Go.Proofs.YtdphiompijbelaaGreat.Loose
