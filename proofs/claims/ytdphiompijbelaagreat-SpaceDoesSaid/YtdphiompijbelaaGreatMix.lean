import Derived.Test.YtdphiompijbelaaGreatLooseD
open List renaming mem_map->T,all_eq_true->Z,mem_cons->O,length_eq_zero_iff->M,filter_eq_self->E,length_append->A,getElem?_append_right->H,getElem?_append_left->W,range'->g,mem_range->kI,map_cons->kJ,length_range'->kP,cons->kC,mem_range'_1->kR,cons_append->kN,any_eq_true->kY,nil_append->kT,nodup_cons->kF,mem_filter->kV
open Array renaming getElem?_eq_some_iff->Y,replicate->kQ
open Option renaming some->C
open Go renaming World->B,Value->X
open Bool renaming true->J,or_eq_true->F,and_eq_true->V,false->U,not_eq_true'->kS
namespace Go.Proofs.YtdphiompijbelaaGreat.Loose
open Go.RowKit Go.Sort
def Rch (ops:Array Oper) (t i:Nat):Prop:=∀(listed:Array Bool) (o:Oper),ops[t]?=C o->jg ops listed->(∀e ∈ o.after,Region.binds .any e=J->listed.getD e.on U=J)->listed.getD i U=J
def ydP (done:List (Nat×Nat×Nat)):List (Nat×Nat):=done.map fun p=>(p.1,p.2.1)
def yfq (done:List (Nat×Nat×Nat)) (i:Nat):Nat:=match done.find? (fun p=>p.2.1==i)with
 | some p=>p.2.2
 | none=>0
def vy (done:List (Nat×Nat×Nat)) (o:Oper):Nat:=o.after.toList.foldl (fun m e=>if Region.binds .any e then m|||(1<<<e.on|||yfq done e.on)else m) 0
def Inv (ops:Array Oper) (done:List (Nat×Nat×Nat)):Prop:=∀p ∈ done,(∃o,ops[p.2.1]?=C o)/\∀i,p.2.2.testBit i=J->Rch ops p.2.1 i
theorem ybl (done:List (Nat×Nat×Nat)) (i:Nat):∀(l:List Edge) (m:Nat),(l.foldl (fun m e=>if Region.binds .any e then m|||(1<<<e.on|||yfq done e.on)else m) m).testBit i=J->
 m.testBit i=J\/∃e ∈ l,Region.binds .any e=J/\(e.on=i\/(yfq done e.on).testBit i=J)
 | [],m,h=> .inl h
 | e::l,m,h=>by
   rw[List.foldl_cons]at h;rcases ybl done i l _ h with h|⟨e',he,hb,h⟩
   ·split at h
    ·rename_i hb
     rw[Nat.testBit_or,Nat.testBit_or,F,F,Nat.one_shiftLeft,Nat.testBit_two_pow,decide_eq_true_eq]at h;rcases h with h|h|h
     ·exact .inl h
     ·exact .inr ⟨e,by simp,hb,.inl h⟩
     ·exact .inr ⟨e,by simp,hb,.inr h⟩
    ·exact .inl h
   ·exact .inr ⟨e',by simp[he],hb,h⟩
theorem jo {ops:Array Oper} {done:List (Nat×Nat×Nat)} (hi:Inv ops done) {t:Nat} {o:Oper} (ho:ops[t]?=C o) {i:Nat} (h:(vy done o).testBit i=J):Rch ops t i:=by
 intro listed o' ho' hc hl;rw[ho]at ho';cases ho';rcases ybl done i _ _ h with h|⟨e,he,hb,h⟩
 ·rw[Nat.zero_testBit]at h
  cases h
 ·have he':e ∈ o.after:=by simpa using he
  have hm:=hl e he' hb;rcases h with h|h
  ·rw[<-h];exact hm
  ·unfold yfq at h
   split at h
   ·rename_i p hp
    have hmem:=List.mem_of_find?_eq_some hp
    have hk:p.2.1=e.on:=by simpa using List.find?_some hp
    obtain⟨⟨om,hom⟩,hr⟩:=hi p hmem;rw[hk]at hom hr;exact hr i h listed om hom hc (fun e2 he2 hb2=>hc e.on om hom hm e2 he2 hb2)
   ·simp at h
def yfC (ops:Array Oper) (fin:List (Nat×Nat×Nat)->Bool):List (Nat×Nat×Nat)->List (Nat×Nat)->Bool
 | done,[]=>fin done
 | done,(c,j)::r=>match ops[j]? with
   | none=>U
   | some oj=>(oj.after.toList.all fun e=> !Region.binds .any e||done.any fun p=>p.2.1==e.on)&&
     (done.all fun p=>(vy done oj).testBit p.2.1||(p.1 !=2&&match ops[p.2.1]? with|some oi=>oi.apart ops oj|none=>U))&&
     !(done.any fun p=>p.2.1==j)&&yfC ops fin ((c,j,vy done oj)::done) r
theorem ycz {ops:Array Oper} {fin:List (Nat×Nat×Nat)->Bool}:∀(r:List (Nat×Nat)) (done:List (Nat×Nat×Nat)),Inv ops done->yfC ops fin done r=J->
 (∀pre c j post,r=pre++(c,j)::post->∀p,(p ∈ pre\/p ∈ ydP done)->Rch ops j p.2\/(p.1≠2/\∀oi oj,ops[p.2]?=C oi->ops[j]?=C oj->oi.apart ops oj=J))/\
 (∀pre c j post,r=pre++(c,j)::post->∀o,ops[j]?=C o->∀e ∈ o.after,Region.binds .any e=J->∃p,(p ∈ pre\/p ∈ ydP done)/\p.2=e.on)/\
 (∀p ∈ ydP done,p.2 ∉ r.map Prod.snd)/\(r.map Prod.snd).Nodup/\
 ∃d',Inv ops d'/\fin d'=J/\∀p,p ∈ ydP d' ↔ (p ∈ r\/p ∈ ydP done)
 | [],done,hi,h=>⟨fun pre c j post e=>by simp at e,fun pre c j post e=>by simp at e,fun p _=>by simp,by simp,done,hi,h,fun p=>by simp⟩
 | (c,j)::r,done,hi,h=>by
   unfold yfC at h;split at h
   ·cases h
   ·rename_i oj hoj
    simp only[V]at h;obtain⟨⟨⟨h1,h2⟩,h3⟩,h4⟩:=h
    have hi':Inv ops ((c,j,vy done oj)::done):=by
     intro p hp;rcases O.1 hp with e|e
     ·subst e
      exact⟨⟨oj,hoj⟩,fun i hm=>jo hi hoj hm⟩
     ·exact hi p e
    obtain⟨g1,g2,g3,g4,d',g5,g6,g7⟩:=ycz r _ hi' h4;have hk:ydP ((c,j,vy done oj)::done)=(c,j)::ydP done:=rfl;rw[hk]at g1 g2 g3 g7
    have hnj:∀p ∈ ydP done,p.2≠j:=by
     intro p hp e;obtain⟨d,hd,rfl⟩:=T.1 hp;simp only[kS,List.any_eq_false]at h3;exact h3 d hd (by simpa using e)
    refine⟨?_,?_,?_,?_,d',g5,g6,?_⟩
    ·intro pre c' j' post e p hp
     cases pre with
     | nil=>
       simp only[kT,kC.injEq,Prod.mk.injEq]at e;obtain⟨⟨rfl,rfl⟩,rfl⟩:=e;rcases hp with hp|hp
       ·cases hp
       ·obtain⟨d,hd,rfl⟩:=T.1 hp
        have:=Z.1 h2 d hd;simp only[F,V,bne_iff_ne,ne_eq]at this;rcases this with h|⟨ha,hb⟩
        ·exact .inl (jo hi hoj h)
        ·refine .inr ⟨ha,fun oi oj' ho1 ho2=> ?_⟩
         rw[hoj]at ho2;cases ho2;simp only at ho1;rw[ho1]at hb;exact hb
     | cons q pre=>
       simp only[kN,kC.injEq]at e;obtain⟨rfl,rfl⟩:=e;refine g1 pre c' j' post rfl p ?_;rcases hp with hp|hp
       ·rcases O.1 hp with e|e
        ·exact .inr (by rw[e];simp)
        ·exact .inl e
       ·exact .inr (by simp[hp])
    ·intro pre c' j' post e o ho ed hed hb
     cases pre with
     | nil=>
       simp only[kT,kC.injEq,Prod.mk.injEq]at e;obtain⟨⟨rfl,rfl⟩,rfl⟩:=e;rw[hoj]at ho;cases ho;have:=Z.1 h1 ed (by simpa using hed);rw[hb]at this;simp only[Bool.not_true,Bool.false_or,kY]at this;obtain⟨d,hd,he⟩:=this;exact⟨(d.1,d.2.1),.inr (T.2 ⟨d,hd,rfl⟩),by simpa using he⟩
     | cons q pre=>
       simp only[kN,kC.injEq]at e;obtain⟨rfl,rfl⟩:=e;obtain⟨p,hp,hpe⟩:=g2 pre c' j' post rfl o ho ed hed hb;refine⟨p,?_,hpe⟩;rcases hp with hp|hp
       ·exact .inl (by simp[hp])
       ·rcases O.1 hp with e|e
        ·exact .inl (by rw[e];simp)
        ·exact .inr e
    ·intro p hp
     simp only[kJ,O,not_or];exact⟨hnj p hp,g3 p (by simp[hp])⟩
    ·simp only[kJ,kF]
     exact⟨g3 (c,j) (by simp),g4⟩
    ·intro p
     rw[g7 p];simp only[O];constructor
     ·rintro (h|h|h)
      ·exact .inl (.inr h)
      ·exact .inl (.inl h)
      ·exact .inr h
     ·rintro ((h|h)|h)
      ·exact .inr (.inl h)
      ·exact .inl h
      ·exact .inr (.inr h)
def yeA (ops:Array Oper) (D:List Nat):List (Nat×Nat×Nat)->List Nat->Bool
 | _,[]=>J
 | done,t::ts=>match ops[t]? with
   | none=>U
   | some ot=>(done.all fun p=>p.1==3||(if D.contains p.2.1 then(Region.waitsFor .any ops t p.2.1||(match ops[p.2.1]? with|some oi=>oi.apart ops ot|none=>U))else(vy done ot).testBit p.2.1))&&yeA ops D ((3,t,vy done ot)::done) ts
theorem vw {ops:Array Oper} {D:List Nat}:∀(ts:List Nat) (done:List (Nat×Nat×Nat)),Inv ops done->yeA ops D done ts=J->∀t ∈ ts,∀p ∈ done,p.1≠3->
 (p.2.1 ∉ D->Rch ops t p.2.1)/\(p.2.1 ∈ D->∀ot oi,ops[t]?=C ot->ops[p.2.1]?=C oi->(∀e ∈ ot.after,Region.binds .any e=J->e.on≠p.2.1)->oi.apart ops ot=J)
 | [],_,_,_,t,ht,_,_,_=>by cases ht
 | t::ts,done,hi,h,t',ht',p,hp,h3=>by
   unfold yeA at h;split at h
   ·cases h
   ·rename_i ot hot
    simp only[V]at h;obtain⟨h1,h2⟩:=h;rcases O.1 ht' with e|e
    ·subst e
     have:=Z.1 h1 p hp;simp only[F,beq_iff_eq]at this;rcases this with h|h
     ·exact absurd h h3
     ·refine⟨fun hD=> ?_,fun hD ot' oi ho1 ho2 hno=> ?_⟩
      ·rw[if_neg (by simpa using hD)]at h
       exact jo hi hot h
      ·rw[if_pos (by simpa using hD)]at h
       rw[hot]at ho1;cases ho1;simp only[F]at h;rcases h with h|h
       ·obtain⟨o',ho',e,he,hb,hon⟩:=Region.waitsFor_spec h
        rw[hot]at ho';cases ho';exact absurd hon (hno e he hb)
       ·rw[ho2]at h
        exact h
    ·refine vw ts _ ?_ h2 t' e p (by simp[hp]) h3
     intro q hq;rcases O.1 hq with e|e
     ·subst e
      exact⟨⟨ot,hot⟩,fun i hm=>jo hi hot hm⟩
     ·exact hi q e
def yfN (ops:Array Oper) (N:Nat) (D:List Nat) (done:List (Nat×Nat×Nat)):Bool:=
 ((List.range N).all fun i=>done.any fun p=>p.2.1==i)&&(done.all fun p=>decide (p.2.1<N)&&p.1 !=3&&(!D.contains p.2.1||p.1==0))&&yeA ops D done (g N (ops.size-N))
def yfG (ops:Array Oper) (L:List (Nat×Nat)) (N:Nat) (D:List Nat):Bool:=
 decide (N<=ops.size)&&Region.noSelect ops&&yfC ops (yfN ops N D) [] L&&(D.all fun i=>(List.range N).all fun j=>j==i||Region.waitsFor .any ops j i||Region.waitsFor .any ops i j||(match ops[i]?,ops[j]? with|some oi,C oj=>oi.apart ops oj|_,_=>U))&&Region.seqB .any ops (ops.size-N) N (zD N (ops.size-N))
section
variable {P:Program} {ops:Array Oper} {w0:B} {N:Nat} {D:List Nat} {L:List (Nat×Nat)} {Fin:Act->B->Prop} {Q:Exit->Act->B->Prop}
structure OkM (ops:Array Oper) (L:List (Nat×Nat)) (N:Nat) (D:List Nat):Prop where
 size:N<=ops.size
 sel:∀(j:Nat) (o:Oper) cs b,ops[j]?=C o->o.op≠ .select cs b
 pair:∀pre c j post,L=pre++(c,j)::post->∀p ∈ pre,Rch ops j p.2\/(p.1≠2/\∀oi oj,ops[p.2]?=C oi->ops[j]?=C oj->oi.apart ops oj=J)
 back:∀pre c j post,L=pre++(c,j)::post->∀o,ops[j]?=C o->∀e ∈ o.after,Region.binds .any e=J->∃p ∈ pre,p.2=e.on
 nd:(L.map Prod.snd).Nodup
 mem:∀i,i<N ↔ ∃c,(c,i) ∈ L
 zero:∀c i,(c,i) ∈ L->i ∈ D->c=0
 tail:∀t,N<=t->t<ops.size->∀i,i<N->i ∉ D->Rch ops t i
 late:∀t ot,N<=t->ops[t]?=C ot->∀i oi,i<N->i ∈ D->ops[i]?=C oi->(∀e ∈ ot.after,Region.binds .any e=J->e.on≠i)->oi.apart ops ot=J
 drift:∀i oi j oj,i ∈ D->ops[i]?=C oi->j<N->j≠i->ops[j]?=C oj->(∀e ∈ oj.after,Region.binds .any e=J->e.on≠i)->(∀e ∈ oi.after,Region.binds .any e=J->e.on≠j)->oi.apart ops oj=J
 seq:Region.seqB .any ops (ops.size-N) N (zD N (ops.size-N))=J
theorem yft (hB:yfG ops L N D=J):OkM ops L N D:=by
 simp only[yfG,V,decide_eq_true_eq]at hB;obtain⟨⟨⟨⟨hN,hsel⟩,hord⟩,hD⟩,hseq⟩:=hB;obtain⟨g1,g2,g3,g4,d',g5,g6,g7⟩:=ycz L [] (fun p hp=>by cases hp) hord;simp only[yfN,V,Z,kI,kY,decide_eq_true_eq]at g6;obtain⟨⟨f1,f2⟩,f3⟩:=g6
 have hkey:∀p,p ∈ ydP d' ↔ p ∈ L:=fun p=>by rw[g7 p];simp[ydP]
 have hof:∀c i,(c,i) ∈ L->∃m,(c,i,m) ∈ d':=fun c i h=>by
  obtain⟨d,hd,e⟩:=T.1 ((hkey (c,i)).2 h);obtain⟨d1,d2,d3⟩:=d;simp only[Prod.mk.injEq]at e;obtain⟨rfl,rfl⟩:=e;exact⟨d3,hd⟩
 refine⟨hN,fun j o cs b hj=>Region.noSelect_spec hsel j o cs b hj,fun pre c j post e p hp=>g1 pre c j post e p (.inl hp),fun pre c j post e o ho ed hed hb=> ?_,g4,fun i=>⟨fun hi=> ?_,fun⟨c,hc⟩=> ?_⟩,fun c i hc hD'=> ?_,fun t ht hts i hi hnD=> ?_,fun t ot ht hot i oi hi hD' hoi hno=> ?_,fun i oi j oj hi hoi hjN hne hoj n1 n2=> ?_,hseq⟩
 ·obtain⟨p,hp,hpe⟩:=g2 pre c j post e o ho ed hed hb
  rcases hp with hp|hp
  ·exact⟨p,hp,hpe⟩
  ·simp[ydP]at hp
 ·obtain⟨d,hd,he⟩:=f1 i hi
  obtain⟨d1,d2,d3⟩:=d
  have he:d2=i:=by simpa using he
  subst he;exact⟨d1,(hkey _).1 (T.2 ⟨_,hd,rfl⟩)⟩
 ·obtain⟨m,hm⟩:=hof c i hc
  exact(f2 _ hm).1.1
 ·obtain⟨m,hm⟩:=hof c i hc
  have:=(f2 _ hm).2;simp only[F,kS,beq_iff_eq]at this;rcases this with h|h
  ·simp only[List.contains_eq_mem,decide_eq_false_iff_not]at h
   exact absurd hD' h
  ·exact h
 ·obtain⟨d,hd,he⟩:=f1 i hi
  have he:d.2.1=i:=by simpa using he
  have h3:d.1≠3:=by simpa using (f2 _ hd).1.2
  have:=(vw _ d' g5 f3 t (by rw[kR];omega) d hd h3).1;rw[he]at this;exact this hnD
 ·have hts:t<ops.size:=(Y.1 hot).1
  obtain⟨d,hd,he⟩:=f1 i hi
  have he:d.2.1=i:=by simpa using he
  have h3:d.1≠3:=by simpa using (f2 _ hd).1.2
  have:=(vw _ d' g5 f3 t (by rw[kR];omega) d hd h3).2;rw[he]at this;exact this hD' ot oi hot hoi hno
 ·simp only[Z,kI,F,beq_iff_eq]at hD
  rcases hD i hi j hjN with ((h|h)|h)|h
  ·exact absurd h hne
  ·obtain⟨o',ho',e,he,hb,hon⟩:=Region.waitsFor_spec h
   rw[hoj]at ho';cases ho';exact absurd hon (n1 e he hb)
  ·obtain⟨o',ho',e,he,hb,hon⟩:=Region.waitsFor_spec h
   rw[hoi]at ho';cases ho';exact absurd hon (n2 e he hb)
  ·rw[hoi,hoj]at h
   exact h
def yhS (P:Program) (w:B) (S:X->B->Prop):Result Next->Prop
 | .ok (.value v) w'=>S v w'
 | .ok (.enter f args) w'=>w'=w/\Calls P f args w (fun e w''=>∃v,e= .returned v/\S v w'')
 | _=>False
def Ym (P:Program) (ops:Array Oper) (w0:B) (I:B->Prop) (o:Oper) (a:Act) (v:X):Prop:=
 (Region.wanted o (yielded ops a.tmps)=J/\∀w,G w0 w->I w->o.quietAt P a (G w) w v)\/(Region.wanted o (yielded ops a.tmps)=U/\v=undef)
def Rm (P:Program) (ops:Array Oper) (w0:B) (I:B->Prop) (o:Oper) (a:Act) (α:Type) (val:α->X) (R:α->B->Prop):Prop:=
 Region.wanted o (yielded ops a.tmps)=J/\(∀x w w',R x w->G w w'->R x w')/\∀w,G w0 w->I w->yhS P w (fun v w'=>G w w'/\∃x,v=val x/\R x w') ((execOp a.eval o).run P w)
theorem Ym.put {I:B->Prop} {o x:Oper} {a:Act} {v:X} (hs:∀cs b,o.op≠ .select cs b) (h:∀d,x.dst=C d->d ∉ o.looksAt ops) (u:X):
 Ym P ops w0 I o (a.put x.dst u) v ↔ Ym P ops w0 I o a v:=by
 unfold Ym Oper.quietAt;rw[execOp_put o hs a x.dst u h,wanted_put o a x.dst u h]
theorem Rm.put {I:B->Prop} {o x:Oper} {a:Act} {α:Type} {val:α->X} {R:α->B->Prop} (hs:∀cs b,o.op≠ .select cs b) (h:∀d,x.dst=C d->d ∉ o.looksAt ops) (u:X):
 Rm P ops w0 I o (a.put x.dst u) α val R ↔ Rm P ops w0 I o a α val R:=by
 unfold Rm;rw[execOp_put o hs a x.dst u h,wanted_put o a x.dst u h]
theorem Ym.mono {I I':B->Prop} (hi:∀w,I' w->I w) {o:Oper} {a:Act} {v:X} (h:Ym P ops w0 I o a v):Ym P ops w0 I' o a v:=
 h.imp (fun⟨h1,h2⟩=>⟨h1,fun w hw hI=>h2 w hw (hi w hI)⟩) id
def yei (P:Program) (ops:Array Oper) (w0:B) (Fin:Act->B->Prop):List (Nat×Nat)->Act->(B->Prop)->Prop
 | [],a,I=>∀w,G w0 w->I w->Fin a w
 | (c,i)::r,a,I=>∃o,ops[i]?=C o/\
     ((∃v,Ym P ops w0 I o a v/\yei P ops w0 Fin r (a.put o.dst v) I)\/
      (c=2/\∃(α:Type) (val:α->X) (R:α->B->Prop),Rm P ops w0 I o a α val R/\∀x,yei P ops w0 Fin r (a.put o.dst (val x)) (fun w=>I w/\R x w)))
theorem ycC (hsel:∀(j:Nat) (o:Oper) cs b,ops[j]?=C o->o.op≠ .select cs b) {c j:Nat} {oj:Oper} (hj:ops[j]?=C oj) {post:List (Nat×Nat)}:
 ∀{pre:List (Nat×Nat)} {a:Act} {I:B->Prop},(∀p ∈ pre,∀oi,ops[p.2]?=C oi->oi.apart ops oj=J)->(∀p ∈ pre,p.1≠2)->
  yei P ops w0 Fin (pre++(c,j)::post) a I->
  (∃v,Ym P ops w0 I oj a v/\yei P ops w0 Fin (pre++post) (a.put oj.dst v) I)\/
  (∃(α:Type) (val:α->X) (R:α->B->Prop),Rm P ops w0 I oj a α val R/\∀x,yei P ops w0 Fin (pre++post) (a.put oj.dst (val x)) (fun w=>I w/\R x w))
 | [],a,I,_,_,⟨o,ho,h⟩=>by
   rw[hj]at ho;cases ho;exact h.imp id (fun h=>h.2)
 | p::pre,a,I,hap,hnr,⟨o,ho,h⟩=>by
   obtain⟨h1,h2,h3⟩:=Oper.apart_spec (hap p (by simp) o ho);rcases h with ⟨v,hy,hk⟩|⟨hc,_⟩
   ·rcases ycC hsel hj (fun q hq=>hap q (by simp[hq])) (fun q hq=>hnr q (by simp[hq])) hk with ⟨u,hu,hk'⟩|⟨α,val,R,hr,hk'⟩
    ·refine .inl ⟨u,(Ym.put (hsel j oj · · hj) h1 v).1 hu,?_⟩
     refine⟨o,ho,.inl ⟨v,(Ym.put (hsel p.2 o · · ho) h3 u).2 hy,?_⟩⟩;rw[<-Act.put_comm a v u h2];exact hk'
    ·refine .inr ⟨α,val,R,(Rm.put (hsel j oj · · hj) h1 v).1 hr,fun x=> ?_⟩
     refine⟨o,ho,.inl ⟨v,((Ym.put (hsel p.2 o · · ho) h3 (val x)).2 hy).mono (fun w hw=>hw.1),?_⟩⟩;rw[<-Act.put_comm a v (val x) h2];exact hk' x
   ·exact absurd hc (hnr p (by simp))
theorem ycp {o:Oper} {a:Act} {S:X->B->Prop} {w:B} {K:Act->B->Prop}
 (h:yhS P w S ((execOp a.eval o).run P w)) (hK:∀v w',S v w'->K (a.put o.dst v) w'):o.wp P a w K Q:=by
 unfold Oper.wp;generalize (execOp a.eval o).run P w=r at*
 cases r with
 | halt x w'=>exact h.elim
 | ok nx w'=>
   cases nx with
   | value u=>exact hK _ _ h
   | enter f args=>
     obtain⟨e,hc⟩:=h;subst e
     exact hc.mono fun _ _ ⟨v,he,h'⟩=>by subst he;exact hK _ _ h'
   | _=>exact h.elim
def rem (L:List (Nat×Nat)) (listed:Array Bool):List (Nat×Nat):=L.filter fun p=> !listed.getD p.2 J
theorem je {listed:Array Bool} {p:Nat×Nat}:p ∈ rem L listed ↔ p ∈ L/\listed.getD p.2 J=U:=by
 simp[rem]
theorem yfh {listed:Array Bool} (nd:(L.map Prod.snd).Nodup) {pre post:List (Nat×Nat)} {c j:Nat} (hl:rem L listed=pre++(c,j)::post):rem L (listed.setIfInBounds j J)=pre++post:=by
 have hj:listed.getD j J=U:=by
  have:(c,j) ∈ rem L listed:=by rw[hl];simp
  exact(je.1 this).2
 have hs:j<listed.size:=by
  rcases Nat.lt_or_ge j listed.size with h|h
  ·exact h
  ·simp[Array.getD,Nat.not_lt.2 h]at hj
 have h1:rem L (listed.setIfInBounds j J)=(rem L listed).filter fun p=>decide (p.2≠j):=by
  unfold rem;rw[List.filter_filter]
  apply List.filter_congr
  intro x hx
  by_cases hxi:x.2=j
  ·rw[hxi]
   simp[Array.getD,hs]
  ·have:(listed.setIfInBounds j J).getD x.2 J=listed.getD x.2 J:=getD_set_ne J (fun e=>hxi e.symm)
   simp[this,hxi]
 have hnd:((rem L listed).map Prod.snd).Nodup:=nd.sublist (List.Sublist.map _ List.filter_sublist);rw[h1,hl];rw[hl,List.map_append,kJ]at hnd;obtain⟨_,n2,n3⟩:=List.nodup_append.1 hnd;have n2':=kF.1 n2;rw[List.filter_append,List.filter_cons_of_neg (by simp)]
 congr 1
 ·rw[E]
  intro p hp;have:=n3 p.2 (T.2 ⟨p,hp,rfl⟩) j (by simp)
  simpa using this
 ·rw[E]
  intro p hp;have:p.2≠j:=fun e=>n2'.1 (T.2 ⟨p,hp,e⟩)
  simpa using this
theorem ydi {I:B->Prop} {o:Oper} {a:Act} {v:X} {w:B} (hc:yeh P o) (hg:G w0 w) (hI:I w) (h:Ym P ops w0 I o a v):Yields P ops o v a:=by
 rcases h with ⟨h1,h2⟩|h
 ·refine .inl ⟨h1,?_⟩
  have h3:=h2 w hg hI;unfold Oper.quietAt at h3;rcases hc a.eval w with ⟨u,hu⟩|⟨x,w'',hx⟩
  ·rw[hu w]at h3
   obtain⟨_,e⟩:=h3;subst e;exact hu
  ·rw[hx]at h3
   exact h3.elim
 ·exact .inr h
theorem ybv {listed:Array Bool} {pre post:List (Nat×Nat)} {c j:Nat} (hl:rem L listed=pre++(c,j)::post):∃pre' post',L=pre'++(c,j)::post'/\(∀p ∈ pre,p ∈ pre')/\(∀p ∈ pre',listed.getD p.2 J=U->p ∈ pre):=by
 unfold rem at hl;obtain⟨l1,l2,rfl,h1,h2⟩:=List.filter_eq_append_iff.1 hl;obtain⟨m1,m2,rfl,h3,h4,h5⟩:=List.filter_eq_cons_iff.1 h2;refine⟨l1++m1,m2,by simp,fun p hp=> ?_,fun p hp hu=> ?_⟩
 ·rw[<-h1]at hp
  exact List.mem_append_left _ (kV.1 hp).1
 ·rcases List.mem_append.1 hp with hp|hp
  ·rw[<-h1]
   exact kV.2 ⟨hp,by simp[hu]⟩
  ·exact absurd (by simp[hu]) (h3 p hp)
theorem ydz (K:OkM ops L N D) (hcalm:∀i o,i ∈ D->ops[i]?=C o->yeh P o) (hQ:D=[]\/∀(d:Option Tmp) (v:X) c a w,Q (.panic c) (a.put d v) w->Q (.panic c) a w):
 ∀(k:Nat) (listed:Array Bool) (a:Act) (w:B) (I:B->Prop),(rem L listed).length=k->listed.size=ops.size->
  (∀t,N<=t->t<ops.size->listed.getD t J=U)->jg ops listed->(∀w w',I w->G w w'->I w')->G w0 w->I w->
  yei P ops w0 (fun a w=>wpList P ops Q (ops.toList.drop N) a w) (rem L listed) a I->
  wpAny P .any ops Q (k+(ops.size-N)) listed a w:=by
 intro k
 induction k with
 | zero=>
   intro listed a w I hk hs ht hc hI hw hIw h;have hr:rem L listed=[]:=M.1 hk;rw[hr]at h
   have hl:listed=zD N (ops.size-N):=by
    apply Array.ext
    ·simp[zD,hs];have:=K.size;omega
    ·intro i h1 h2
     by_cases hi:i<N
     ·obtain⟨c,hcm⟩:=(K.mem i).1 hi
      have:listed.getD i J=J:=by
       cases hg:listed.getD i J
       ·have:(c,i) ∈ rem L listed:=je.2 ⟨hcm,hg⟩
        rw[hr]at this;cases this
       ·rfl
      simp only[Array.getD,h1,dite_true]at this;rw[show(zD N (ops.size-N))[i]=J from by simp[zD,hi]];exact this
     ·have:=ht i (by omega) (by omega)
      simp only[Array.getD,h1,dite_true]at this;rw[show(zD N (ops.size-N))[i]=U from by simp[zD,Array.getElem_append,hi]];exact this
   have hf:=h w hw hIw
   have hlen:(ops.toList.drop N).length=ops.size-N:=by simp
   have:=wpAny_of_seq (P:=P) (md:= .any) (Q':=Q) (ops.toList.drop N) N listed a w (by intro j;simp) (by rw[hlen,hl];exact K.seq) hf;rw[hlen]at this
   simpa using this
 | succ k ih=>
   intro listed a w I hk hs ht hc hI hw hIw h
   have hne:rem L listed≠[]:=by intro e;rw[e]at hk;cases hk
   have e:k+1+(ops.size-N)=(k+(ops.size-N))+1:=by omega
   rw[e];obtain⟨⟨c0,i0⟩,r,hr0⟩:=List.exists_cons_of_ne_nil hne
   have hm0:(c0,i0) ∈ rem L listed:=by rw[hr0];simp
   obtain⟨hL0,hu0⟩:=je.1 hm0;have hi0:i0<N:=(K.mem i0).2 ⟨c0,hL0⟩
   have hlt0:i0<ops.size:=by have:=K.size;omega
   have ho0:ops[i0]?=C ops[i0]:=by simp[hlt0]
   have hready0:i0 ∈ Region.ready .any ops listed:=by
    refine mem_ready.2 ⟨hu0,ops[i0],ho0,fun e he hb=> ?_⟩;obtain⟨pre',post',hL,_,hback⟩:=ybv (pre:=[]) (post:=r) (by simpa using hr0);obtain⟨p,hp,hpe⟩:=K.back pre' c0 i0 post' hL ops[i0] ho0 e he hb
    have h1:listed.getD p.2 J=J:=by
     cases hg:listed.getD p.2 J
     ·exact absurd (hback p hp hg) (by simp)
     ·rfl
    rw[hpe]at h1
    have hon:e.on<N:=by rw[<-hpe];exact(K.mem p.2).2 ⟨p.1,by rw[hL];simp[hp]⟩
    have hes:e.on<listed.size:=by have:=K.size;omega
    simp only[Array.getD,hes,dite_true]at h1 ⊢;exact h1
   have hnext:∀(pre post:List (Nat×Nat)) (c i:Nat) (o:Oper),rem L listed=pre++(c,i)::post->ops[i]?=C o->(∀e ∈ o.after,Region.binds .any e=J->listed.getD e.on U=J)->
    (rem L (listed.setIfInBounds i J)).length=k/\(listed.setIfInBounds i J).size=ops.size/\(∀t,N<=t->t<ops.size->(listed.setIfInBounds i J).getD t J=U)/\jg ops (listed.setIfInBounds i J)/\rem L (listed.setIfInBounds i J)=pre++post:=by
    intro pre post c i o hsp ho hall
    have him:(c,i) ∈ rem L listed:=by rw[hsp];simp
    obtain⟨hiL,hu⟩:=je.1 him;have hiN:i<N:=(K.mem i).2 ⟨c,hiL⟩;have his:i<ops.size:=(Y.1 ho).1;have hrs:=yfh K.nd hsp;refine⟨?_,by simpa using hs,?_,?_,hrs⟩
    ·rw[hrs]
     rw[hsp]at hk;simp only[A,List.length_cons]at hk ⊢;omega
    ·intro t h1 h2
     rw[getD_set_ne J (by omega:¬i=t)];exact ht t h1 h2
    ·have hmono:∀x,listed.getD x U=J->(listed.setIfInBounds i J).getD x U=J:=by
      intro x hx
      by_cases e:i=x
      ·subst e
       have:i<listed.size:=by omega
       simp[Array.getD,this]
      ·rw[getD_set_ne U e]
       exact hx
     intro j oj hj hl e he hb
     by_cases e':i=j
     ·subst e'
      rw[ho]at hj;cases hj;exact hmono _ (hall e he hb)
     ·rw[getD_set_ne U e']at hl
      exact hmono _ (hc j oj hj hl e he hb)
   by_cases hall:∀p,p ∈ rem L listed->p.2 ∈ D
   ·have hD0:=hall _ hm0
    have hQ:∀(d:Option Tmp) (v:X) c a w,Q (.panic c) (a.put d v) w->Q (.panic c) a w:=by
     rcases hQ with e|hQ
     ·rw[e]at hD0
      cases hD0
     ·exact hQ
    have hc0:=K.zero c0 i0 hL0 hD0;subst hc0;have h':=h;rw[hr0]at h';obtain⟨o,ho,h'⟩:=h';rw[ho0]at ho;cases ho;rcases h' with ⟨v,hy,hL'⟩|⟨h',_⟩
    ·obtain⟨q1,q2,q3,q4,q5⟩:=hnext [] r 0 i0 ops[i0] (by simpa using hr0) ho0 (fun e he hb=>by
      obtain⟨_,o',ho',hall'⟩:=mem_ready.1 hready0;rw[ho0]at ho';cases ho'
      exact hall' e he hb)
     have hL2:yei P ops w0 (fun a w=>wpList P ops Q (ops.toList.drop N) a w) (rem L (listed.setIfInBounds i0 J)) (a.put ops[i0].dst v) I:=by
      rw[q5];exact hL'
     refine wpAny_first ho0 K.sel (hQ _ _) _ listed a w ?_ hready0 (ydi (hcalm i0 _ hD0 ho0) hw hIw hy) (ih _ _ w I q1 q2 q3 q4 hI hw hIw hL2);intro j oj hj hne' hun hno;have hjs:j<ops.size:=(Y.1 hj).1;rcases Nat.lt_or_ge j N with hjN|hjN
     ·refine K.drift i0 _ j oj hD0 ho0 hjN hne' hj hno (fun e he hb hon=> ?_)
      obtain⟨_,o',ho',hall'⟩:=mem_ready.1 hready0;rw[ho0]at ho';cases ho';have h1:=hall' e he hb;rw[hon]at h1
      have hes:j<listed.size:=by omega
      simp only[Array.getD,hes,dite_true]at h1 hun;rw[hun]at h1;cases h1
     ·exact K.late j oj hjN hj i0 _ hi0 hD0 ho0 hno
    ·cases h'
   ·have hex:∃p,p ∈ rem L listed/\p.2 ∉ D:=by
     by_cases hx:∃p,p ∈ rem L listed/\p.2 ∉ D
     ·exact hx
     ·exact absurd (fun p hp=>by
       by_cases hd:p.2 ∈ D
       ·exact hd
       ·exact absurd ⟨p,hp,hd⟩ hx) hall
    obtain⟨⟨cj,j0⟩,hj0,hjD⟩:=hex;obtain⟨hj0L,hj0u⟩:=je.1 hj0;have hj0N:j0<N:=(K.mem j0).2 ⟨cj,hj0L⟩;refine⟨fun hr=>(by rw[hr]at hready0;cases hready0),fun i hi=> ?_⟩;obtain⟨hu,o,ho,hall'⟩:=mem_ready.1 hi;have his:i<ops.size:=(Y.1 ho).1
    have hno:∀x,Rch ops i x->x<listed.size->listed.getD x J=U->False:=by
     intro x hx hxs hxu;have h1:=hx listed o ho hc hall';simp only[Array.getD,hxs,dite_true]at h1 hxu;rw[hxu]at h1;cases h1
    have hiN:i<N:=by
     rcases Nat.lt_or_ge i N with h'|h'
     ·exact h'
     ·exact(hno j0 (K.tail i h' his j0 hj0N hjD) (by have:=K.size;omega) hj0u).elim
    obtain⟨c,hcL⟩:=(K.mem i).1 hiN;have him:(c,i) ∈ rem L listed:=je.2 ⟨hcL,hu⟩;obtain⟨pre,post,hsp⟩:=List.append_of_mem him;obtain⟨pre',post',hL3,hin,_⟩:=ybv hsp
    have hpre:∀p ∈ pre,p.1≠2/\∀oi,ops[p.2]?=C oi->oi.apart ops o=J:=by
     intro p hp
     have hpm:p ∈ rem L listed:=by rw[hsp];simp[hp]
     obtain⟨hpL,hpu⟩:=je.1 hpm;have hpN:p.2<N:=(K.mem p.2).2 ⟨p.1,hpL⟩;rcases K.pair pre' c i post' hL3 p (hin p hp)with hR|⟨h2,hap⟩
     ·exact(hno p.2 hR (by have:=K.size;omega) hpu).elim
     ·exact⟨h2,fun oi hoi=>hap oi o hoi ho⟩
    obtain⟨q1,q2,q3,q4,q5⟩:=hnext pre post c i o hsp ho hall';rw[hsp]at h;unfold wpOp;simp only[ho];rcases ycC K.sel ho (fun p hp=>(hpre p hp).2) (fun p hp=>(hpre p hp).1) h with ⟨v,hy,hL4⟩|⟨α,val,R,hr,hL4⟩
    ·rw[<-q5]at hL4
     rcases hy with ⟨hwant,hq⟩|⟨hwant,rfl⟩
     ·rw[if_pos hwant]
      left;exact xV (hq w hw hIw) G.rfl (fun w' hg=>ih _ _ w' I q1 q2 q3 q4 hI (hw.trans hg) (hI _ _ hIw hg) hL4)
     ·rw[if_neg (by rw[hwant];exact Bool.false_ne_true)]
      exact ih _ _ w I q1 q2 q3 q4 hI hw hIw hL4
    ·obtain⟨hwant,hst,hrel⟩:=hr
     rw[if_pos hwant];left;refine ycp (hrel w hw hIw) (fun v w' hS=> ?_);obtain⟨hg,x,rfl,hR⟩:=hS;have:=hL4 x;rw[<-q5]at this;exact ih _ _ w' _ q1 q2 q3 q4 (fun y z hy hg'=>⟨hI _ _ hy.1 hg',hst x _ _ hy.2 hg'⟩) (hw.trans hg) ⟨hI _ _ hIw hg,hR⟩ this
def yiz (P:Program) (o:Oper) (a:Act) (w0:B) (I:B->Prop) (K:Act->Prop):Prop:=
 ∃v,(∀p:Regrown,I (grow (redrawn w0 p.d) p.os)->Oper.quietUpon P (fun w''=>G (grow (redrawn w0 p.d) p.os) w'') (grow (redrawn w0 p.d) p.os) v ((execOp a.eval o).run P (grow (redrawn w0 p.d) p.os)))/\K (a.put o.dst v)
def yiA (P:Program) (o:Oper) (a:Act) (w0:B) (I:B->Prop) (K:Act->(B->Prop)->Prop):Prop:=
 ∃(α:Type) (val:α->X) (R:α->B->Prop),(∀x w w',R x w->G w w'->R x w')/\(∀p:Regrown,I (grow (redrawn w0 p.d) p.os)->yhS P (grow (redrawn w0 p.d) p.os) (fun v w'=>G (grow (redrawn w0 p.d) p.os) w'/\∃x,v=val x/\R x w') ((execOp a.eval o).run P (grow (redrawn w0 p.d) p.os)))/\∀x,K (a.put o.dst (val x)) (fun w=>I w/\R x w)
def qe (P:Program) (ops:Array Oper) (w0:B) (K:Act->(B->Prop)->Prop):List Nat->List Oper->Act->(B->Prop)->Prop
 | _,[],a,I=>K a I
 | [],_::_,_,_=>False
 | c::cs,o::os,a,I=>if Region.wanted o (yielded ops a.tmps)then
    (if c=0 then gent P o a w0 (fun a'=>qe P ops w0 K cs os a' I)else if c=1 then yiz P o a w0 I (fun a'=>qe P ops w0 K cs os a' I)else if c=2 then yiA P o a w0 I (fun a' I'=>qe P ops w0 K cs os a' I')else False)
   else qe P ops w0 K cs os (a.put o.dst undef) I
theorem yhD {K:Act->(B->Prop)->Prop} {cs:List Nat} {a:Act} {I:B->Prop} (h:K a I):qe P ops w0 K cs [] a I:=by
 cases cs<;>exact h
theorem yhm {K:Act->(B->Prop)->Prop} {cs:List Nat} {os:List Oper} {a:Act} {I:B->Prop} {o:Oper}
 (h:∀k:Act->Prop,(∀a,qe P ops w0 K cs os a I->k a)->if Region.wanted o (yielded ops a.tmps)then gent P o a w0 k else k (a.put o.dst undef)):qe P ops w0 K (0::cs) (o::os) a I:=by
 have:=h _ (fun _ h=>h);unfold qe
 simpa using this
theorem ygH {K:Act->(B->Prop)->Prop} {cs:List Nat} {os:List Oper} {a:Act} {I:B->Prop} {o:Oper}
 (h:∀k:Act->Prop,(∀a,qe P ops w0 K cs os a I->k a)->if Region.wanted o (yielded ops a.tmps)then yiz P o a w0 I k else k (a.put o.dst undef)):qe P ops w0 K (1::cs) (o::os) a I:=by
 have:=h _ (fun _ h=>h);unfold qe
 simpa using this
theorem yhE {K:Act->(B->Prop)->Prop} {cs:List Nat} {os:List Oper} {a:Act} {I:B->Prop} {o:Oper}
 (h:∀k:Act->(B->Prop)->Prop,(∀a I',qe P ops w0 K cs os a I'->k a I')->if Region.wanted o (yielded ops a.tmps)then yiA P o a w0 I k else k (a.put o.dst undef) I):qe P ops w0 K (2::cs) (o::os) a I:=by
 have:=h _ (fun _ _ h=>h);unfold qe
 simpa using this
theorem yb8 {K:Act->(B->Prop)->Prop} (hK:∀a I,K a I->yei P ops w0 Fin [] a I) (os:List Oper):
 ∀(cs ix:List Nat) (a:Act) (I:B->Prop),cs.length=os.length->ix.length=os.length->(∀(k i:Nat) (o:Oper),ix[k]?=C i->os[k]?=C o->ops[i]?=C o)->qe P ops w0 K cs os a I->yei P ops w0 Fin (cs.zip ix) a I:=by
 induction os with
 | nil=>
   intro cs ix a I h1 h2 h3 h;obtain rfl:cs=[]:=M.1 (by simpa using h1);obtain rfl:ix=[]:=M.1 (by simpa using h2);exact hK a I h
 | cons o os ih=>
   intro cs ix a I h1 h2 h3 h
   cases cs with
   | nil=>simp at h1
   | cons c cs=>
   cases ix with
   | nil=>simp at h2
   | cons i ix=>
   have h0:ops[i]?=C o:=h3 0 i o rfl rfl;have ih:=fun a' I'=>ih cs ix a' I' (by simpa using h1) (by simpa using h2) (fun k i' o' e1 e2=>h3 (k+1) i' o' (by simpa using e1) (by simpa using e2));refine⟨o,h0,?_⟩;unfold qe at h
   by_cases hw:Region.wanted o (yielded ops a.tmps)=J
   ·rw[if_pos hw]at h
    by_cases c0:c=0
    ·rw[if_pos c0]at h
     obtain⟨v,hv,hk⟩:=h;refine .inl ⟨v,.inl ⟨hw,fun w hg _=> ?_⟩,ih _ _ hk⟩;obtain⟨p,rfl⟩:=regrown_of_below hg;exact hv p
    ·rw[if_neg c0]at h
     by_cases c1:c=1
     ·rw[if_pos c1]at h
      obtain⟨v,hv,hk⟩:=h;refine .inl ⟨v,.inl ⟨hw,fun w hg hI=> ?_⟩,ih _ _ hk⟩;obtain⟨p,rfl⟩:=regrown_of_below hg;exact hv p hI
     ·rw[if_neg c1]at h
      by_cases c2:c=2
      ·rw[if_pos c2]at h
       obtain⟨α,val,R,hst,hv,hk⟩:=h;refine .inr ⟨c2,α,val,R,⟨hw,hst,fun w hg hI=> ?_⟩,fun x=>ih _ _ (hk x)⟩;obtain⟨p,rfl⟩:=regrown_of_below hg;exact hv p hI
      ·rw[if_neg c2]at h
       exact h.elim
   ·rw[if_neg hw]at h
    exact .inl ⟨undef,.inr ⟨by simpa using hw,rfl⟩,ih _ _ h⟩
def yhI (l:List Oper) (segs:List (Nat×Nat)):List Oper:=segs.flatMap fun s=>(l.take s.2).drop s.1
def ycf (segs:List (Nat×Nat)):List Nat:=segs.flatMap fun s=>g s.1 (s.2-s.1)
theorem yfg (l:List Oper) (k s n i:Nat) (o:Oper) (h1:(g s n)[k]?=C i) (h2:((l.take (s+n)).drop s)[k]?=C o):l[i]?=C o:=by
 have hk:k<n:=by
  have:=(List.getElem?_eq_some_iff.1 h1).1
  simpa using this
 rw[List.getElem?_range' (by omega)]at h1
 have:s+k=i:=by simpa using h1
 rw[<-this];rw[List.getElem?_drop,List.getElem?_take,if_pos (by omega)]at h2;exact h2
theorem ycA (l:List Oper):∀(segs:List (Nat×Nat)),(∀s ∈ segs,s.1<=s.2/\s.2<=l.length)->(yhI l segs).length=(ycf segs).length/\∀(k i:Nat) (o:Oper),(ycf segs)[k]?=C i->(yhI l segs)[k]?=C o->l[i]?=C o
 | [],_=>⟨rfl,fun k i o h=>by simp[ycf]at h⟩
 | s::segs,hs=>by
   obtain⟨h1,h2⟩:=ycA l segs (fun t ht=>hs t (by simp[ht]));obtain⟨g1,g2⟩:=hs s (by simp)
   have hl:((l.take s.2).drop s.1).length=s.2-s.1:=by rw[List.length_drop,List.length_take,Nat.min_eq_left g2]
   have e1:yhI l (s::segs)=(l.take s.2).drop s.1++yhI l segs:=by simp[yhI]
   have e2:ycf (s::segs)=g s.1 (s.2-s.1)++ycf segs:=by simp[ycf]
   refine⟨by rw[e1,e2,A,A,h1,hl,kP],fun k i o hi ho=> ?_⟩;rw[e2]at hi;rw[e1]at ho
   by_cases hk:k<s.2-s.1
   ·rw[W (by simpa using hk)]at hi
    rw[W (by rw[hl];exact hk)]at ho;exact yfg l k s.1 (s.2-s.1) i o hi (by rw[show s.1+(s.2-s.1)=s.2 by omega];exact ho)
   ·rw[H (by simpa using hk)]at hi
    rw[H (by rw[hl];omega)]at ho;rw[hl]at ho;rw[kP]at hi;exact h2 _ i o hi ho
def yfO (l:List Oper) (segs:List (Nat×Nat)) (cl:List Nat) (N:Nat) (D:List Nat):Bool:=
 (segs.all fun s=>decide (s.1<=s.2)&&decide (s.2<=l.length))&&decide (cl.length=(ycf segs).length)&&yfG l.toArray (cl.zip (ycf segs)) N D
theorem yg0 {id:Nat} {a:Act} {w:B} {l:List Oper} (segs:List (Nat×Nat)) (cl:List Nat) (N:Nat) (D:List Nat) (hm:P.follows .mixedOrders=J) (hB:yfO l segs cl N D=J)
 (hc:∀i o,i ∈ D->l[i]?=C o->yeh P o) (hQ:D=[]\/∀(d:Option Tmp) (v:X) c a w,Q (.panic c) (a.put d v) w->Q (.panic c) a w)
 (h:qe P l.toArray w (fun a' I=>∀w',Below w.heap.size w w'->I w'->wpList P l.toArray Q (l.drop N) a' w') cl (yhI l segs) a (fun _=>True)):(Code.region id l.toArray J).wp P Q a w:=by
 simp only[yfO,V,decide_eq_true_eq,Z]at hB;obtain⟨⟨hs,hcl⟩,hB⟩:=hB;have K:=yft hB;obtain⟨hlen,hat⟩:=ycA l segs hs;refine wp_region_any hm ?_
 have hr:rem (cl.zip (ycf segs)) (kQ l.toArray.size U)=cl.zip (ycf segs):=by
  unfold rem;rw[E];intro p hp;have hpN:p.2<N:=(K.mem p.2).2 ⟨p.1,hp⟩
  have:p.2<l.length:=by have:=K.size;simp at this;omega
  simp[Array.getD,this]
 have hL:yei P l.toArray w (fun a w=>wpList P l.toArray Q (l.toArray.toList.drop N) a w) (cl.zip (ycf segs)) a (fun _=>True):=by
  refine yb8 (K:=fun a' I=>∀w',Below w.heap.size w w'->I w'->wpList P l.toArray Q (l.drop N) a' w') (fun a' I hk w' hg hI=>hk w' hg hI) (yhI l segs) cl (ycf segs) a _ (by rw[hcl,hlen]) hlen.symm (fun k i o e1 e2=>by simpa using hat k i o e1 e2) h
 have hln:(cl.zip (ycf segs)).length=N:=by
  have h1:((cl.zip (ycf segs)).map Prod.snd).length=N:=by
   have hsub:((cl.zip (ycf segs)).map Prod.snd).Perm (List.range N):=by
    refine(List.perm_ext_iff_of_nodup K.nd List.nodup_range).2 fun i=> ?_;rw[kI,K.mem i];constructor
    ·intro hi
     obtain⟨p,hp,rfl⟩:=T.1 hi;exact⟨p.1,hp⟩
    ·rintro ⟨c,hc⟩
     exact T.2 ⟨_,hc,rfl⟩
   rw[hsub.length_eq,List.length_range]
  simpa using h1
 have:=ydz (w0:=w) K (fun i o hi ho=>hc i o hi (by simpa using ho)) hQ N (kQ l.toArray.size U) a {w with drawn:=w.drawn+1} (fun _=>True) (by rw[hr];exact hln) (by simp)
  (fun t _ ht=>by simp only[Array.getD,Array.size_replicate,ht,dite_true];simp) (ve _) (fun _ _ _ _=>trivial) (show Below _ _ _ from⟨rfl,rfl,rfl,Nat.le_refl _,fun _ _=>rfl⟩) trivial (by rw[hr];exact hL)
 have hN:=K.size
 rwa [show N+(l.toArray.size-N)=l.toArray.size from by omega]at this
end
end Go.Proofs.YtdphiompijbelaaGreat.Loose
