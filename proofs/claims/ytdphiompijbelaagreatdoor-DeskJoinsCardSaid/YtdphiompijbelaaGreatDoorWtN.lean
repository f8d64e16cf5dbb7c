import Derived.Test.YtdphiompijbelaaGreatDoorWtF
set_option linter.all false
set_option maxRecDepth 100000
open Nat renaming le_refl->H,le_trans->kJ
open Go renaming World->O,bodyPost_ret->y,heap_alloc_new->l,cell_later->kP,Calls->kS
open Go.RowKit renaming Hid->U
open Bool renaming false->Z
open Go.Obj renaming cells->Q
open Go.World renaming cell?->R,block_lt_of_cell?->T,cell?_setCell_other->K,cell?_setCell_same->M,frozen?->kI
open Option renaming none->B,some->S
open Go.IntKind renaming i64->J
open Go.Value renaming int->I,bool->C,pointer->N,tuple->t,agg->kB
set_option maxHeartbeats 4000000
namespace Go.Proofs.YtdphiompijbelaaGreatDoor
open Go.RowKit Go.Sort
section
attribute [local go_sem] Loose.gent
structure qw (w:O) (b:Nat) (X:Pg.Spc) (L L0:List Pg.Mp) (ti:Int) (F:Nat->Prop):Prop where
 ex:∃D fl st A,Wtk w b D X fl L ti st A/\Pg.WOk X L L0 fl L D.d A/\F=D.F b
section
variable {w w':O} {b:Nat} {X:Pg.Spc} {L L0:List Pg.Mp} {ti:Int} {F G:Nat->Prop}
theorem qw.lt (h:qw w b X L L0 ti F) {k:Nat} (hk:F k):k<w.heap.size:=by
 obtain⟨D,fl,st,A,h,_,rfl⟩:=h;exact h.lt hk
theorem qw.keep (h:qw w b X L L0 ti F) (hb:But G w w') (hF:∀k,F k->¬G k):qw w' b X L L0 ti F:=by
 obtain⟨D,fl,st,A,h,ok,rfl⟩:=h;exact⟨D,fl,st,A,h.keep hb hF,ok,rfl⟩
theorem qw.grow (h:qw w b X L L0 ti F) (hb:Below w.heap.size w w'):qw w' b X L L0 ti F:=h.keep (G:=fun _=>False) (But.yhl hb) (fun _ _=>id)
theorem qw.inv (h:qw w b X L L0 ti F):Pg.Inv X L L0:=by
 obtain⟨D,fl,st,A,h,ok,rfl⟩:=h;exact ok.inv
theorem qw.space (h:qw w b X L L0 ti F):∃sp Fs,w.cell? ⟨b,0,B⟩=S (N (S ⟨sp,0,B⟩))/\vP w sp X Fs:=by
 obtain⟨D,fl,st,A,h,ok,rfl⟩:=h;exact⟨D.sp,D.Fs,h.c0,h.parts.space⟩
end
structure ya4 (w:O) (b:Nat) (D:Wtd) (n:Nat) (x:Pg.Sx) (mb:Nat) (e:Pg.Ev):Prop where
 sx:w.heap[n]?=S (zu x)
 re:w.heap[n+1]?=S (Q #[I J 0,C Z,I J 0,I J 0,I J 0,C Z] 73 (0,0))
 rf:w.heap[n+2]?=S (Q #[I J 0,I J 0] 33 (0,0))
 e0:w.cell? ⟨mb,0,B⟩=S (I J e.c)
 e1:w.cell? ⟨mb,1,B⟩=S (C e.ended)
 e2:w.cell? ⟨mb,2,B⟩=S (I J e.a)
 e3:w.cell? ⟨mb,3,B⟩=S (I J e.f)
 e4:w.cell? ⟨mb,4,B⟩=S (I J e.r)
 e5:w.cell? ⟨mb,5,B⟩=S (C e.back)
 nF:∀j,j<3->¬D.F b (n+j)
 nM:¬D.F b mb
 lt:n+2<mb
theorem ya4.done {w w':O} {b:Nat} {D D':Wtd} {n:Nat} {x:Pg.Sx} {mb:Nat} {e:Pg.Ev} (h:ya4 w b D n x mb e) (hd:ze w b D w' D'):ya4 w' b D' n x mb e:=by
 have hl:=h.lt;have hm:mb<w.heap.size:=T _ _ h.e0;obtain⟨a1,a2,_⟩:=hd.block (h.nF 0 (by decide)) (show n+0<_ by omega);obtain⟨b1,b2,_⟩:=hd.block (h.nF 1 (by decide)) (show n+1<_ by omega);obtain⟨c1,c2,_⟩:=hd.block (h.nF 2 (by decide)) (show n+2<_ by omega);obtain⟨m1,m2,_⟩:=hd.block h.nM hm;have ec:∀p,w'.cell? ⟨mb,p,B⟩=w.cell? ⟨mb,p,B⟩:=fun p=>World.cell?_of_block (a:=⟨mb,p,B⟩) m1;refine⟨a1.trans h.sx,b1.trans h.re,c1.trans h.rf,(ec _).trans h.e0,(ec _).trans h.e1,(ec _).trans h.e2,(ec _).trans h.e3,(ec _).trans h.e4,(ec _).trans h.e5,fun j hj=> ?_,m2,hl⟩
 obtain rfl|rfl|rfl:j=0\/j=1\/j=2:=by omega
 ·exact a2
 ·exact b2
 ·exact c2
theorem yfS {w W W1 w4 Wa:O} {b mb:Nat} {D:Wtd} {X X':Pg.Spc} {fl nw:List Pg.Mp} {ti st:Int} {A:Ans} {Fs' Y:Nat->Prop} {x:Pg.Sx} {e:Pg.Ev} (h:Wtk w b D X fl nw ti st A) (hB:Below w.heap.size w W) (hs:W.heap.size=w.heap.size+3)
 (q1:W.heap[w.heap.size]?=S (zu x)) (q2:W.heap[w.heap.size+1]?=S (Q #[I J 0,C Z,I J 0,I J 0,I J 0,C Z] 73 (0,0))) (q3:W.heap[w.heap.size+2]?=S (Q #[I J 0,I J 0] 33 (0,0)))
 (hB1:Below W.heap.size W W1) (hsp:vP w4 D.sp X' Fs') (hb:But D.Fs W1 w4) (hF:∀k,Fs' k->D.Fs k\/W1.heap.size<=k) (hY:But Y w4 Wa) (hYm:∀k,Y k->k=mb) (hmb:W.heap.size<=mb) (hnm:¬Fs' mb)
 (e0:Wa.cell? ⟨mb,0,B⟩=S (I J e.c)) (e1:Wa.cell? ⟨mb,1,B⟩=S (C e.ended)) (e2:Wa.cell? ⟨mb,2,B⟩=S (I J e.a)) (e3:Wa.cell? ⟨mb,3,B⟩=S (I J e.f)) (e4:Wa.cell? ⟨mb,4,B⟩=S (I J e.r)) (e5:Wa.cell? ⟨mb,5,B⟩=S (C e.back)):
 ∃D1,Wtk Wa b D1 X' fl nw ti st A/\D1.d=D.d/\ze w b D Wa D1/\ya4 Wa b D1 w.heap.size x mb e:=by
 have hlt:∀k,D.F b k->k<w.heap.size:=fun k hk=>h.lt hk;have T4:=((h.grow hB).grow hB1).ylG hsp hb hF;have hs1:=hB1.size;have hs4:=hb.size
 have own:∀k,Wtd.F {D with Fs:=Fs',own:=fun k=>if k<W1.heap.size then D.own k else 1} b k->D.F b k\/Fs' k:=fun k hk=>by
  rcases hk with hk|hk|hk|hk|hk
  ·exact .inl (.inl hk)
  ·exact .inr hk
  ·exact .inl (.inr (.inr (.inl hk)))
  ·exact .inl (.inr (.inr (.inr (.inl hk))))
  ·exact .inl (.inr (.inr (.inr (.inr hk))))
 have nF:∀k,w.heap.size<=k->k<W1.heap.size->¬Wtd.F {D with Fs:=Fs',own:=fun k=>if k<W1.heap.size then D.own k else 1} b k:=fun k h1 h2 hk=>by
  rcases own k hk with hk|hk
  ·have:=hlt k hk;omega
  ·rcases hF k hk with hk|hk
   ·have:=hlt k (.inr (.inl hk));omega
   ·omega
 have nm:¬Wtd.F {D with Fs:=Fs',own:=fun k=>if k<W1.heap.size then D.own k else 1} b mb:=fun hk=>by
  rcases own mb hk with hk|hk
  ·have:=hlt mb hk;omega
  ·exact hnm hk
 have blk:∀k o,w.heap.size<=k->k<W.heap.size->W.heap[k]?=S o->Wa.heap[k]?=S o:=fun k o h1 h2 hk=>by
  have a1:=(hB1.block k h2).trans hk;have a2:=(hb.block k (by omega) (fun hf=>by have:=hlt k (.inr (.inl hf));omega)).trans a1;exact(hY.block k (by omega) (fun hy=>by have:=hYm k hy;omega)).trans a2
 refine⟨_,T4.keep hY fun k hk hy=> ?_,rfl,⟨⟨?_,?_,?_,?_,fun k hk hf=> ?_⟩,fun k hk=> ?_⟩,⟨blk _ _ (by omega) (by omega) q1,blk _ _ (by omega) (by omega) q2,blk _ _ (by omega) (by omega) q3,e0,e1,e2,e3,e4,e5,fun j hj=>nF _ (by omega) (by omega),nm,by omega⟩⟩
 ·rw[hYm k hy]at hk
  exact nm hk
 ·exact hY.os.trans (hb.os.trans (hB1.os.trans hB.os))
 ·exact hY.tape.trans (hb.tape.trans (hB1.tape.trans hB.tape))
 ·exact hY.output.trans (hb.output.trans (hB1.output.trans hB.output))
 ·have:=hY.size;have:=hB.size;omega
 ·have hk1:k<W.heap.size:=by omega
  have a1:=(hB1.block k hk1).trans (hB.block k hk);have a2:=(hb.block k (by omega) (fun e=>hf (.inr (.inl e)))).trans a1;exact(hY.block k (by omega) (fun hy=>by have:=hYm k hy;omega)).trans a2
 ·rcases own k hk with hk|hk
  ·exact .inl hk
  ·rcases hF k hk with hk|hk
   ·exact .inl (.inr (.inl hk))
   ·exact .inr (by omega)
theorem ycP {b:Nat} {X:Pg.Spc} {L L0:List Pg.Mp} {ti:Int} {F:Nat->Prop} (x:Pg.Sx) (hx:xi x) (w:O) (h:qw w b X L L0 ti F) (hti:0<=ti/\ti<4611686018427387904):
 kS Tryz.prog 77 #[N (S ⟨b,0,B⟩),x.val] w fun e w'=>e= .returned (t #[(X.goE x).val,kB #[I J 0,I J 0]])/\∃F',qw w' b (X.goN x) (X.nxL L x) (X.nxP L L0 x) (ti+X.chg x) F'/\But F w w'/\∀k,F' k->F k\/w.heap.size<=k:=by
 obtain⟨D,fl,st,A,h,ok,rfl⟩:=h;obtain⟨W,hW⟩:∃W,W=((w.alloc (zu x)).alloc (Q #[I J 0,C Z,I J 0,I J 0,I J 0,C Z] 73)).alloc (Q #[I J 0,I J 0] 33):=⟨_,rfl⟩
 have hB:Below w.heap.size w W:=by rw[hW];exact zA (zA (zA (zR _) _) _) _
 have hs:W.heap.size=w.heap.size+3:=by rw[hW];simp
 have hbl:=h.lb;have TW:U _:=h.grow hB;obtain⟨q1,q2,q3⟩:=ycB w (zu x) (Q #[I J 0,C Z,I J 0,I J 0,I J 0,C Z] 73) (Q #[I J 0,I J 0] 33);rw[<-hW]at q1 q2 q3
 have MADE:U (∀{W1 w4 Wa:O} {mb:Nat} {Fs' Y:Nat->Prop},Below W.heap.size W W1->vP w4 D.sp (X.goN x) Fs'->But D.Fs W1 w4->(∀k,Fs' k->D.Fs k\/W1.heap.size<=k)->But Y w4 Wa->(∀k,Y k->k=mb)->W.heap.size<=mb->¬Fs' mb->
  Wa.cell? ⟨mb,0,B⟩=S (I J (X.goE x).c)->Wa.cell? ⟨mb,1,B⟩=S (C (X.goE x).ended)->Wa.cell? ⟨mb,2,B⟩=S (I J (X.goE x).a)->Wa.cell? ⟨mb,3,B⟩=S (I J (X.goE x).f)->Wa.cell? ⟨mb,4,B⟩=S (I J (X.goE x).r)->Wa.cell? ⟨mb,5,B⟩=S (C (X.goE x).back)->
  ∃D1,Wtk Wa b D1 (X.goN x) fl L ti st A/\D1.d=D.d/\ze w b D Wa D1/\ya4 Wa b D1 w.heap.size x mb (X.goE x)):=fun a1 a2 a3 a4 a5 a6 a7 a8=>yfS h hB hs q1 q2 q3 a1 a2 a3 a4 a5 a6 a7 a8
 have c0:=TW.out.c0;have FST:∀k,D.Fs k->k<w.heap.size:=fun k hk=>h.lt (.inr (.inl hk));have nsb:¬D.Fs b:=fun e=>h.F_ne e rfl;have HS:=fun w' (h':Wtk w' b D X fl L ti st A)=>yaL.step x w' hx ok.inv h'.parts.space;have FOL:=fun w' D' (h':Wtk w' b D' (X.goN x) fl L ti st A) (hd:D'.d=D.d)=>ybR x hx (by rw[hd];exact ok) w' h' hti
 have x0:∀p v,(#[I J x.kind,I J x.core,I J x.m.p,I J x.m.s,I J x.m.f,I J x.m.r,I J x.q,I J x.k,C x.u]:Array Value)[p]?=S v->W.cell? ⟨w.heap.size,p,B⟩=S v:=fun p v hp=>by
  unfold zu at q1;simp[R,q1,hp]
 have x1:=x0 0 _ rfl;have x2:=x0 1 _ rfl;have x3:=x0 2 _ rfl;have x4:=x0 3 _ rfl;have x5:=x0 4 _ rfl;have x6:=x0 5 _ rfl;have x7:=x0 6 _ rfl;have x8:=x0 7 _ rfl;have x9:=x0 8 _ rfl;have HBW:U _:=hB
 have hbW:b<W.heap.size:=by omega
 have hnW:w.heap.size<W.heap.size:=by omega
 have nsn:¬D.Fs w.heap.size:=fun e=>by have:=FST _ e;omega
 have n1:b≠W.heap.size:=by omega
 have n2:w.heap.size≠W.heap.size:=by omega
 have n3:W.heap.size≠b:=by omega
 have n4:W.heap.size≠w.heap.size:=by omega
 have HWS:U (W.heap.size=w.heap.size+3):=hs;clear hs;clear x0 h q1 q2 q3 hx hB ok;generalize hE:X.goE x=E at*;generalize hN:X.goN x=X' at*;generalize X.nxL L x=L' at*;generalize X.nxP L L0 x=L0' at*;generalize X.chg x=cg at*;clear hE hN;obtain⟨kd,co,⟨p,s,f,r⟩,q,k,u⟩:=x;obtain⟨ec,en,ea,ef,er,eb⟩:=E;simp only[Pg.Sx.val,Pg.Ev.val,zu]at hW HS FOL MADE x1 x2 x3 x4 x5 x6 x7 x8 x9 ⊢
 go_enter Tryz.func77,Tryz.ntmps77
 go_upto_region 1 with fail
 rw[<-hW];clear hW
 go_region_held3 (fun w'=>w'.cell? ⟨b,0,B⟩=S (N (S ⟨D.sp,0,B⟩))/\w'.cell? ⟨w.heap.size,0,B⟩=S (I J kd)/\w'.cell? ⟨w.heap.size,1,B⟩=S (I J co)/\w'.cell? ⟨w.heap.size,2,B⟩=S (I J p)/\w'.cell? ⟨w.heap.size,3,B⟩=S (I J s)/\w'.cell? ⟨w.heap.size,4,B⟩=S (I J f)/\w'.cell? ⟨w.heap.size,5,B⟩=S (I J r)/\w'.cell? ⟨w.heap.size,6,B⟩=S (I J q)/\w'.cell? ⟨w.heap.size,7,B⟩=S (I J k)/\w'.cell? ⟨w.heap.size,8,B⟩=S (C u)) (go_keep) (
  (go_at_call 119;refine(HS _ (TW.out.grow (by first|exact(zA (zR W) _).drew|exact zA (zR W) _|exact(zR W).drew|exact zR W))).mono ?_;rintro e w4 ⟨rfl,Fs',h4,hb4,hF4⟩
   have H4:U _:=h4;have HB4:U _:=hb4;have HF4:U _:=hF4;have s4:W.heap.size<=w4.heap.size:=kJ (by first|exact H _|simp) hb4.size;have v0:=zm hb4 (by first|exact(zA (zR W) _).drew|exact zA (zR W) _|exact(zR W).drew|exact zR W) hbW nsb c0;have v1:=zm hb4 (by first|exact(zA (zR W) _).drew|exact zA (zR W) _|exact(zR W).drew|exact zR W) hnW nsn x1;have v2:=zm hb4 (by first|exact(zA (zR W) _).drew|exact zA (zR W) _|exact(zR W).drew|exact zR W) hnW nsn x2;have v3:=zm hb4 (by first|exact(zA (zR W) _).drew|exact zA (zR W) _|exact(zR W).drew|exact zR W) hnW nsn x3;have v4:=zm hb4 (by first|exact(zA (zR W) _).drew|exact zA (zR W) _|exact(zR W).drew|exact zR W) hnW nsn x4;have v5:=zm hb4 (by first|exact(zA (zR W) _).drew|exact zA (zR W) _|exact(zR W).drew|exact zR W) hnW nsn x5;have v6:=zm hb4 (by first|exact(zA (zR W) _).drew|exact zA (zR W) _|exact(zR W).drew|exact zR W) hnW nsn x6;have v7:=zm hb4 (by first|exact(zA (zR W) _).drew|exact zA (zR W) _|exact(zR W).drew|exact zR W) hnW nsn x7;have v8:=zm hb4 (by first|exact(zA (zR W) _).drew|exact zA (zR W) _|exact(zR W).drew|exact zR W) hnW nsn x8;have v9:=zm hb4 (by first|exact(zA (zR W) _).drew|exact zA (zR W) _|exact(zR W).drew|exact zR W) hnW nsn x9
   have lb4:b<w4.heap.size:=by omega
   have ln4:w.heap.size<w4.heap.size:=by omega
   have ub:b≠w4.heap.size:=by omega
   have ux:w.heap.size≠w4.heap.size:=by omega
   have ub':w4.heap.size≠b:=by omega
   have ux':w4.heap.size≠w.heap.size:=by omega
   have NM:U (¬Fs' w4.heap.size):=fun e=>by have:=h4.lt e;omega
   first
    | (have hA:But D.Fs W.drew w4:=hb4;clear hA)
    | (have hblk:w4.heap[W.heap.size]?=S (Q #[I J 0,C Z,I J 0,I J 0,I J 0,C Z] 73 (0,0)):=(hb4.block W.heap.size (by simp) (fun e=>by have:=FST _ e;omega)).trans (l W (Q #[I J 0,C Z,I J 0,I J 0,I J 0,C Z] 73))
       have hs4:W.heap.size<w4.heap.size:=(Array.getElem?_eq_some_iff.1 hblk).1;have NW:U (¬Fs' W.heap.size):=fun e=>(hF4 _ e).elim (fun e=>by have:=FST _ e;omega) (fun e=>by simp at e;omega)
       obtain⟨⟨a0,a1,a2,a3,a4,a5⟩,af⟩:=z9 hblk)
   clear h4 hb4 hF4))
 focus
  obtain⟨Wa,hWa⟩:∃Wa,Wa=w4.alloc (Q #[I J ec,C en,I J ea,I J ef,I J er,C eb] 73):=⟨_,rfl⟩;rw[<-hWa];obtain⟨D1,T1,d1,DN1,BS1⟩:=MADE.out (Wa:=Wa) (mb:=w4.heap.size) (xb W) H4.out HB4.out HF4.out (Y:=fun _=>False) (by rw[hWa];exact But.yhl (zA (zR w4) _)) (fun _ h=>h.elim) s4 NM.out (by rw[hWa];simp[go_sem]) (by rw[hWa];simp[go_sem]) (by rw[hWa];simp[go_sem]) (by rw[hWa];simp[go_sem]) (by rw[hWa];simp[go_sem]) (by rw[hWa];simp[go_sem]);clear hWa;generalize w4.heap.size=mb at*;clear v0 v1 v2 v3 v4 v5 v6 v7 v8 v9 lb4 ln4 ub ux ub' ux'
 rotate_left
 focus
  obtain⟨Wa,hWa⟩:∃Wa,Wa=(((((w4.setCell ⟨W.heap.size,0,B⟩ (I J ec)).setCell ⟨W.heap.size,1,B⟩ (C en)).setCell ⟨W.heap.size,2,B⟩ (I J ea)).setCell ⟨W.heap.size,3,B⟩ (I J ef)).setCell ⟨W.heap.size,4,B⟩ (I J er)).setCell ⟨W.heap.size,5,B⟩ (C eb):=⟨_,rfl⟩;rw[<-hWa];obtain⟨D1,T1,d1,DN1,BS1⟩:=MADE.out (Wa:=Wa) (mb:=W.heap.size) ((zA (zR W) (Q #[I J 0,C Z,I J 0,I J 0,I J 0,C Z] 73)).drew) H4.out HB4.out HF4.out (Y:=fun j=>j=W.heap.size) (by rw[hWa];exact ybT _ _ _ _ _ _ _ _) (fun _ h=>h) (H _) NW.out (by rw[hWa];simp[go_sem,a0,a1,a2,a3,a4,a5]) (by rw[hWa];simp[go_sem,a0,a1,a2,a3,a4,a5]) (by rw[hWa];simp[go_sem,a0,a1,a2,a3,a4,a5]) (by rw[hWa];simp[go_sem,a0,a1,a2,a3,a4,a5]) (by rw[hWa];simp[go_sem,a0,a1,a2,a3,a4,a5]) (by rw[hWa];simp[go_sem,a0,a1,a2,a3,a4,a5]);clear hWa;clear v0 v1 v2 v3 v4 v5 v6 v7 v8 v9 lb4 ln4 ub ux ub' ux' a0 a1 a2 a3 a4 a5 af hblk hs4;generalize W.heap.size=mb at*
 rotate_left
 all_goals
  have T1:U _:=T1;have DN1:U _:=DN1;have BS1:U _:=BS1;have F1:=FOL _ _ T1.out d1;clear FOL HS MADE H4 HB4 HF4 NM TW HBW c0 x1 x2 x3 x4 x5 x6 x7 x8 x9 hbW hnW nsn n1 n2 n3 n4 HWS s4 d1;have p1:=BS1.out.sx;have e0:=BS1.out.e0;have e1:=BS1.out.e1;have e2:=BS1.out.e2;have e3:=BS1.out.e3;have e4:=BS1.out.e4;have e5:=BS1.out.e5;simp only[zu]at p1 e0 e1 e2 e3 e4 e5;obtain⟨⟨x0,x1,x2,x3,x4,x5,x6,x7,x8⟩,_⟩:=ybx p1;clear p1
  go_wp2_with fail
  refine F1.mono ?_;rintro z w5 ⟨rfl,D5,fl5,A5,T5,ok5,DN5⟩;have BS5:U _:=BS1.out.done DN5;have DN5:U _:=DN1.out.trans DN5;have T5:U _:=T5;have OK5:U _:=ok5;clear ok5 F1 T1 DN1 BS1 x0 x1 x2 x3 x4 x5 x6 x7 x8 e0 e1 e2 e3 e4 e5;have c4:=T5.out.c4;have cz:=T5.out.fz;obtain⟨v,hv⟩:∃v,IntKind.i64.wrap (st+1)=v:=⟨_,rfl⟩;obtain⟨W6,hW6⟩:∃W6,W6=w5.setCell ⟨b,4,B⟩ (I J v):=⟨_,rfl⟩;have T6:U _:=T5.out.stepped v
  have DN6:U (ze w b D W6 D5):=by rw[U,hW6];exact DN5.out.trans (.set _ _ fun _=>id)
  have BS6:=BS5.out.done (ze.set (w:=w5) (D:=D5) (D':=D5) 4 (I J v) fun _=>id);rw[<-hW6]at T6 BS6;have BS6:U _:=BS6
  go_upto_region 5 with fail
  rw[<-hW6];clear hW6 T5 DN5 BS5 c4 cz hv;have c9:=T6.out.c9;have c10:=T6.out.c10;have e0:=BS6.out.e0;have e1:=BS6.out.e1;have e2:=BS6.out.e2;have e3:=BS6.out.e3;have e4:=BS6.out.e4;have e5:=BS6.out.e5;obtain⟨⟨r0,r1,r2,r3,r4,r5⟩,rz⟩:=z9 BS6.out.re;have hrf:=BS6.out.rf
  have f0:W6.cell? ⟨w.heap.size+2,0,B⟩=S (I J 0):=by simp[R,hrf]
  have f1:W6.cell? ⟨w.heap.size+2,1,B⟩=S (I J 0):=by simp[R,hrf]
  have fz:∀i,W6.frozen? ⟨w.heap.size+2,i,B⟩=Z:=fun i=>by simp[kI,hrf]
  clear hrf;simp only at e0 e1 e2 e3 e4 e5;have hml:=BS6.out.lt
  have m1:mb≠w.heap.size+1:=by omega
  have m2:mb≠w.heap.size+2:=by omega
  have m3:w.heap.size+1≠w.heap.size+2:=by omega
  have m4:w.heap.size+2≠w.heap.size+1:=by omega
  have FIN:U (∀Wf,But (fun k=>k=w.heap.size+1\/k=w.heap.size+2) W6 Wf->∃F',qw Wf b X' L' L0' (ti+cg) F'/\But (D.F b) w Wf/\∀k,F' k->D.F b k\/w.heap.size<=k):=fun Wf hb=>
   ⟨D5.F b,⟨D5,fl5,_,A5,T6.out.keep hb (fun k hk e=>e.elim (fun e=>BS6.out.nF 1 (by decide) (e▸hk)) (fun e=>BS6.out.nF 2 (by decide) (e▸hk))),OK5.out,rfl⟩,
    ⟨hb.os.trans DN6.out.but.os,hb.tape.trans DN6.out.but.tape,hb.output.trans DN6.out.but.output,kJ DN6.out.but.size hb.size,fun k hk hf=>(hb.block k (Nat.lt_of_lt_of_le hk DN6.out.but.size) (fun e=>by omega)).trans (DN6.out.but.block k hk hf)⟩,DN6.out.own⟩
  have hs1:w.heap.size+1<W6.heap.size:=T _ _ r0;have hs2:w.heap.size+2<W6.heap.size:=T _ _ f0;clear T6 DN6 BS6 OK5
  go_wp2_with fail
  refine y (v:=t #[kB #[I J ec,C en,I J ea,I J ef,I J er,C eb],kB #[I J 0,I J 0]]) ?_ rfl ⟨rfl,FIN.out _ ?_⟩
  ·simp[results,Tryz.results77,go_sem,r0,r1,r2,r3,r4,r5,f0,f1,hs1,hs2,m3,m4]
  ·exact((ycx (But.refl (fun k=>k=w.heap.size+1\/k=w.heap.size+2) W6) (w.heap.size+1) (.inr (.inl rfl)) _ _ _ _ _ _).setCell (a:=⟨w.heap.size+2,0,B⟩) (.inr (.inr rfl)) _).setCell (a:=⟨w.heap.size+2,1,B⟩) (.inr (.inr rfl)) _
theorem yfN {co n:Nat} (h1:1<=co) (h4:co<=4) (h2:1<=n) (h3:n<=128):Pg.WOk (Pg.Spc.new co n) [] [] [] [] (fun _=>B) (fun _=>[]):=by
 refine⟨Pg.inv_new h1 h2 h3,rfl,fun _=>rfl,fun _=>rfl,fun j hj ho=> ?_,by simp[Pg.Spc.new];omega⟩
 exfalso
 unfold Pg.Spc.walkOf Pg.Spc.new at ho;rw[if_pos (Int.natCast_nonneg j)]at ho
 have:(List.replicate co Pg.Cr.new).getD (j:Int).toNat Pg.Cr.new=Pg.Cr.new:=by
  simp only[List.getD,List.getElem?_replicate]
  split<;>rfl
 rw[this]at ho;cases ho
theorem yez (co n:Int) (w:O) (hbad:co<1\/4<co\/n<1\/128<n):
 kS Tryz.prog 67 #[I J co,I J n] w fun e w'=>e= .returned (t #[N B,kB #[I J 1,I J (-1)]])/\Below w.heap.size w w':=by
 have HN:=fun w=>yaL.bad co n w hbad;clear hbad
 go_enter Tryz.func67,Tryz.ntmps67
 go_wp2_with fail
 refine(HN _).mono ?_;rintro e w1 ⟨rfl,hb1⟩;have r0:w1.cell? ⟨w.heap.size,0,B⟩=S (I J 0):=(hb1.cell (p:=⟨w.heap.size,0,B⟩) (by simp)).trans (by simp[go_sem]);have r1:w1.cell? ⟨w.heap.size,1,B⟩=S (I J 0):=(hb1.cell (p:=⟨w.heap.size,1,B⟩) (by simp)).trans (by simp[go_sem]);have rz:∀p,w1.frozen? ⟨w.heap.size,p,B⟩=Z:=fun p=>(hb1.frozen (p:=⟨w.heap.size,p,B⟩) (by simp)).trans (by simp[go_sem])
 have hs:w.heap.size<w1.heap.size:=by have:=hb1.size;simp at this;omega
 have HB:U (Below w.heap.size w w1):=zT (zA (zR w) _) hb1
 have n1:w.heap.size≠w1.heap.size:=by omega
 have n2:w1.heap.size≠w.heap.size:=by omega
 clear hb1 HN
 go_wp2_with fail
 go_region
 all_goals
  go_wp2_with fail
  refine y (v:=t #[N B,kB #[I J 1,I J (-1)]]) ?_ rfl ⟨rfl,?_⟩
  ·simp[results,Tryz.results67,go_sem,r0,r1,hs,n1,n2]
  ·repeat (first|exact HB.out|exact(HB.out.setCell (p:=⟨w.heap.size,0,B⟩) (H _) _).setCell (p:=⟨w.heap.size,1,B⟩) (H _) _|refine Below.drew ?_|refine zA ?_ _)
theorem yey (co n:Nat) (w:O) (h1:1<=co) (h4:co<=4) (h2:1<=n) (h3:n<=128):
 kS Tryz.prog 67 #[I J (co:Int),I J (n:Int)] w fun e w'=>∃b F,e= .returned (t #[N (S ⟨b,0,B⟩),kB #[I J 0,I J 0]])/\qw w' b (Pg.Spc.new co n) [] [] 0 F/\Below w.heap.size w w'/\∀k,F k->w.heap.size<=k:=by
 have HN:=fun w=>yaL.new co n w h1 h4 h2 h3;have OK:U _:=yfN h1 h4 h2 h3;clear h1 h4 h2 h3
 go_enter Tryz.func67,Tryz.ntmps67
 go_wp2_with fail
 refine(HN _).mono ?_;rintro e w1 ⟨sp,Fs,rfl,s1,hb1,hF1⟩;have r0:w1.cell? ⟨w.heap.size,0,B⟩=S (I J 0):=(hb1.cell (p:=⟨w.heap.size,0,B⟩) (by simp)).trans (by simp[go_sem]);have r1:w1.cell? ⟨w.heap.size,1,B⟩=S (I J 0):=(hb1.cell (p:=⟨w.heap.size,1,B⟩) (by simp)).trans (by simp[go_sem]);have rz:∀p,w1.frozen? ⟨w.heap.size,p,B⟩=Z:=fun p=>(hb1.frozen (p:=⟨w.heap.size,p,B⟩) (by simp)).trans (by simp[go_sem])
 have hs:w.heap.size<w1.heap.size:=by have:=hb1.size;simp at this;omega
 have HB:U (Below w.heap.size w w1):=zT (zA (zR w) _) hb1
 have HF:U (∀k,Fs k->w.heap.size<k):=fun k hk=>by have:=hF1 k hk;simp at this;omega
 have S1:U _:=s1
 have n1:w.heap.size≠w1.heap.size:=by omega
 have n2:w1.heap.size≠w.heap.size:=by omega
 clear hb1 HN s1 hF1;obtain⟨W2,hW2⟩:∃W2,W2=w1.alloc (Q #[I J 0,I J 0] 33):=⟨_,rfl⟩
 have hb2:Below w1.heap.size w1 W2:=by rw[hW2];exact zA (zR _) _
 have q0:W2.cell? ⟨w1.heap.size,0,B⟩=S (I J 0):=by rw[hW2];simp[go_sem]
 have q1:W2.cell? ⟨w1.heap.size,1,B⟩=S (I J 0):=by rw[hW2];simp[go_sem]
 have hs2:W2.heap.size=w1.heap.size+1:=by rw[hW2];simp
 go_upto_region 2 with fail
 rw[<-hW2];clear hW2
 go_wp2_with fail
 refine(ydL _).mono ?_;rintro e w3 ⟨bb,Fb,rfl,d3,hb3,hF3⟩;have hb13:Below w1.heap.size w1 w3:=zT hb2 hb3;have r0:=kP hb13 r0;have r1:=kP hb13 r1;have rz:∀p,w3.frozen? ⟨w.heap.size,p,B⟩=Z:=fun p=>(hb13.frozen (p:=⟨w.heap.size,p,B⟩) hs).trans (rz p)
 have hs3:w.heap.size<w3.heap.size:=by have:=hb13.size;omega
 have n3:w.heap.size≠w3.heap.size:=by omega
 have n4:w3.heap.size≠w.heap.size:=by omega
 clear q0 q1;obtain⟨V,hV⟩:∃V,V=(w3.setCell ⟨w.heap.size,0,B⟩ (I J 0)).setCell ⟨w.heap.size,1,B⟩ (I J 0):=⟨_,rfl⟩
 have hVs:V.heap.size=w3.heap.size:=by rw[hV];simp
 have bV:But (fun k=>k=w.heap.size) w3 V:=by rw[hV];exact(xj w3 _ _ _).trans (xj _ _ _ _) fun _ _ e=>e
 obtain⟨Wf,hWf⟩:∃Wf,Wf=V.alloc (Q #[N (S ⟨sp,0,B⟩),N (S ⟨bb,0,B⟩),N (S ⟨bb,0,B⟩),I J 0,I J 0,.map B,.map B,.map B,.map B,I J 0,I J 0] 154):=⟨_,rfl⟩
 have blk:Wf.heap[w3.heap.size]?=S (Q #[N (S ⟨sp,0,B⟩),N (S ⟨bb,0,B⟩),N (S ⟨bb,0,B⟩),I J 0,I J 0,.map B,.map B,.map B,.map B,I J 0,I J 0] 154 (0,0)):=by rw[hWf,<-hVs];exact l _ _
 have bf:But (fun k=>k=w.heap.size) w3 Wf:=by rw[hWf];exact bV.alloc _
 have hlt1:=hb13.size
 have FIN:U (qw Wf w3.heap.size (Pg.Spc.new co n) [] [] 0 (Wtd.F ⟨sp,bb,bb,fun _=>B,Fs,Fb,Fb,fun k=>if k<w1.heap.size then 1 else if k<w3.heap.size then 2 else 0⟩ w3.heap.size)):=by
  have hd3:=d3.keep bf fun k hk e=>by have:=hF3 k hk;omega
  have fl:∀k,Fb k->(if k<w1.heap.size then 1 else if k<w3.heap.size then 2 else 0)=2:=fun k hk=>by
   have h1:=hF3 k hk;have h2:=d3.lt hk;rw[if_neg (by omega),if_pos h2]
  refine⟨_,[],0,fun _=>[],⟨?_,?_,?_,?_,?_,fun j hj=> ?_,?_,?_,fun p=> ?_,⟨?_,hd3,hd3,fun j _ m hm=>(by cases hm),?_,fun k hk=> ?_,fun k hk=> ?_,fun j _ m hm=>by cases hm⟩⟩,OK.out,rfl⟩
  ·simp[R,blk]
  ·simp[R,blk]
  ·simp[R,blk]
  ·simp[R,blk]
  ·simp[R,blk]
  ·obtain rfl|rfl|rfl|rfl:j=0\/j=1\/j=2\/j=3:=by omega
   all_goals simp[R,blk]
  ·simp[R,blk]
  ·simp[R,blk]
  ·simp[kI,blk]
  ·exact(yaL.grow S1.out hb13).keep bf fun k hk e=>by have:=HF.out k hk;omega
  ·show(if w3.heap.size<w1.heap.size then 1 else if w3.heap.size<w3.heap.size then 2 else 0)=0
   rw[if_neg (by omega),if_neg (by omega)]
  ·show(if k<w1.heap.size then 1 else if k<w3.heap.size then 2 else 0)=1
   rw[if_pos (S1.out.lt hk)]
  ·exact fl k (hk.elim id id)
 have BF:U (Below w.heap.size w Wf):=(zT HB.out hb13).trans (bf.below (by omega) fun k e=>by omega)
 have OWN:U (∀k,Wtd.F ⟨sp,bb,bb,fun _=>B,Fs,Fb,Fb,fun k=>if k<w1.heap.size then 1 else if k<w3.heap.size then 2 else 0⟩ w3.heap.size k->w.heap.size<=k):=fun k hk=>by
  rcases hk with hk|hk|hk|hk|⟨j,_,hk⟩
  ·omega
  ·have:=HF.out k hk;omega
  ·have:=hF3 k hk;omega
  ·have:=hF3 k hk;omega
  ·cases hk
 have y0:Wf.cell? ⟨w.heap.size,0,B⟩=S (I J 0):=by
  rw[hWf,(zA (zR V) _).cell (p:=⟨w.heap.size,0,B⟩) (by rw[hVs];exact hs3),hV];exact(K _ _ _ _ (fun h=>by have:=congrArg Addr.off h;simp at this)).trans (M _ _ _ r0)
 have y1:Wf.cell? ⟨w.heap.size,1,B⟩=S (I J 0):=by
  rw[hWf,(zA (zR V) _).cell (p:=⟨w.heap.size,1,B⟩) (by rw[hVs];exact hs3),hV];exact M (u:=I J 0) _ _ _ ((K _ _ _ _ (fun h=>by have:=congrArg Addr.off h;simp at this)).trans r1)
 have hsf:w.heap.size<Wf.heap.size:=T _ _ y0;clear S1 HF d3 hF3 OK HB bf blk hb13 hb2 hb3 bV
 go_wp2_with fail
 rw[<-hV,<-hWf];refine y (v:=t #[N (S ⟨w3.heap.size,0,B⟩),kB #[I J 0,I J 0]]) ?_ rfl ⟨w3.heap.size,_,rfl,FIN.out,BF.out,OWN.out⟩;simp[results,Tryz.results67,go_sem,y0,y1,hsf]
section
variable {P:O->Nat->Pg.Spc->(Nat->Prop)->Prop}
end
namespace Pg
end Pg
namespace Wsm
variable {w0 w w':O} {b c:Nat} {X X' Y Y':Pg.Spc} {L L0 L' L0':List Pg.Mp} {ti ti':Int} {F F' G G':Nat->Prop}
end Wsm
theorem ydR {w:O} {b:Nat} {X:Pg.Spc} {F:Nat->Prop} (h:vP w b X F):kS Tryz.prog 72 #[N (S ⟨b,0,B⟩)] w fun e w'=>∃ad cap,e= .returned (.slice ad X.maps.length cap)/\xg w' ad X.maps/\(∀g,ad=S ⟨g,0,B⟩->w.heap.size<=g)/\Below w.heap.size w w':=by
 obtain⟨D,h,rfl⟩:=h;refine(jE w h).mono ?_;rintro e w' ⟨ad,cap,rfl,h1,h2,h3⟩;exact⟨ad,cap,rfl,h1,h3,h2⟩
end
end Go.Proofs.YtdphiompijbelaaGreatDoor
