import Derived.Test.YtdphiompijbelaaGreatWtF
import Derived.Test.YtdphiompijbelaaGreatCoRefB
set_option linter.all false
set_option maxRecDepth 100000
open Nat renaming le_refl->un,le_trans->ud
open List renaming length_singleton->kp,length_append->kh
open Array renaming getElem?_eq_some_iff->l
open Bool renaming false->t,true->yI
open Go.Proofs.Tryz renaming prog->y
open Go.Ending renaming returned->H
open Go renaming World->O
open Go.Obj renaming cells->N
open Go.World renaming cell?->R,block_lt_of_cell?->K,cell?_setCell_other->kO,cell?_setCell_same->ki,cell?_of_block->ks,frozen?->ur,frozen?_of_block->uc,frozen?_setCell->ua
open Go.IntKind renaming i64->B
open Go.Value renaming int->J,pointer->C,bool->Q,ownBlock->Z,slice->U,tuple->uv,agg->ue
open Option renaming none->I,some->S
set_option maxHeartbeats 4000000
namespace Go.Proofs.YtdphiompijbelaaGreat
open Go.RowKit Go.Sort
attribute [local go_sem] Loose.gent
structure jr (w:O) (b:Nat) (X:Pg.Spc) (L L0:List Pg.Mp) (ti:Int) (F:Nat->Prop):Prop where
 ex:∃D fl st A,Wtk w b D X fl L ti st A/\Pg.WOk X L L0 fl L D.d A/\F=D.F b
section
variable {w w':O} {b:Nat} {X:Pg.Spc} {L L0:List Pg.Mp} {ti:Int} {F G:Nat->Prop}
theorem jr.lt (h:jr w b X L L0 ti F) {k:Nat} (hk:F k):k<w.heap.size:=by
 obtain⟨D,fl,st,A,h,_,rfl⟩:=h;exact h.lt hk
theorem jr.keep (h:jr w b X L L0 ti F) (hb:But G w w') (hF:∀k,F k->¬G k):jr w' b X L L0 ti F:=by
 obtain⟨D,fl,st,A,h,ok,rfl⟩:=h;exact⟨D,fl,st,A,h.keep hb hF,ok,rfl⟩
theorem jr.grow (h:jr w b X L L0 ti F) (hb:Below w.heap.size w w'):jr w' b X L L0 ti F:=h.keep (G:=fun _=>False) (But.yhp hb) (fun _ _=>id)
theorem jr.inv (h:jr w b X L L0 ti F):Pg.Inv X L L0:=by
 obtain⟨D,fl,st,A,h,ok,rfl⟩:=h;exact ok.inv
theorem jr.space (h:jr w b X L L0 ti F):∃sp Fs,w.cell? ⟨b,0,I⟩=S (C (S ⟨sp,0,I⟩))/\yam w sp X Fs:=by
 obtain⟨D,fl,st,A,h,ok,rfl⟩:=h;exact⟨D.sp,D.Fs,h.c0,h.parts.space⟩
end
theorem ybb {b:Nat} {X:Pg.Spc} {L L0:List Pg.Mp} {ti:Int} {F:Nat->Prop} (w:O) (h:jr w b X L L0 ti F):Calls y 35 #[C (S ⟨b,0,I⟩)] w fun e w'=>e=H (J B ti)/\Below w.heap.size w w':=by
 obtain⟨D,fl,st,A,h,ok,rfl⟩:=h;refine(ydg w h).mono ?_;rintro e w' ⟨rfl,rfl⟩;exact⟨rfl,zR _⟩
structure ybF (w:O) (b:Nat) (D:Wtd) (n:Nat) (x:Pg.Sx) (mb:Nat) (e:Pg.Ev):Prop where
 sx:w.heap[n]?=S (xh x)
 re:w.heap[n+1]?=S (N #[J B 0,Q t,J B 0,J B 0,J B 0,Q t] 36 (0,0))
 rf:w.heap[n+2]?=S (N #[J B 0,J B 0] 27 (0,0))
 e0:w.cell? ⟨mb,0,I⟩=S (J B e.c)
 e1:w.cell? ⟨mb,1,I⟩=S (Q e.ended)
 e2:w.cell? ⟨mb,2,I⟩=S (J B e.a)
 e3:w.cell? ⟨mb,3,I⟩=S (J B e.f)
 e4:w.cell? ⟨mb,4,I⟩=S (J B e.r)
 e5:w.cell? ⟨mb,5,I⟩=S (Q e.back)
 nF:∀j,j<3->¬D.F b (n+j)
 nM:¬D.F b mb
 lt:n+2<mb
theorem ybF.done {w w':O} {b:Nat} {D D':Wtd} {n:Nat} {x:Pg.Sx} {mb:Nat} {e:Pg.Ev} (h:ybF w b D n x mb e) (hd:zd w b D w' D'):ybF w' b D' n x mb e:=by
 have hl:=h.lt;have hm:mb<w.heap.size:=K _ _ h.e0;obtain⟨a1,a2,_⟩:=hd.block (h.nF 0 (by decide)) (show n+0<_ by omega);obtain⟨b1,b2,_⟩:=hd.block (h.nF 1 (by decide)) (show n+1<_ by omega);obtain⟨c1,c2,_⟩:=hd.block (h.nF 2 (by decide)) (show n+2<_ by omega);obtain⟨m1,m2,_⟩:=hd.block h.nM hm;have ec:∀p,w'.cell? ⟨mb,p,I⟩=w.cell? ⟨mb,p,I⟩:=fun p=>ks (a:=⟨mb,p,I⟩) m1;refine⟨a1.trans h.sx,b1.trans h.re,c1.trans h.rf,(ec _).trans h.e0,(ec _).trans h.e1,(ec _).trans h.e2,(ec _).trans h.e3,(ec _).trans h.e4,(ec _).trans h.e5,fun j hj=> ?_,m2,hl⟩
 obtain rfl|rfl|rfl:j=0\/j=1\/j=2:=by omega
 ·exact a2
 ·exact b2
 ·exact c2
theorem ygu {w W W1 w4 Wa:O} {b mb:Nat} {D:Wtd} {X X':Pg.Spc} {fl nw:List Pg.Mp} {ti st:Int} {A:Ans} {bD Y:Nat->Prop} {x:Pg.Sx} {e:Pg.Ev} (h:Wtk w b D X fl nw ti st A) (hB:Below w.heap.size w W) (hs:W.heap.size=w.heap.size+3)
 (q1:W.heap[w.heap.size]?=S (xh x)) (q2:W.heap[w.heap.size+1]?=S (N #[J B 0,Q t,J B 0,J B 0,J B 0,Q t] 36 (0,0))) (q3:W.heap[w.heap.size+2]?=S (N #[J B 0,J B 0] 27 (0,0)))
 (pJ:Below W.heap.size W W1) (gF:yam w4 D.sp X' bD) (hb:But D.Fs W1 w4) (hF:∀k,bD k->D.Fs k\/W1.heap.size<=k) (hY:But Y w4 Wa) (Nt:∀k,Y k->k=mb) (OG:W.heap.size<=mb) (WU:¬bD mb)
 (e0:Wa.cell? ⟨mb,0,I⟩=S (J B e.c)) (e1:Wa.cell? ⟨mb,1,I⟩=S (Q e.ended)) (e2:Wa.cell? ⟨mb,2,I⟩=S (J B e.a)) (e3:Wa.cell? ⟨mb,3,I⟩=S (J B e.f)) (e4:Wa.cell? ⟨mb,4,I⟩=S (J B e.r)) (e5:Wa.cell? ⟨mb,5,I⟩=S (Q e.back)):
 ∃D1,Wtk Wa b D1 X' fl nw ti st A/\D1.d=D.d/\zd w b D Wa D1/\ybF Wa b D1 w.heap.size x mb e:=by
 have Hf:∀k,D.F b k->k<w.heap.size:=fun k hk=>h.lt hk;have T4:=((h.grow hB).grow pJ).ylt gF hb hF;have rQ:=pJ.size;have pF:=hb.size
 have own:∀k,Wtd.F {D with Fs:=bD,own:=fun k=>if k<W1.heap.size then D.own k else 1} b k->D.F b k\/bD k:=fun k hk=>by
  rcases hk with hk|hk|hk|hk|hk
  ·exact .inl (.inl hk)
  ·exact .inr hk
  ·exact .inl (.inr (.inr (.inl hk)))
  ·exact .inl (.inr (.inr (.inr (.inl hk))))
  ·exact .inl (.inr (.inr (.inr (.inr hk))))
 have nF:∀k,w.heap.size<=k->k<W1.heap.size->¬Wtd.F {D with Fs:=bD,own:=fun k=>if k<W1.heap.size then D.own k else 1} b k:=fun k h1 h2 hk=>by
  rcases own k hk with hk|hk
  ·have:=Hf k hk;omega
  ·rcases hF k hk with hk|hk
   ·have:=Hf k (.inr (.inl hk));omega
   ·omega
 have nm:¬Wtd.F {D with Fs:=bD,own:=fun k=>if k<W1.heap.size then D.own k else 1} b mb:=fun hk=>by
  rcases own mb hk with hk|hk
  ·have:=Hf mb hk;omega
  ·exact WU hk
 have blk:∀k o,w.heap.size<=k->k<W.heap.size->W.heap[k]?=S o->Wa.heap[k]?=S o:=fun k o h1 h2 hk=>by
  have a1:=(pJ.block k h2).trans hk;have a2:=(hb.block k (by omega) (fun hf=>by have:=Hf k (.inr (.inl hf));omega)).trans a1;exact(hY.block k (by omega) (fun hy=>by have:=Nt k hy;omega)).trans a2
 refine⟨_,T4.keep hY fun k hk hy=> ?_,rfl,⟨⟨?_,?_,?_,?_,fun k hk hf=> ?_⟩,fun k hk=> ?_⟩,⟨blk _ _ (by omega) (by omega) q1,blk _ _ (by omega) (by omega) q2,blk _ _ (by omega) (by omega) q3,e0,e1,e2,e3,e4,e5,fun j hj=>nF _ (by omega) (by omega),nm,by omega⟩⟩
 ·rw[Nt k hy]at hk
  exact nm hk
 ·exact hY.os.trans (hb.os.trans (pJ.os.trans hB.os))
 ·exact hY.tape.trans (hb.tape.trans (pJ.tape.trans hB.tape))
 ·exact hY.output.trans (hb.output.trans (pJ.output.trans hB.output))
 ·have:=hY.size;have:=hB.size;omega
 ·have sW:k<W.heap.size:=by omega
  have a1:=(pJ.block k sW).trans (hB.block k hk);have a2:=(hb.block k (by omega) (fun e=>hf (.inr (.inl e)))).trans a1;exact(hY.block k (by omega) (fun hy=>by have:=Nt k hy;omega)).trans a2
 ·rcases own k hk with hk|hk
  ·exact .inl hk
  ·rcases hF k hk with hk|hk
   ·exact .inl (.inr (.inl hk))
   ·exact .inr (by omega)
theorem ydt {b:Nat} {X:Pg.Spc} {L L0:List Pg.Mp} {ti:Int} {F:Nat->Prop} (x:Pg.Sx) (hx:yek x) (w:O) (h:jr w b X L L0 ti F) (oC:0<=ti/\ti<4611686018427387904):
 Calls y 33 #[C (S ⟨b,0,I⟩),x.val] w fun e w'=>e=H (uv #[(X.goE x).val,ue #[J B 0,J B 0]])/\∃F',jr w' b (X.goN x) (X.nxL L x) (X.nxP L L0 x) (ti+X.chg x) F'/\But F w w'/\∀k,F' k->F k\/w.heap.size<=k:=by
 obtain⟨D,fl,st,A,h,ok,rfl⟩:=h;obtain⟨W,hW⟩:∃W,W=((w.alloc (xh x)).alloc (N #[J B 0,Q t,J B 0,J B 0,J B 0,Q t] 36)).alloc (N #[J B 0,J B 0] 27):=⟨_,rfl⟩
 have hB:Below w.heap.size w W:=by rw[hW];exact zA (zA (zA (zR _) _) _) _
 have hs:W.heap.size=w.heap.size+3:=by rw[hW];simp
 have rR:=h.lb;have TW:Hid _:=h.grow hB;obtain⟨q1,q2,q3⟩:=js w (xh x) (N #[J B 0,Q t,J B 0,J B 0,J B 0,Q t] 36) (N #[J B 0,J B 0] 27);rw[<-hW]at q1 q2 q3
 have MADE:Hid (∀{W1 w4 Wa:O} {mb:Nat} {bD Y:Nat->Prop},Below W.heap.size W W1->yam w4 D.sp (X.goN x) bD->But D.Fs W1 w4->(∀k,bD k->D.Fs k\/W1.heap.size<=k)->But Y w4 Wa->(∀k,Y k->k=mb)->W.heap.size<=mb->¬bD mb->
  Wa.cell? ⟨mb,0,I⟩=S (J B (X.goE x).c)->Wa.cell? ⟨mb,1,I⟩=S (Q (X.goE x).ended)->Wa.cell? ⟨mb,2,I⟩=S (J B (X.goE x).a)->Wa.cell? ⟨mb,3,I⟩=S (J B (X.goE x).f)->Wa.cell? ⟨mb,4,I⟩=S (J B (X.goE x).r)->Wa.cell? ⟨mb,5,I⟩=S (Q (X.goE x).back)->
  ∃D1,Wtk Wa b D1 (X.goN x) fl L ti st A/\D1.d=D.d/\zd w b D Wa D1/\ybF Wa b D1 w.heap.size x mb (X.goE x)):=fun a1 a2 a3 a4 a5 a6 a7 a8=>ygu h hB hs q1 q2 q3 a1 a2 a3 a4 a5 a6 a7 a8
 have c0:=TW.out.c0;have CB:∀k,D.Fs k->k<w.heap.size:=fun k hk=>h.lt (.inr (.inl hk));have nsb:¬D.Fs b:=fun e=>h.F_ne e rfl;have HS:=fun w' (h':Wtk w' b D X fl L ti st A)=>jx.step x w' hx ok.inv h'.parts.space;have Cz:=fun w' D' (h':Wtk w' b D' (X.goN x) fl L ti st A) (hd:D'.d=D.d)=>yco x hx (by rw[hd];exact ok) w' h' oC
 have x0:∀p v,(#[J B x.kind,J B x.core,J B x.m.p,J B x.m.s,J B x.m.f,J B x.m.r,J B x.q,J B x.k,Q x.u]:Array Value)[p]?=S v->W.cell? ⟨w.heap.size,p,I⟩=S v:=fun p v hp=>by
  unfold xh at q1;simp[R,q1,hp]
 have x1:=x0 0 _ rfl;have x2:=x0 1 _ rfl;have x3:=x0 2 _ rfl;have x4:=x0 3 _ rfl;have x5:=x0 4 _ rfl;have x6:=x0 5 _ rfl;have x7:=x0 6 _ rfl;have x8:=x0 7 _ rfl;have x9:=x0 8 _ rfl;have tT:Hid _:=hB
 have lL:b<W.heap.size:=by omega
 have ah:w.heap.size<W.heap.size:=by omega
 have av:¬D.Fs w.heap.size:=fun e=>by have:=CB _ e;omega
 have n1:b≠W.heap.size:=by omega
 have n2:w.heap.size≠W.heap.size:=by omega
 have n3:W.heap.size≠b:=by omega
 have n4:W.heap.size≠w.heap.size:=by omega
 have MF:Hid (W.heap.size=w.heap.size+3):=hs;clear hs;clear x0 h q1 q2 q3 hx hB ok;generalize hE:X.goE x=E at*;generalize hN:X.goN x=X' at*;generalize X.nxL L x=L' at*;generalize X.nxP L L0 x=L0' at*;generalize X.chg x=cg at*;clear hE hN;obtain⟨kd,co,⟨p,s,f,r⟩,q,k,u⟩:=x;obtain⟨ec,en,ea,ef,er,eb⟩:=E;simp only[Pg.Sx.val,Pg.Ev.val,xh]at hW HS Cz MADE x1 x2 x3 x4 x5 x6 x7 x8 x9 ⊢
 go_enter Tryz.func33,Tryz.ntmps33
 go_upto_region 1 with fail
 rw[<-hW];clear hW
 go_region_held3 (fun w'=>w'.cell? ⟨b,0,I⟩=S (C (S ⟨D.sp,0,I⟩))/\w'.cell? ⟨w.heap.size,0,I⟩=S (J B kd)/\w'.cell? ⟨w.heap.size,1,I⟩=S (J B co)/\w'.cell? ⟨w.heap.size,2,I⟩=S (J B p)/\w'.cell? ⟨w.heap.size,3,I⟩=S (J B s)/\w'.cell? ⟨w.heap.size,4,I⟩=S (J B f)/\w'.cell? ⟨w.heap.size,5,I⟩=S (J B r)/\w'.cell? ⟨w.heap.size,6,I⟩=S (J B q)/\w'.cell? ⟨w.heap.size,7,I⟩=S (J B k)/\w'.cell? ⟨w.heap.size,8,I⟩=S (Q u)) (go_keep) (
  (go_at_call 12;refine(HS _ (TW.out.grow (by first|exact(zA (zR W) _).drew|exact zA (zR W) _|exact(zR W).drew|exact zR W))).mono ?_;rintro e w4 ⟨rfl,bD,h4,Hl,fF⟩
   have H4:Hid _:=h4;have rM:Hid _:=Hl;have sQ:Hid _:=fF;have s4:W.heap.size<=w4.heap.size:=ud (by first|exact un _|simp) Hl.size;have v0:=zo Hl (by first|exact(zA (zR W) _).drew|exact zA (zR W) _|exact(zR W).drew|exact zR W) lL nsb c0;have v1:=zo Hl (by first|exact(zA (zR W) _).drew|exact zA (zR W) _|exact(zR W).drew|exact zR W) ah av x1;have v2:=zo Hl (by first|exact(zA (zR W) _).drew|exact zA (zR W) _|exact(zR W).drew|exact zR W) ah av x2;have v3:=zo Hl (by first|exact(zA (zR W) _).drew|exact zA (zR W) _|exact(zR W).drew|exact zR W) ah av x3;have v4:=zo Hl (by first|exact(zA (zR W) _).drew|exact zA (zR W) _|exact(zR W).drew|exact zR W) ah av x4;have v5:=zo Hl (by first|exact(zA (zR W) _).drew|exact zA (zR W) _|exact(zR W).drew|exact zR W) ah av x5;have v6:=zo Hl (by first|exact(zA (zR W) _).drew|exact zA (zR W) _|exact(zR W).drew|exact zR W) ah av x6;have v7:=zo Hl (by first|exact(zA (zR W) _).drew|exact zA (zR W) _|exact(zR W).drew|exact zR W) ah av x7;have v8:=zo Hl (by first|exact(zA (zR W) _).drew|exact zA (zR W) _|exact(zR W).drew|exact zR W) ah av x8;have v9:=zo Hl (by first|exact(zA (zR W) _).drew|exact zA (zR W) _|exact(zR W).drew|exact zR W) ah av x9
   have RN:b<w4.heap.size:=by omega
   have Et:w.heap.size<w4.heap.size:=by omega
   have ub:b≠w4.heap.size:=by omega
   have ux:w.heap.size≠w4.heap.size:=by omega
   have oD:w4.heap.size≠b:=by omega
   have wZ:w4.heap.size≠w.heap.size:=by omega
   have NM:Hid (¬bD w4.heap.size):=fun e=>by have:=h4.lt e;omega
   first
    | (have hA:But D.Fs W.drew w4:=Hl;clear hA)
    | (have tK:w4.heap[W.heap.size]?=S (N #[J B 0,Q t,J B 0,J B 0,J B 0,Q t] 36 (0,0)):=(Hl.block W.heap.size (by simp) (fun e=>by have:=CB _ e;omega)).trans (heap_alloc_new W (N #[J B 0,Q t,J B 0,J B 0,J B 0,Q t] 36))
       have pF:W.heap.size<w4.heap.size:=(l.1 tK).1;have NW:Hid (¬bD W.heap.size):=fun e=>(fF _ e).elim (fun e=>by have:=CB _ e;omega) (fun e=>by simp at e;omega)
       obtain⟨⟨a0,a1,a2,a3,a4,a5⟩,af⟩:=zG tK)
   clear h4 Hl fF))
 focus
  obtain⟨Wa,rJ⟩:∃Wa,Wa=w4.alloc (N #[J B ec,Q en,J B ea,J B ef,J B er,Q eb] 36):=⟨_,rfl⟩;rw[<-rJ];obtain⟨D1,T1,d1,Sv,uR⟩:=MADE.out (Wa:=Wa) (mb:=w4.heap.size) (xI W) H4.out rM.out sQ.out (Y:=fun _=>False) (by rw[rJ];exact But.yhp (zA (zR w4) _)) (fun _ h=>h.elim) s4 NM.out (by rw[rJ];simp[go_sem]) (by rw[rJ];simp[go_sem]) (by rw[rJ];simp[go_sem]) (by rw[rJ];simp[go_sem]) (by rw[rJ];simp[go_sem]) (by rw[rJ];simp[go_sem]);clear rJ;generalize w4.heap.size=mb at*;clear v0 v1 v2 v3 v4 v5 v6 v7 v8 v9 RN Et ub ux oD wZ
 rotate_left
 focus
  obtain⟨Wa,rJ⟩:∃Wa,Wa=(((((w4.setCell ⟨W.heap.size,0,I⟩ (J B ec)).setCell ⟨W.heap.size,1,I⟩ (Q en)).setCell ⟨W.heap.size,2,I⟩ (J B ea)).setCell ⟨W.heap.size,3,I⟩ (J B ef)).setCell ⟨W.heap.size,4,I⟩ (J B er)).setCell ⟨W.heap.size,5,I⟩ (Q eb):=⟨_,rfl⟩;rw[<-rJ];obtain⟨D1,T1,d1,Sv,uR⟩:=MADE.out (Wa:=Wa) (mb:=W.heap.size) ((zA (zR W) (N #[J B 0,Q t,J B 0,J B 0,J B 0,Q t] 36)).drew) H4.out rM.out sQ.out (Y:=fun j=>j=W.heap.size) (by rw[rJ];exact ycr _ _ _ _ _ _ _ _) (fun _ h=>h) (un _) NW.out (by rw[rJ];simp[go_sem,a0,a1,a2,a3,a4,a5]) (by rw[rJ];simp[go_sem,a0,a1,a2,a3,a4,a5]) (by rw[rJ];simp[go_sem,a0,a1,a2,a3,a4,a5]) (by rw[rJ];simp[go_sem,a0,a1,a2,a3,a4,a5]) (by rw[rJ];simp[go_sem,a0,a1,a2,a3,a4,a5]) (by rw[rJ];simp[go_sem,a0,a1,a2,a3,a4,a5]);clear rJ;clear v0 v1 v2 v3 v4 v5 v6 v7 v8 v9 RN Et ub ux oD wZ a0 a1 a2 a3 a4 a5 af tK pF;generalize W.heap.size=mb at*
 rotate_left
 all_goals
  have T1:Hid _:=T1;have Sv:Hid _:=Sv;have uR:Hid _:=uR;have F1:=Cz _ _ T1.out d1;clear Cz HS MADE H4 rM sQ NM TW tT c0 x1 x2 x3 x4 x5 x6 x7 x8 x9 lL ah av n1 n2 n3 n4 MF s4 d1;have p1:=uR.out.sx;have e0:=uR.out.e0;have e1:=uR.out.e1;have e2:=uR.out.e2;have e3:=uR.out.e3;have e4:=uR.out.e4;have e5:=uR.out.e5;simp only[xh]at p1 e0 e1 e2 e3 e4 e5;obtain⟨⟨x0,x1,x2,x3,x4,x5,x6,x7,x8⟩,_⟩:=yce p1;clear p1
  go_wp2_with fail
  refine F1.mono ?_;rintro z w5 ⟨rfl,D5,I8,A5,T5,Eu,Sw⟩;have Uj:Hid _:=uR.out.done Sw;have Sw:Hid _:=Sv.out.trans Sw;have T5:Hid _:=T5;have UE:Hid _:=Eu;clear Eu F1 T1 Sv uR x0 x1 x2 x3 x4 x5 x6 x7 x8 e0 e1 e2 e3 e4 e5;have c4:=T5.out.c4;have cz:=T5.out.fz;obtain⟨v,hv⟩:∃v,IntKind.i64.wrap (st+1)=v:=⟨_,rfl⟩;obtain⟨W6,gU⟩:∃W6,W6=w5.setCell ⟨b,4,I⟩ (J B v):=⟨_,rfl⟩;have T6:Hid _:=T5.out.stepped v
  have Ra:Hid (zd w b D W6 D5):=by rw[Hid,gU];exact Sw.out.trans (.set _ _ fun _=>id)
  have lC:=Uj.out.done (zd.set (w:=w5) (D:=D5) (D':=D5) 4 (J B v) fun _=>id);rw[<-gU]at T6 lC;have lC:Hid _:=lC
  go_upto_region 5 with fail
  rw[<-gU];clear gU T5 Sw Uj c4 cz hv;have c9:=T6.out.c9;have c10:=T6.out.c10;have e0:=lC.out.e0;have e1:=lC.out.e1;have e2:=lC.out.e2;have e3:=lC.out.e3;have e4:=lC.out.e4;have e5:=lC.out.e5;obtain⟨⟨r0,r1,r2,r3,r4,r5⟩,rz⟩:=zG lC.out.re;have oz:=lC.out.rf
  have f0:W6.cell? ⟨w.heap.size+2,0,I⟩=S (J B 0):=by simp[R,oz]
  have f1:W6.cell? ⟨w.heap.size+2,1,I⟩=S (J B 0):=by simp[R,oz]
  have fz:∀i,W6.frozen? ⟨w.heap.size+2,i,I⟩=t:=fun i=>by simp[ur,oz]
  clear oz;simp only at e0 e1 e2 e3 e4 e5;have LB:=lC.out.lt
  have m1:mb≠w.heap.size+1:=by omega
  have m2:mb≠w.heap.size+2:=by omega
  have m3:w.heap.size+1≠w.heap.size+2:=by omega
  have m4:w.heap.size+2≠w.heap.size+1:=by omega
  have FIN:Hid (∀Wf,But (fun k=>k=w.heap.size+1\/k=w.heap.size+2) W6 Wf->∃F',jr Wf b X' L' L0' (ti+cg) F'/\But (D.F b) w Wf/\∀k,F' k->D.F b k\/w.heap.size<=k):=fun Wf hb=>
   ⟨D5.F b,⟨D5,I8,_,A5,T6.out.keep hb (fun k hk e=>e.elim (fun e=>lC.out.nF 1 (by decide) (e▸hk)) (fun e=>lC.out.nF 2 (by decide) (e▸hk))),UE.out,rfl⟩,
    ⟨hb.os.trans Ra.out.but.os,hb.tape.trans Ra.out.but.tape,hb.output.trans Ra.out.but.output,ud Ra.out.but.size hb.size,fun k hk hf=>(hb.block k (Nat.lt_of_lt_of_le hk Ra.out.but.size) (fun e=>by omega)).trans (Ra.out.but.block k hk hf)⟩,Ra.out.own⟩
  have rQ:w.heap.size+1<W6.heap.size:=K _ _ r0;have pR:w.heap.size+2<W6.heap.size:=K _ _ f0;clear T6 Ra lC UE
  go_wp2_with fail
  refine bodyPost_ret (v:=uv #[ue #[J B ec,Q en,J B ea,J B ef,J B er,Q eb],ue #[J B 0,J B 0]]) ?_ rfl ⟨rfl,FIN.out _ ?_⟩
  ·simp[results,Tryz.results33,go_sem,r0,r1,r2,r3,r4,r5,f0,f1,rQ,pR,m3,m4]
  ·exact((qJ (But.refl (fun k=>k=w.heap.size+1\/k=w.heap.size+2) W6) (w.heap.size+1) (.inr (.inl rfl)) _ _ _ _ _ _).setCell (a:=⟨w.heap.size+2,0,I⟩) (.inr (.inr rfl)) _).setCell (a:=⟨w.heap.size+2,1,I⟩) (.inr (.inr rfl)) _
theorem ygm {co n:Nat} (h1:1<=co) (h4:co<=4) (h2:1<=n) (h3:n<=128):Pg.WOk (Pg.Spc.new co n) [] [] [] [] (fun _=>I) (fun _=>[]):=by
 refine⟨Pg.inv_new h1 h2 h3,rfl,fun _=>rfl,fun _=>rfl,fun j hj ho=> ?_,by simp[Pg.Spc.new];omega⟩
 exfalso
 unfold Pg.Spc.walkOf Pg.Spc.new at ho;rw[if_pos (Int.natCast_nonneg j)]at ho
 have:(List.replicate co Pg.Cr.new).getD (j:Int).toNat Pg.Cr.new=Pg.Cr.new:=by
  simp only[List.getD,List.getElem?_replicate]
  split<;>rfl
 rw[this]at ho;cases ho
theorem yff (co n:Int) (w:O) (sD:co<1\/4<co\/n<1\/128<n):
 Calls y 31 #[J B co,J B n] w fun e w'=>e=H (uv #[C I,ue #[J B 1,J B (-1)]])/\Below w.heap.size w w':=by
 have HN:=fun w=>jx.bad co n w sD;clear sD
 go_enter Tryz.func31,Tryz.ntmps31
 go_wp2_with fail
 refine(HN _).mono ?_;rintro e w1 ⟨rfl,Ha⟩;have r0:w1.cell? ⟨w.heap.size,0,I⟩=S (J B 0):=(Ha.cell (p:=⟨w.heap.size,0,I⟩) (by simp)).trans (by simp[go_sem]);have r1:w1.cell? ⟨w.heap.size,1,I⟩=S (J B 0):=(Ha.cell (p:=⟨w.heap.size,1,I⟩) (by simp)).trans (by simp[go_sem]);have rz:∀p,w1.frozen? ⟨w.heap.size,p,I⟩=t:=fun p=>(Ha.frozen (p:=⟨w.heap.size,p,I⟩) (by simp)).trans (by simp[go_sem])
 have hs:w.heap.size<w1.heap.size:=by have:=Ha.size;simp at this;omega
 have HB:Hid (Below w.heap.size w w1):=zT (zA (zR w) _) Ha
 have n1:w.heap.size≠w1.heap.size:=by omega
 have n2:w1.heap.size≠w.heap.size:=by omega
 clear Ha HN
 go_wp2_with fail
 go_region
 all_goals
  go_wp2_with fail
  refine bodyPost_ret (v:=uv #[C I,ue #[J B 1,J B (-1)]]) ?_ rfl ⟨rfl,?_⟩
  ·simp[results,Tryz.results31,go_sem,r0,r1,hs,n1,n2]
  ·repeat (first|exact HB.out|exact(HB.out.setCell (p:=⟨w.heap.size,0,I⟩) (un _) _).setCell (p:=⟨w.heap.size,1,I⟩) (un _) _|refine Below.drew ?_|refine zA ?_ _)
theorem ycp (co n:Nat) (w:O) (h1:1<=co) (h4:co<=4) (h2:1<=n) (h3:n<=128):
 Calls y 31 #[J B (co:Int),J B (n:Int)] w fun e w'=>∃b F,e=H (uv #[C (S ⟨b,0,I⟩),ue #[J B 0,J B 0]])/\jr w' b (Pg.Spc.new co n) [] [] 0 F/\Below w.heap.size w w'/\∀k,F k->w.heap.size<=k:=by
 have HN:=fun w=>jx.new co n w h1 h4 h2 h3;have OK:Hid _:=ygm h1 h4 h2 h3;clear h1 h4 h2 h3
 go_enter Tryz.func31,Tryz.ntmps31
 go_wp2_with fail
 refine(HN _).mono ?_;rintro e w1 ⟨sp,Fs,rfl,s1,Ha,tO⟩;have r0:w1.cell? ⟨w.heap.size,0,I⟩=S (J B 0):=(Ha.cell (p:=⟨w.heap.size,0,I⟩) (by simp)).trans (by simp[go_sem]);have r1:w1.cell? ⟨w.heap.size,1,I⟩=S (J B 0):=(Ha.cell (p:=⟨w.heap.size,1,I⟩) (by simp)).trans (by simp[go_sem]);have rz:∀p,w1.frozen? ⟨w.heap.size,p,I⟩=t:=fun p=>(Ha.frozen (p:=⟨w.heap.size,p,I⟩) (by simp)).trans (by simp[go_sem])
 have hs:w.heap.size<w1.heap.size:=by have:=Ha.size;simp at this;omega
 have HB:Hid (Below w.heap.size w w1):=zT (zA (zR w) _) Ha
 have HF:Hid (∀k,Fs k->w.heap.size<k):=fun k hk=>by have:=tO k hk;simp at this;omega
 have S1:Hid _:=s1
 have n1:w.heap.size≠w1.heap.size:=by omega
 have n2:w1.heap.size≠w.heap.size:=by omega
 clear Ha HN s1 tO;obtain⟨W2,Hz⟩:∃W2,W2=w1.alloc (N #[J B 0,J B 0] 27):=⟨_,rfl⟩
 have Hd:Below w1.heap.size w1 W2:=by rw[Hz];exact zA (zR _) _
 have q0:W2.cell? ⟨w1.heap.size,0,I⟩=S (J B 0):=by rw[Hz];simp[go_sem]
 have q1:W2.cell? ⟨w1.heap.size,1,I⟩=S (J B 0):=by rw[Hz];simp[go_sem]
 have pR:W2.heap.size=w1.heap.size+1:=by rw[Hz];simp
 go_upto_region 2 with fail
 rw[<-Hz];clear Hz
 go_wp2_with fail
 refine(yeu _).mono ?_;rintro e w3 ⟨bb,Fb,rfl,d3,He,bZ⟩;have nD:Below w1.heap.size w1 w3:=zT Hd He;have r0:=cell_later nD r0;have r1:=cell_later nD r1;have rz:∀p,w3.frozen? ⟨w.heap.size,p,I⟩=t:=fun p=>(nD.frozen (p:=⟨w.heap.size,p,I⟩) hs).trans (rz p)
 have dW:w.heap.size<w3.heap.size:=by have:=nD.size;omega
 have n3:w.heap.size≠w3.heap.size:=by omega
 have n4:w3.heap.size≠w.heap.size:=by omega
 clear q0 q1;obtain⟨V,hV⟩:∃V,V=(w3.setCell ⟨w.heap.size,0,I⟩ (J B 0)).setCell ⟨w.heap.size,1,I⟩ (J B 0):=⟨_,rfl⟩
 have Nq:V.heap.size=w3.heap.size:=by rw[hV];simp
 have bV:But (fun k=>k=w.heap.size) w3 V:=by rw[hV];exact(qd w3 _ _ _).trans (qd _ _ _ _) fun _ _ e=>e
 obtain⟨Wf,DJ⟩:∃Wf,Wf=V.alloc (N #[C (S ⟨sp,0,I⟩),C (S ⟨bb,0,I⟩),C (S ⟨bb,0,I⟩),J B 0,J B 0,.map I,.map I,.map I,.map I,J B 0,J B 0] 91):=⟨_,rfl⟩
 have blk:Wf.heap[w3.heap.size]?=S (N #[C (S ⟨sp,0,I⟩),C (S ⟨bb,0,I⟩),C (S ⟨bb,0,I⟩),J B 0,J B 0,.map I,.map I,.map I,.map I,J B 0,J B 0] 91 (0,0)):=by rw[DJ,<-Nq];exact heap_alloc_new _ _
 have bf:But (fun k=>k=w.heap.size) w3 Wf:=by rw[DJ];exact bV.alloc _
 have WI:=nD.size
 have FIN:Hid (jr Wf w3.heap.size (Pg.Spc.new co n) [] [] 0 (Wtd.F ⟨sp,bb,bb,fun _=>I,Fs,Fb,Fb,fun k=>if k<w1.heap.size then 1 else if k<w3.heap.size then 2 else 0⟩ w3.heap.size)):=by
  have BM:=d3.keep bf fun k hk e=>by have:=bZ k hk;omega
  have fl:∀k,Fb k->(if k<w1.heap.size then 1 else if k<w3.heap.size then 2 else 0)=2:=fun k hk=>by
   have h1:=bZ k hk;have h2:=d3.lt hk;rw[if_neg (by omega),if_pos h2]
  refine⟨_,[],0,fun _=>[],⟨?_,?_,?_,?_,?_,fun j hj=> ?_,?_,?_,fun p=> ?_,⟨?_,BM,BM,fun j _ m hm=>(by cases hm),?_,fun k hk=> ?_,fun k hk=> ?_,fun j _ m hm=>by cases hm⟩⟩,OK.out,rfl⟩
  ·simp[R,blk]
  ·simp[R,blk]
  ·simp[R,blk]
  ·simp[R,blk]
  ·simp[R,blk]
  ·obtain rfl|rfl|rfl|rfl:j=0\/j=1\/j=2\/j=3:=by omega
   all_goals simp[R,blk]
  ·simp[R,blk]
  ·simp[R,blk]
  ·simp[ur,blk]
  ·exact(jx.grow S1.out nD).keep bf fun k hk e=>by have:=HF.out k hk;omega
  ·show(if w3.heap.size<w1.heap.size then 1 else if w3.heap.size<w3.heap.size then 2 else 0)=0
   rw[if_neg (by omega),if_neg (by omega)]
  ·show(if k<w1.heap.size then 1 else if k<w3.heap.size then 2 else 0)=1
   rw[if_pos (S1.out.lt hk)]
  ·exact fl k (hk.elim id id)
 have BF:Hid (Below w.heap.size w Wf):=(zT HB.out nD).trans (bf.below (by omega) fun k e=>by omega)
 have OWN:Hid (∀k,Wtd.F ⟨sp,bb,bb,fun _=>I,Fs,Fb,Fb,fun k=>if k<w1.heap.size then 1 else if k<w3.heap.size then 2 else 0⟩ w3.heap.size k->w.heap.size<=k):=fun k hk=>by
  rcases hk with hk|hk|hk|hk|⟨j,_,hk⟩
  ·omega
  ·have:=HF.out k hk;omega
  ·have:=bZ k hk;omega
  ·have:=bZ k hk;omega
  ·cases hk
 have y0:Wf.cell? ⟨w.heap.size,0,I⟩=S (J B 0):=by
  rw[DJ,(zA (zR V) _).cell (p:=⟨w.heap.size,0,I⟩) (by rw[Nq];exact dW),hV];exact(kO _ _ _ _ (fun h=>by have:=congrArg Addr.off h;simp at this)).trans (ki _ _ _ r0)
 have y1:Wf.cell? ⟨w.heap.size,1,I⟩=S (J B 0):=by
  rw[DJ,(zA (zR V) _).cell (p:=⟨w.heap.size,1,I⟩) (by rw[Nq];exact dW),hV];exact ki (u:=J B 0) _ _ _ ((kO _ _ _ _ (fun h=>by have:=congrArg Addr.off h;simp at this)).trans r1)
 have Kj:w.heap.size<Wf.heap.size:=K _ _ y0;clear S1 HF d3 bZ OK HB bf blk nD Hd He bV
 go_wp2_with fail
 rw[<-hV,<-DJ];refine bodyPost_ret (v:=uv #[C (S ⟨w3.heap.size,0,I⟩),ue #[J B 0,J B 0]]) ?_ rfl ⟨w3.heap.size,_,rfl,FIN.out,BF.out,OWN.out⟩;simp[results,Tryz.results31,go_sem,y0,y1,Kj]
theorem yav (ad:Option Addr) (len cap:Nat) (k:Int) (w:O):Calls y 8 #[U ad len cap,J B k] w fun e w'=>e=H (Q (decide (k<(len:Int))))/\w'=w:=by
 go_enter Tryz.func8,Tryz.ntmps8
 go_wp2_with fail
 go_ret
 exact⟨rfl,rfl⟩
def Bst.sx (x:Bst):Pg.Sx:=⟨x.kind,x.core,x.m,x.q,x.k,x.u⟩
section
variable {P:O->Nat->Pg.Spc->(Nat->Prop)->Prop}
end
namespace Pg
def bgW:Sx:=⟨1,0,⟨5,0,9,0⟩,0,0,t⟩
theorem bw_map:(Spc.new 1 4).goE bgW=⟨0,t,0,0,0,yI⟩:=by kernel_rfl
theorem bw_chg:(Spc.new 1 4).chg bgW=1:=by kernel_rfl
theorem bw_maps:((Spc.new 1 4).goN bgW).maps.length=1:=by kernel_rfl
end Pg
theorem yaD (w:O):Calls y 30 #[] w fun e w'=>e=H (Q yI)/\Below w.heap.size w w':=by
 have HN:=ycp 1 4 w (by decide) (by decide) (by decide) (by decide);simp only[show((1:Nat):Int)=1 from rfl,show((4:Nat):Int)=4 from rfl]at HN
 have f0:Pg.fits 0:=by unfold Pg.fits;omega
 have f5:Pg.fits 5:=by unfold Pg.fits;omega
 have f9:Pg.fits 9:=by unfold Pg.fits;omega
 have q2:=fun w' b F (h:jr w' b (Pg.Spc.new 1 4) [] [] 0 F)=>ydt Pg.bgW ⟨f5,f0,f9,f0,f0,f0⟩ w' h (by omega);rw[Pg.bw_map,Pg.bw_chg]at q2;have q7:=fun w' b F (h:yam w' b ((Pg.Spc.new 1 4).goN Pg.bgW) F)=>ybW h;rw[Pg.bw_maps]at q7;generalize (Pg.Spc.new 1 4).goN Pg.bgW=X2 at*;generalize (Pg.Spc.new 1 4).nxL [] Pg.bgW=L2 at*;generalize (Pg.Spc.new 1 4).nxP [] [] Pg.bgW=P2 at*;generalize Pg.Spc.new 1 4=X1 at*;simp only[Pg.Sx.val,Pg.bgW,Pg.Ev.val]at q2
 go_enter Tryz.func30,Tryz.ntmps30
 go_wp2_with fail
 refine HN.mono ?_;rintro e w1 ⟨b,F,rfl,h1,Ha,tO⟩;obtain⟨W2,Hz⟩:∃W2,W2=w1.alloc (N #[J B 0,J B 0] 27):=⟨_,rfl⟩
 have Hd:Below w1.heap.size w1 W2:=by rw[Hz];exact zA (zR _) _
 have y0:W2.cell? ⟨w1.heap.size,0,I⟩=S (J B 0):=by rw[Hz];simp[go_sem]
 have T2:=q2 W2 b F (h1.grow Hd);have Ht:Hid (Below w.heap.size w W2):=zT Ha Hd;have aJ:Hid (∀k,F k->w.heap.size<=k):=tO;clear q2 HN h1 Ha tO Hd
 go_upto_region 2 with fail
 rw[<-Hz];clear Hz
 go_wp2_with fail
 refine T2.mono ?_;rintro e w3 ⟨rfl,F3,h3,He,bZ⟩;have rE:Hid (Below w.heap.size w w3):=Ht.out.trans (He.below Ht.out.size aJ.out);obtain⟨W4,rF⟩:∃W4,W4=(w3.alloc (N #[J B 0,Q t,J B 0,J B 0,J B 0,Q yI] 36)).alloc (N #[J B 0,J B 0] 27):=⟨_,rfl⟩
 have Hl:Below w3.heap.size w3 W4:=by rw[rF];exact zA (zA (zR _) _) _
 have e5:W4.cell? ⟨w3.heap.size,5,I⟩=S (Q yI):=by rw[rF];simp[go_sem]
 have f0':W4.cell? ⟨w3.heap.size+1,0,I⟩=S (J B 0):=by rw[rF];simp[go_sem]
 have h4:=h3.grow Hl;obtain⟨sp,Fs,c0,s4⟩:=h4.space;have HT:=ybb W4 h4;have H4:Hid _:=h4;have rM:Hid (Below w.heap.size w W4):=zT rE.out Hl;clear T2 h3 He bZ rE h4 y0
 go_upto_region 5 with fail
 rw[<-rF];clear rF Hl
 go_wp2_with fail
 refine HT.mono ?_;rintro e w5 ⟨rfl,rA⟩;have c0:=cell_later rA c0;have S5:=q7 w5 sp Fs (jx.grow s4 rA);have tu:Hid (Below w.heap.size w w5):=zT rM.out rA;clear rA q7 HT s4
 go_wp2_with fail
 refine S5.mono ?_;rintro e w6 ⟨ad,cap,rfl,_,H7⟩;have fw:Hid _:=zT tu.out H7;clear H7 S5
 go_wp2_with fail
 go_ret
 exact⟨rfl,fw.out⟩
namespace Wsm
variable {w0 w w':O} {b c:Nat} {X X' Y Y':Pg.Spc} {L L0 L' L0':List Pg.Mp} {ti KV:Int} {F F' G G':Nat->Prop}
end Wsm
structure Tmd where
 vL:Value
 cb:Nat->Nat
 vb:Nat->Value
structure Tmk (w:O) (b:Nat) (D:Tmd) (T:Pg.Tms):Prop where
 c0:w.cell? ⟨b,0,I⟩=S D.vL
 c1:w.cell? ⟨b,1,I⟩=S (J B (T.fl:Int))
 fz:∀p,w.frozen? ⟨b,p,I⟩=t
 row:w.ownsRow 0 100 1 D.vL T.L.length (j7 D.cb T.L.length)
 book:∀i,i<T.L.length->qQ w (D.cb i) (D.vb i) (T.L.getD i [])
 nb:D.vL.ownBlock≠S b
 ap:∀i,i<T.L.length->∀k,bkF (D.cb i) (D.vb i) k->k≠b/\D.vL.ownBlock≠S k
def Tmd.F (D:Tmd) (b n:Nat):Nat->Prop:=fun k=>k=b\/D.vL.ownBlock=S k\/∃i,i<n/\bkF (D.cb i) (D.vb i) k
structure ybE (w:O) (b:Nat) (T:Pg.Tms) (F:Nat->Prop):Prop where
 ex:∃D,Tmk w b D T/\F=D.F b T.L.length
section
variable {w w':O} {b:Nat} {D:Tmd} {T:Pg.Tms} {F G:Nat->Prop}
theorem Tmk.lb (h:Tmk w b D T):b<w.heap.size:=K _ _ h.c0
theorem Tmk.lt (h:Tmk w b D T) {k:Nat} (hk:D.F b T.L.length k):k<w.heap.size:=by
 rcases hk with rfl|hk|⟨i,hi,hk⟩
 ·exact h.lb
 ·exact(h.row.lt k hk).2
 ·exact(h.book i hi).lt hk
theorem Tmk.keep (h:Tmk w b D T) (hb:But G w w') (hF:∀k,D.F b T.L.length k->¬G k):Tmk w' b D T:=by
 have kb:=hb.block b h.lb (hF b (.inl rfl));have e:∀p,w'.cell? ⟨b,p,I⟩=w.cell? ⟨b,p,I⟩:=fun p=>ks (a:=⟨b,p,I⟩) kb;exact⟨(e _).trans h.c0,(e _).trans h.c1,fun p=>(uc (a:=⟨b,p,I⟩) kb).trans (h.fz p),zc h.row hb fun k hk=>hF k (.inr (.inl hk)),fun i hi=>(h.book i hi).keep hb fun k hk=>hF k (.inr (.inr ⟨i,hi,hk⟩)),h.nb,h.ap⟩
theorem Tmk.grow (h:Tmk w b D T) (hb:Below w.heap.size w w'):Tmk w' b D T:=h.keep (G:=fun _=>False) (But.yhp hb) (fun _ _=>id)
theorem ybE.lt (h:ybE w b T F) {k:Nat} (hk:F k):k<w.heap.size:=by
 obtain⟨D,h,rfl⟩:=h;exact h.lt hk
theorem ybE.keep (h:ybE w b T F) (hb:But G w w') (hF:∀k,F k->¬G k):ybE w' b T F:=by
 obtain⟨D,h,rfl⟩:=h;exact⟨D,h.keep hb hF,rfl⟩
theorem ybE.grow (h:ybE w b T F) (hb:Below w.heap.size w w'):ybE w' b T F:=h.keep (G:=fun _=>False) (But.yhp hb) (fun _ _=>id)
end
theorem ycb (w:O):Calls y 32 #[] w fun e w'=>∃b F,e=H (C (S ⟨b,0,I⟩))/\ybE w' b Pg.Tms.new F/\Below w.heap.size w w'/\∀k,F k->w.heap.size<=k:=by
 obtain⟨W,hW⟩:∃W,W=((w.alloc (N #[U I 0 0] 102)).alloc (N #[C (S ⟨w.heap.size,0,I⟩)] 100)).alloc (N #[U (S ⟨w.heap.size+1,0,I⟩) 1 1,J B 0] 85):=⟨_,rfl⟩;obtain⟨q1,q2,q3⟩:=js w (N #[U I 0 0] 102) (N #[C (S ⟨w.heap.size,0,I⟩)] 100) (N #[U (S ⟨w.heap.size+1,0,I⟩) 1 1,J B 0] 85);rw[<-hW]at q1 q2 q3
 have hB:Below w.heap.size w W:=by rw[hW];exact zA (zA (zA (zR _) _) _) _
 have hs:W.heap.size=w.heap.size+3:=by rw[hW];simp
 have T:Hid (ybE W (w.heap.size+2) Pg.Tms.new (Tmd.F ⟨U (S ⟨w.heap.size+1,0,I⟩) 1 1,fun _=>w.heap.size,fun _=>U I 0 0⟩ (w.heap.size+2) 1)):=by
  refine⟨⟨U (S ⟨w.heap.size+1,0,I⟩) 1 1,fun _=>w.heap.size,fun _=>U I 0 0⟩,⟨by simp[R,q3],by simp[R,q3,Pg.Tms.new],fun p=>by simp[ur,q3],?_,fun i hi=> ?_,by simp[Z],fun i hi k hk=> ?_⟩,rfl⟩
  ·refine⟨by simp[Pg.Tms.new,j7],.inr ⟨w.heap.size+1,1,#[C (S ⟨w.heap.size,0,I⟩)],rfl,Nat.zero_le _,q2,un _,by decide,rfl,?_⟩⟩
   simp[Pg.Tms.new,j7]
  ·have e:Pg.Tms.new.L.getD i []=[]:=by
    have:i=0:=by simp[Pg.Tms.new]at hi;omega
    subst this;rfl
   rw[e];exact⟨by simp[R,q1],fun o=>by simp[ur,q1],World.ownsRow_nil _ _ _ _,by simp[Z],Pg.Good.nil,fun _=>rfl⟩
  ·rcases hk with hk|hk
   ·have hk:k=w.heap.size:=hk
    exact⟨by omega,by simp[Z];omega⟩
   ·simp[Z]at hk
 have OWN:Hid (∀k,Tmd.F ⟨U (S ⟨w.heap.size+1,0,I⟩) 1 1,fun _=>w.heap.size,fun _=>U I 0 0⟩ (w.heap.size+2) 1 k->w.heap.size<=k):=fun k hk=>by
  rcases hk with hk|hk|⟨i,_,hk⟩
  ·omega
  ·simp[Z]at hk;omega
  ·rcases hk with hk|hk
   ·have hk:k=w.heap.size:=hk
    omega
   ·simp[Z]at hk
 have HB:Hid _:=hB;clear q1 q2 q3 hB hs
 go_enter Tryz.func32,Tryz.ntmps32
 go_wp2_with fail
 go_ret
 simp only[Nat.add_assoc,Nat.reduceAdd];refine⟨_,_,rfl,?_,?_,OWN.out⟩
 ·exact hW▸T.out
 ·exact hW▸HB.out
theorem yeY {w:O} {base:Nat} {e:TypeId} {v:Value} {n:Nat} {cb:Nat->Nat} (h:w.ownsRow base e 1 v n (j7 cb n)) (hn:1<=n):∃g cap,v=U (S ⟨g,0,I⟩) n cap/\g<w.heap.size/\∀j,j<n->w.cell? ⟨g,j,I⟩=S (C (S ⟨cb j,0,I⟩)):=by
 rcases h.2 with ⟨_,h0⟩|⟨g,cap,cur,rfl,_,hg,fe,nE,pU,dP⟩
 ·omega
 ·refine⟨g,cap,rfl,(l.1 hg).1,fun j hj=> ?_⟩
  have e:cur.toList[j]?=S (C (S ⟨cb j,0,I⟩)):=by
   rw[<-ycZ cb hj,<-dP,List.getElem?_take_of_lt (by omega)]
  rw[Array.getElem?_toList]at e;simp[R,hg,e]
theorem ydT:(Tryz.prog.info? 100).map (fun i=>(i.zero,i.size,i.bytes))=S (S (C I),1,8):=by kernel_rfl
theorem Tmk.ylc {w:O} {b:Nat} {D:Tmd} {T:Pg.Tms} (h:Tmk w b D T) (m:Nat):Tmk (w.setCell ⟨b,1,I⟩ (J B (m:Int))) b D ⟨T.L,m⟩:=by
 have hb:But (fun k=>k=b) w (w.setCell ⟨b,1,I⟩ (J B (m:Int))):=(But.refl (fun k=>k=b) w).setCell (a:=⟨b,1,I⟩) (.inr rfl) _;refine⟨(kO _ _ _ _ (fun h=>by have:=congrArg Addr.off h;simp at this)).trans h.c0,ki _ _ _ h.c1,fun p=>(ua _ _ _ _).trans (h.fz p),zc h.row hb fun k hk e=>h.nb (by rw[hk,e]),fun i hi=>(h.book i hi).keep hb fun k hk e=>(h.ap i hi k hk).1 e,h.nb,h.ap⟩
theorem Tmk.push {w V w6:O} {b g cap nb n0:Nat} {D:Tmd} {T:Pg.Tms} {M:List Pg.Mp} {vn:Value} (h:Tmk w b D T) (hV:Below w.heap.size w V) (oo:V.grownBy w6 D.vL.ownBlock) (hg:D.vL.ownBlock=S g\/g=V.heap.size) (hgl:g<w6.heap.size)
 (ho:w6.ownsRow 0 100 1 (U (S ⟨g,0,I⟩) (T.L.length+1) cap) (T.L.length+1) (j7 D.cb T.L.length++[C (S ⟨nb,0,I⟩)])) (gz:qQ w nb vn M) (hn:∀k,D.F b T.L.length k->k<n0) (gm:∀k,bkF nb vn k->n0<=k):
 ∃D',Tmk (w6.setCell ⟨b,0,I⟩ (U (S ⟨g,0,I⟩) (T.L.length+1) cap)) b D' ⟨T.L++[M],T.fl⟩/\But (D.F b T.L.length) w (w6.setCell ⟨b,0,I⟩ (U (S ⟨g,0,I⟩) (T.L.length+1) cap))/\∀k,D'.F b (T.L.length+1) k->D.F b T.L.length k\/bkF nb vn k\/w.heap.size<=k:=by
 have H7:But (fun k=>D.vL.ownBlock=S k) w w6:=(But.yhp hV).grown oo fun k hk=> .inr hk;have tq:But (fun k=>D.vL.ownBlock=S k\/k=b) w (w6.setCell ⟨b,0,I⟩ (U (S ⟨g,0,I⟩) (T.L.length+1) cap)):=(H7.mono fun _ _ e=> .inl e).setCell (a:=⟨b,0,I⟩) (.inr (.inr rfl)) _;have nbb:¬D.vL.ownBlock=S b:=h.nb;have kb:=H7.block b h.lb nbb;have e0:∀p,w6.cell? ⟨b,p,I⟩=w.cell? ⟨b,p,I⟩:=fun p=>ks (a:=⟨b,p,I⟩) kb;have Hf:∀i,i<T.L.length->∀k,bkF (D.cb i) (D.vb i) k->k<w.heap.size:=fun i hi k hk=>(h.book i hi).lt hk;have UN:g≠b:=fun e=>hg.elim (fun hg=>h.nb (by rw[hg,e])) (fun hg=>by have:=h.lb;have:=hV.size;omega);have MR:∀i,i<T.L.length->∀k,bkF (D.cb i) (D.vb i) k->g≠k:=fun i hi k hk e=>hg.elim (fun hg=>(h.ap i hi k hk).2 (by rw[hg,e])) (fun hg=>by have:=Hf i hi k hk;have:=hV.size;omega);have MQ:∀k,bkF nb vn k->g≠k:=fun k hk e=>hg.elim (fun hg=>by have:=hn g (.inr (.inl hg));have:=gm k hk;omega) (fun hg=>by have:=gz.lt hk;have:=hV.size;omega);have bw:b<n0:=hn b (.inl rfl);refine⟨⟨U (S ⟨g,0,I⟩) (T.L.length+1) cap,fun i=>if i=T.L.length then nb else D.cb i,fun i=>if i=T.L.length then vn else D.vb i⟩,⟨ki _ _ _ ((e0 0).trans h.c0),(kO _ _ _ _ (fun h=>by have:=congrArg Addr.off h;simp at this)).trans ((e0 1).trans h.c1),fun p=>(ua _ _ _ _).trans ((uc (a:=⟨b,p,I⟩) kb).trans (h.fz p)),?_,fun i hi=> ?_,?_,fun i hi k hk=> ?_⟩,tq.mono fun i hi e=>e.elim (fun e=> .inr (.inl e)) (fun e=> .inl e),fun k hk=> ?_⟩
 ·have e:j7 (fun i=>if i=T.L.length then nb else D.cb i) (T.L++[M]).length=j7 D.cb T.L.length++[C (S ⟨nb,0,I⟩)]:=by
   rw[kh,kp,vW,if_pos rfl,vX (cb':=D.cb) fun j hj=>if_neg (by omega)]
  show World.ownsRow _ _ _ _ (U (S ⟨g,0,I⟩) (T.L.length+1) cap) (T.L++[M]).length (j7 (fun i=>if i=T.L.length then nb else D.cb i) (T.L++[M]).length)
  rw[e,kh,kp];exact zc ho ((But.refl (fun k=>k=b) w6).setCell (a:=⟨b,0,I⟩) (.inr rfl) _) fun k hk e=>UN (by simp[Z]at hk;omega)
 ·have hi:i<T.L.length+1:=by simpa using hi
  by_cases e:i=T.L.length
  ·subst e
   have:(T.L++[M]).getD T.L.length []=M:=by simp[List.getD]
   simp only[if_true,this];exact gz.keep tq fun k hk e=>e.elim (fun e=>by have:=hn k (.inr (.inl e));have:=gm k hk;omega) (fun e=>by have:=gm k hk;omega)
  ·have hi:i<T.L.length:=by omega
   have:(T.L++[M]).getD i []=T.L.getD i []:=by simp[List.getD,List.getElem?_append_left hi]
   simp only[if_neg e,this];exact(h.book i hi).keep tq fun k hk e=>e.elim (fun e=>(h.ap i hi k hk).2 e) (fun e=>(h.ap i hi k hk).1 e)
 ·simp only[Z]
  intro e;injection e with e;exact UN e
 ·have hi:i<T.L.length+1:=by simpa using hi
  have key:(bkF nb vn k)\/∃i,i<T.L.length/\bkF (D.cb i) (D.vb i) k:=by
   by_cases e:i=T.L.length
   ·simp only[if_pos e]at hk
    exact .inl hk
   ·simp only[if_neg e]at hk
    exact .inr ⟨i,by omega,hk⟩
  have Ho:k≠b:=key.elim (fun e ek=>by have:=gm k e;omega) (fun⟨i,hi,e⟩=>(h.ap i hi k e).1);refine⟨Ho,?_⟩;simp only[Z];intro e;injection e with e;exact key.elim (fun e'=>MQ k e' e) (fun⟨i,hi,e'⟩=>MR i hi k e' e)
 ·rcases hk with hk|hk|⟨i,hi,hk⟩
  ·exact .inl (.inl hk)
  ·simp[Z]at hk
   rcases hg with hg|hg
   ·exact .inl (.inr (.inl (by rw[hg,hk])))
   ·exact .inr (.inr (by have:=hV.size;omega))
  ·by_cases e:i=T.L.length
   ·simp only[if_pos e]at hk
    exact .inr (.inl hk)
   ·simp only[if_neg e]at hk
    exact .inl (.inr (.inr ⟨i,by omega,hk⟩))
def yf2 (x:Pg.Sx):Array Value:=#[J B x.kind,J B x.core,J B x.m.p,J B x.m.s,J B x.m.f,J B x.m.r,J B x.q,J B x.k,Q x.u]
def ygr (e:Pg.Ev):Array Value:=#[J B e.c,Q e.ended,J B e.a,J B e.f,J B e.r,Q e.back]
structure yfi (w:O) (n:Nat) (x:Pg.Sx) (e:Pg.Ev):Prop where
 sx:w.heap[n]?=S (N (yf2 x) 43 (0,0))
 ev:w.heap[n+1]?=S (N (ygr e) 36 (0,0))
theorem yfi.but {w w':O} {n:Nat} {x:Pg.Sx} {e:Pg.Ev} {G:Nat->Prop} (h:yfi w n x e) (hb:But G w w') (h0:¬G n) (h1:¬G (n+1)):yfi w' n x e:=
 ⟨(hb.block n (l.1 h.sx).1 h0).trans h.sx,(hb.block (n+1) (l.1 h.ev).1 h1).trans h.ev⟩
theorem yfi.cells {w:O} {n:Nat} {x:Pg.Sx} {e:Pg.Ev} (h:yfi w n x e):
 (w.cell? ⟨n,0,I⟩=S (J B x.kind)/\w.cell? ⟨n,2,I⟩=S (J B x.m.p)/\w.cell? ⟨n,3,I⟩=S (J B x.m.s)/\w.cell? ⟨n,4,I⟩=S (J B x.m.f)/\w.cell? ⟨n,5,I⟩=S (J B x.m.r))/\w.cell? ⟨n+1,0,I⟩=S (J B e.c)/\w.cell? ⟨n+1,5,I⟩=S (Q e.back):=by
 have h1:=h.sx;have h2:=h.ev;unfold yf2 at h1;unfold ygr at h2;exact⟨by simp[R,h1],by simp[R,h2]⟩
def ve (w:O) (b:Nat) (F:Nat->Prop) (T':Pg.Tms) (w':O):Prop:=∃F',ybE w' b T' F'/\But F w w'/\∀k,F' k->F k\/w.heap.size<=k
theorem ydd {b:Nat} {T:Pg.Tms} {F:Nat->Prop} (x:Pg.Sx) (e:Pg.Ev) (hn:¬(e.c=0/\1<=x.kind/\x.kind<=3)) (w:O) (h:ybE w b T F) (h1:1<=T.L.length) (hm:T.L.length<=4611686018427387904):
 Calls y 34 #[C (S ⟨b,0,I⟩),x.val,e.val] w fun r w'=>r=H (uv #[])/\ve w b F (T.next x e) w':=by
 obtain⟨D,h,rfl⟩:=h;obtain⟨W,hW⟩:∃W,W=(w.alloc (N (yf2 x) 43)).alloc (N (ygr e) 36):=⟨_,rfl⟩
 have hB:Below w.heap.size w W:=by rw[hW];exact zA (zA (zR _) _) _
 have L0:yfi W w.heap.size x e:=by
  refine⟨?_,?_⟩
  ·rw[hW,Below.heap_alloc _ _ _ (by simp)]
   exact heap_alloc_new _ _
  ·rw[hW]
   exact(by simp:(w.alloc (N (yf2 x) 43)).heap.size=w.heap.size+1)▸heap_alloc_new _ _
 have TW:=h.grow hB;obtain⟨g,cap,ev,hg,_⟩:=yeY TW.row h1;have c0:=TW.c0;rw[ev]at c0;have c1:=TW.c1;have cz:=TW.fz
 have eT:T.next x e=⟨T.L,if e.back=yI then T.L.length-1 else T.fl⟩:=by
  unfold Pg.Tms.next Pg.Tms.more;rw[if_neg hn]
 have A0:Hid (e.back=t->ve w b (D.F b T.L.length) (T.next x e) W):=fun hk=>by
  rw[eT,hk];exact⟨_,⟨D,TW,rfl⟩,But.yhp hB,fun _=> .inl⟩
 have A1:Hid (e.back=yI->ve w b (D.F b T.L.length) (T.next x e) (W.setCell ⟨b,1,I⟩ (J B ((T.L.length-1:Nat):Int)))):=fun hk=>by
  rw[eT,hk];exact⟨_,⟨D,TW.ylc _,rfl⟩,(But.yhp hB).setCell (a:=⟨b,1,I⟩) (.inr (.inl rfl)) _,fun _=> .inl⟩
 obtain⟨⟨x0,x2,x3,x4,x5⟩,e0,e5⟩:=L0.cells;have rR:=h.lb
 have wV:w.heap.size≠b:=by omega
 have wW:w.heap.size+1≠b:=by omega
 clear h TW L0 ev eT hB;generalize Np:T.next x e=T' at*;generalize T.L.length=n at*;obtain⟨m,rfl⟩:∃m,n=m+1:=⟨n-1,by omega⟩;rw[show m+1-1=m from rfl]at A1
 have j1:(((m+1:Nat):Int)-1)=(m:Int):=by omega
 have r1:IntKind.i64.wrap (m:Int)=(m:Int):=zr (by omega) (by omega);clear Np;obtain⟨kd,co,⟨p,s,f,r⟩,q,k,u⟩:=x;obtain⟨ec,en,ea,ef,er,eb⟩:=e;simp only[Pg.Sx.val,Pg.Ev.val,yf2,ygr]at hW x0 x2 x3 x4 x5 e0 e5 hn A0 A1 ⊢
 have dH:(ec==0)=t\/(ec=0/\¬(1:Int)<=kd)\/(ec=0/\(1:Int)<=kd/\¬kd<=3):=by
  by_cases a1:ec=0
  ·by_cases a2:(1:Int)<=kd
   ·exact .inr (.inr ⟨a1,a2,fun a3=>hn ⟨a1,a2,a3⟩⟩)
   ·exact .inr (.inl ⟨a1,a2⟩)
  ·exact .inl (by simpa using a1)
 clear hn;cases eb
 ·clear A1
  rcases dH with hc|⟨rfl,sW⟩|⟨rfl,sW,tC⟩
  all_goals
   go_enter Tryz.func34,Tryz.ntmps34
   go_upto_region 1 with fail
   rw[<-hW];clear hW
   go_wp2_with fail
   go_end0
   exact⟨rfl,A0.out trivial⟩
 ·clear A0
  rcases dH with hc|⟨rfl,sW⟩|⟨rfl,sW,tC⟩
  all_goals
   go_enter Tryz.func34,Tryz.ntmps34
   go_upto_region 1 with fail
   rw[<-hW];clear hW
   go_wp2_with fail
   go_end0
   exact⟨rfl,A1.out trivial⟩
theorem ycm {b:Nat} {T:Pg.Tms} {F:Nat->Prop} (x:Pg.Sx) (hx:Pg.fits x.m.p) (e:Pg.Ev) (hc:e.c=0) (hk:x.kind=1\/x.kind=2\/x.kind=3) (w:O) (h:ybE w b T F) (h1:1<=T.L.length) (hm:T.L.length<=1000000):
 Calls y 34 #[C (S ⟨b,0,I⟩),x.val,e.val] w fun r w'=>r=H (uv #[])/\ve w b F (T.next x e) w':=by
 obtain⟨D,h,rfl⟩:=h;obtain⟨W,hW⟩:∃W,W=(w.alloc (N (yf2 x) 43)).alloc (N (ygr e) 36):=⟨_,rfl⟩
 have hB:Below w.heap.size w W:=by rw[hW];exact zA (zA (zR _) _) _
 have hs:W.heap.size=w.heap.size+2:=by rw[hW];simp
 have L0:yfi W w.heap.size x e:=by
  refine⟨?_,?_⟩
  ·rw[hW,Below.heap_alloc _ _ _ (by simp)]
   exact heap_alloc_new _ _
  ·rw[hW]
   exact(by simp:(w.alloc (N (yf2 x) 43)).heap.size=w.heap.size+1)▸heap_alloc_new _ _
 have TW:=h.grow hB;obtain⟨g,cap,ev,hg,gJ⟩:=yeY TW.row h1;have c0:=TW.c0;rw[ev]at c0;obtain⟨m,LC⟩:∃m,T.L.length=m+1:=⟨T.L.length-1,by omega⟩;have cm:=gJ m (by omega);have CK:=fun w' (hb:Below W.heap.size W w')=>yc0 w' ((TW.grow hb).book m (by omega))
 have eN:T.L.getD m []=T.now:=by unfold Pg.Tms.now;rw[LC];rfl
 rw[eN]at CK
 have eT:T.next x e=⟨T.L++[Pg.opL T.now x],if e.back=yI then T.L.length else T.fl⟩:=by
  unfold Pg.Tms.next Pg.Tms.more;rw[if_pos ⟨hc,by omega,by omega⟩];simp
 obtain⟨⟨x0,x2,x3,x4,x5⟩,e0,e5⟩:=L0.cells;have rR:=h.lb;have LF:Hid (∀k,D.F b T.L.length k->k<w.heap.size):=fun k hk=>h.lt hk;have LL:Hid _:=L0;have HT:Hid _:=TW;have HB:Hid _:=hB;obtain⟨p0,uM,ow,Sa,Sb⟩:=info_parts ydT;clear h TW L0 hB gJ h1;obtain⟨kd,co,⟨p,s,f,r⟩,q,k,u⟩:=x;obtain⟨ec,en,ea,ef,er,eb⟩:=e;simp only at hc hk hx;subst hc;simp only[Pg.Sx.val,Pg.Ev.val,yf2,ygr]at hW x0 x2 x3 x4 x5 e0 e5 eT ⊢
 have i0:(0:Int)<=(m:Int):=by omega
 have i1:(m:Int)<(T.L.length:Int):=by omega
 have r1:IntKind.i64.wrap ((T.L.length:Int)-1)=(m:Int):=(zr (by omega) (by omega)).trans (by omega);have HMN:Hid (T.L.length=m+1):=LC;have HM:Hid (T.L.length<=1000000):=hm;clear LC hm eN;generalize hM:Pg.opL T.now ⟨kd,co,⟨p,s,f,r⟩,q,k,u⟩=M at eT
 have EY:(kd=1/\Hid (∀w' nb vn,qQ w' nb vn T.now->Calls y 76 #[C (S ⟨nb,0,I⟩),ue #[J B p,J B s,J B f,J B r]] w' fun z w''=>(∃v,z=H v)/\∃vb',qQ w'' nb vb' M/\But (bkF nb vn) w' w''/\∀k,bkF nb vb' k->bkF nb vn k\/w'.heap.size<=k))\/(kd=2/\Hid (∀w' nb vn,qQ w' nb vn T.now->Calls y 77 #[C (S ⟨nb,0,I⟩),J B p] w' fun z w''=>(∃v,z=H v)/\∃vb',qQ w'' nb vb' M/\But (bkF nb vn) w' w''/\∀k,bkF nb vb' k->bkF nb vn k\/w'.heap.size<=k))\/(kd=3/\Hid (∀w' nb vn,qQ w' nb vn T.now->Calls y 78 #[C (S ⟨nb,0,I⟩),J B p,J B r] w' fun z w''=>(∃v,z=H v)/\∃vb',qQ w'' nb vb' M/\But (bkF nb vn) w' w''/\∀k,bkF nb vb' k->bkF nb vn k\/w'.heap.size<=k)):=by
  rcases hk with rfl|rfl|rfl
  ·refine .inl ⟨rfl,fun w' nb vn hb=> ?_⟩
   refine(ya4 ⟨p,s,f,r⟩ hx w' hb).mono ?_;rintro z w'' ⟨a,b⟩;exact⟨⟨_,a⟩,hM▸b⟩
  ·refine .inr (.inl ⟨rfl,fun w' nb vn hb=> ?_⟩)
   refine(yaa p hx w' hb).mono ?_;rintro z w'' ⟨a,b⟩;exact⟨⟨_,a⟩,hM▸b⟩
  ·refine .inr (.inr ⟨rfl,fun w' nb vn hb=> ?_⟩)
   refine(yaA p r hx w' hb).mono ?_;rintro z w'' ⟨a,b⟩;exact⟨⟨_,a⟩,hM▸b⟩
 clear hM;rcases EY with ⟨rfl,OP⟩|⟨rfl,OP⟩|⟨rfl,OP⟩
 all_goals
  go_enter Tryz.func34,Tryz.ntmps34
  go_upto_region 1 with fail
  rw[<-hW];clear hW
  go_upto_region 2 with fail
  go_region_held3 (fun w'=>w'.cell? ⟨b,0,I⟩=S (U (S ⟨g,0,I⟩) T.L.length cap)/\w'.cell? ⟨g,m,I⟩=S (C (S ⟨D.cb m,0,I⟩))) (go_keep) (first|(go_at_call 75;refine(CK _ (by first|exact(zR W).drew|exact zR W)).mono ?_;rintro z w2 ⟨nb,vn,rfl,Hd,TK,RA⟩;have B2:Hid (Below W.heap.size W w2):=(by first|exact zT (zR W).drew TK|exact TK);have u0:=cell_later B2.out c0;have u1:=cell_later B2.out cm;have K2:Hid _:=Hd;have N2:Hid (∀k,bkF nb vn k->W.heap.size<=k):=RA;clear Hd TK RA))
  clear c0 cm u0 u1 x0 x2 x3 x4 x5 e0 e5 CK
  as_aux_lemma=>
  have NL:¬bkF nb vn w.heap.size:=fun e=>by have:=N2.out _ e;omega
  have UC:¬bkF nb vn (w.heap.size+1):=fun e=>by have:=N2.out _ e;omega
  have L2:yfi w2 w.heap.size _ _:=LL.out.but (But.yhp (F:=fun _=>False) B2.out) id id;have T2:Tmk w2 b D T:=HT.out.grow B2.out;obtain⟨⟨x0,x2,x3,x4,x5⟩,e0,e5⟩:=L2.cells;simp only at x0 x2 x3 x4 x5 e0 e5;have HO:=OP.out w2 nb vn K2.out
  go_wp2_with fail
  refine HO.mono ?_;rintro z w3 ⟨⟨zv,rfl⟩,vn3,k3,He,lX⟩;have L3:yfi w3 w.heap.size _ _:=L2.but He NL UC
  have U2:∀k,D.F b T.L.length k->¬bkF nb vn k:=fun k hk e=>by have:=LF.out k hk;have:=N2.out k e;omega
  have T3:Tmk w3 b D T:=T2.keep He U2
  have B3:But (D.F b T.L.length) w w3:=((But.yhp HB.out).trans (But.yhp (F:=fun _=>False) B2.out) fun _ _ e=>e.elim).trans He fun i hi e=>by have:=N2.out i e;omega
  have s3:W.heap.size<=w3.heap.size:=ud B2.out.size He.size;have N3:∀k,bkF nb vn3 k->W.heap.size<=k:=fun k hk=>(lX k hk).elim (N2.out k) fun e=>ud B2.out.size e;obtain⟨⟨x0,x2,x3,x4,x5⟩,e0,e5⟩:=L3.cells;simp only at x0 x2 x3 x4 x5 e0 e5;have c0:=T3.c0;rw[ev]at c0;have cz:=T3.fz;have DY:b<w3.heap.size:=T3.lb;have Hr:=T3.row;rw[ev]at Hr
  have WS:b≠w3.heap.size:=by omega
  have Tt:Hid (∀V w6 g' cap',Below w3.heap.size w3 V->V.grownBy w6 D.vL.ownBlock->(D.vL.ownBlock=S g'\/g'=V.heap.size)->g'<w6.heap.size->w6.ownsRow 0 100 1 (U (S ⟨g',0,I⟩) (T.L.length+1) cap') (T.L.length+1) (j7 D.cb T.L.length++[C (S ⟨nb,0,I⟩)])->
   ∃D',Tmk (w6.setCell ⟨b,0,I⟩ (U (S ⟨g',0,I⟩) (T.L.length+1) cap')) b D' ⟨T.L++[M],T.fl⟩/\But (D.F b T.L.length) w (w6.setCell ⟨b,0,I⟩ (U (S ⟨g',0,I⟩) (T.L.length+1) cap'))/\(∀k,D'.F b (T.L.length+1) k->D.F b T.L.length k\/w.heap.size<=k)/\yfi (w6.setCell ⟨b,0,I⟩ (U (S ⟨g',0,I⟩) (T.L.length+1) cap')) w.heap.size _ _):=fun V w6 g' cap' hV oo Om hgl ho=>by
   obtain⟨D',t7,b7,f7⟩:=T3.push hV oo Om hgl ho k3 (n0:=W.heap.size) (fun k hk=>by have:=LF.out k hk;omega) N3;refine⟨D',t7,B3.trans b7 fun i _ e=>e,fun k hk=> ?_,L3.but b7 (fun e=>by have:=LF.out _ e;omega) (fun e=>by have:=LF.out _ e;omega)⟩;rcases f7 k hk with e|e|e
   ·exact .inl e
   ·exact .inr (by have:=N3 k e;omega)
   ·exact .inr (by omega)
  rw[ev]at Tt;have gb:g≠b:=fun e=>T3.nb (by rw[ev,e];rfl)
  have hML:T.L.length+1<=2000000:=by have:=HM.out;omega
  clear HO He lX k3 T2 L2 K2 NL UC U2 T3 N3 B3 L3 B2 N2
  go_wp2_with (first
   | (at_builtin;refine wpList_append_lies _ rfl _ _ 83 rfl 0 100 p0 (C I) 1 8 Tryz.underlying83 uM ow Sa Sb rfl (by decide) _ _ _ rfl (Hr.alloc _) ⟨w3.heap.size,0,I⟩ 1 1 [C (S ⟨nb,0,I⟩)] rfl rfl ?c1 ?c2 (by decide) ?c3 ?c4 ?c5 (w3.heap.size+1) (by simp) ?_))
  case c1=>
   intro j u hj
   match j,hj with
   | 0,hj=>simp at hj;subst hj;simp[Addr.add,go_sem]
  case c2=>intro u hu;simp at hu;subst hu;rfl
  case c3=>unfold maxLen;omega
  case c4=>omega
  case c5=>simp
  intro g6 cap6 w6 rV ry pq dh;obtain⟨D',t7,b7,f7,l7⟩:=Tt.out _ w6 g6 cap6 (zA (zR w3) _) ry (pq.imp id (fun h=>by rw[h];simp)) dh rV;have H7:But (fun k=>k=g) w3 w6:=(But.yhp (zA (zR w3) _)).grown ry fun k hk=> .inr (by simp[Z]at hk;exact hk.symm);have k0:=(H7.cell (a:=⟨b,0,I⟩) DY gb.symm).trans c0;have kz:∀p,w6.frozen? ⟨b,p,I⟩=t:=fun p=>(H7.frozen (a:=⟨b,p,I⟩) DY gb.symm).trans (cz p);have T7:Hid _:=t7;have B7:Hid _:=b7;have F7:Hid _:=f7;have L7:Hid _:=l7;clear t7 b7 f7 l7 Hr rV ry pq dh H7 Tt x0 x2 x3 x4 x5 e0 e5 c0 cz
  go_upto_region 10 with fail
  generalize w6.setCell ⟨b,0,I⟩ (U (S ⟨g6,0,I⟩) (T.L.length+1) cap6)=W7 at*;clear k0 kz;obtain⟨_,e0,e5⟩:=L7.out.cells;simp only at e0 e5;have c0:=T7.out.c0;have c1:=T7.out.c1;have cz:=T7.out.fz;obtain⟨g7,IK,I5,_,_⟩:=yeY T7.out.row (by simp);rw[I5]at c0;simp only[kh,kp]at c0
  have wV:w.heap.size≠b:=by omega
  have wW:w.heap.size+1≠b:=by omega
  have r2:IntKind.i64.wrap (((T.L.length+1:Nat):Int)-1)=(T.L.length:Int):=(zr (by omega) (by omega)).trans (by omega);have r3:IntKind.i64.wrap ((T.L.length:Int)+1-1)=(T.L.length:Int):=(zr (by omega) (by omega)).trans (by omega);have r4:IntKind.i64.wrap (T.L.length:Int)=(T.L.length:Int):=zr (by omega) (by omega);cases eb
  ·have E:Hid (ve w b (D.F b T.L.length) ⟨T.L++[M],T.fl⟩ W7):=⟨_,⟨D',T7.out,rfl⟩,B7.out,fun k hk=>F7.out k (by simpa using hk)⟩
   clear T7 B7 F7 L7 LL HT HB
   go_wp2_with fail
   go_end0
   refine⟨rfl,?_⟩
   first|exact E.out|(rw[eT];exact E.out)
  ·have E:Hid (ve w b (D.F b T.L.length) ⟨T.L++[M],T.L.length⟩ (W7.setCell ⟨b,1,I⟩ (J B (T.L.length:Int)))):=⟨_,⟨D',T7.out.ylc _,rfl⟩,B7.out.setCell (a:=⟨b,1,I⟩) (.inr (.inl rfl)) _,fun k hk=>F7.out k (by simpa using hk)⟩
   clear T7 B7 F7 L7 LL HT HB
   go_wp2_with fail
   go_end0
   refine⟨rfl,?_⟩
   first|exact E.out|(rw[eT];exact E.out)
theorem ycl {b:Nat} {T:Pg.Tms} {F:Nat->Prop} (x:Pg.Sx) (hx:Pg.fits x.m.p) (e:Pg.Ev) (w:O) (h:ybE w b T F) (h1:1<=T.L.length) (hm:T.L.length<=1000000):
 Calls y 34 #[C (S ⟨b,0,I⟩),x.val,e.val] w fun r w'=>r=H (uv #[])/\ve w b F (T.next x e) w':=by
 by_cases hc:e.c=0/\1<=x.kind/\x.kind<=3
 ·exact ycm x hx e hc.1 (by omega) w h h1 hm
 ·exact ydd x e hc w h h1 (by omega)
theorem jr.at' {w:O} {b sp:Nat} {X:Pg.Spc} {L L0:List Pg.Mp} {ti:Int} {F:Nat->Prop} (h:jr w b X L L0 ti F) (hc:w.cell? ⟨b,0,I⟩=S (C (S ⟨sp,0,I⟩))):∃Fs,yam w sp X Fs:=by
 obtain⟨sp',Fs,c,h⟩:=h.space;rw[hc]at c;injection c with c;injection c with c;injection c with c;injection c with c;exact⟨Fs,c▸h⟩
end Go.Proofs.YtdphiompijbelaaGreat
