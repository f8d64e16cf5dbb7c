import Derived.Test.YtdphiompijbelaaGreatDoorDkZ2
set_option linter.all false
set_option maxRecDepth 100000
open List renaming mem_cons_self->kR,take_succ_cons->kY,drop_succ_cons->kT,take_zero->kV,drop_zero->kQ
open Go.Proofs.Tryz renaming prog->kC
open Go.Ending renaming returned->kS
open Int renaming natCast_nonneg->l,toNat_natCast->kB
open Nat renaming le_refl->H,lt_of_lt_of_le->t,le_trans->kZ
open Go.Obj renaming cells->O
open Go renaming cell_regrown->U,bodyPost_ret->E,heap_alloc_new->kJ,World->kN,Calls->kF
open Bool renaming false->Z,true->kI
open Array renaming getElem?_eq_some_iff->R
open Go.RowKit renaming Hid->P
open Option renaming none->B,some->Q
open Go.IntKind renaming i64->J
open Go.Value renaming int->I,bool->o,pointer->kP,slice->kU
set_option maxHeartbeats 2000000
namespace Go.Proofs.YtdphiompijbelaaGreatDoor
open Go.RowKit
section
open Go.Sort
attribute [local go_sem] Loose.gent
theorem ybh {b:Nat} {D:Dsd} {X:Pg.Spc} (m:Pg.Mp) (w:kN) (h:Dsk w b D X):
 kF kC 179 #[kP (Q ⟨b,0,B⟩),m.val] w fun e w'=>e=kS (Pg.Ev.val ⟨Pg.insC X.S 0 m,Z,0,0,0,decide (Pg.insC X.S 0 m=0)⟩)/\zi w b D X {X with S:=Pg.insS X.S 0 m} w':=by
 obtain⟨p,s,f,r⟩:=m;obtain⟨W,hW⟩:∃W,W=(w.alloc (O #[I J p,I J s,I J f,I J r] 76)).alloc (O #[I J 0,o Z,I J 0,I J 0,I J 0,o Z] 73):=⟨_,rfl⟩
 have hB:Below w.heap.size w W:=by rw[hW];exact zA (zA (zR _) _) _
 have hWs:W.heap.size=w.heap.size+2:=by rw[hW];simp
 have RZ:P (W.heap[w.heap.size+1]?=Q (O #[I J 0,o Z,I J 0,I J 0,I J 0,o Z] 73 (0,0))):=by
  rw[P,hW];exact(by simp:(w.alloc (O #[I J p,I J s,I J f,I J r] 76)).heap.size=w.heap.size+1)▸kJ _ _
 have LT:P (∀x,dsF D b X.C.length X.G x->x<w.heap.size):=h.owns;have HW:P _:=h.grow hB;have q0:=U (show W.cell? ⟨w.heap.size,0,B⟩=Q (I J p) by rw[hW];simp[go_sem]);have q1:=U (show W.cell? ⟨w.heap.size,1,B⟩=Q (I J s) by rw[hW];simp[go_sem]);have q2:=U (show W.cell? ⟨w.heap.size,2,B⟩=Q (I J f) by rw[hW];simp[go_sem]);have q3:=U (show W.cell? ⟨w.heap.size,3,B⟩=Q (I J r) by rw[hW];simp[go_sem]);have g0:=U HW.out.c0;have g1:=U HW.out.c1;have HI:=fun w' (hm:zh w' D.bm X.S D.FM)=>yct 0 ⟨p,s,f,r⟩ w' hm;have HB:P _:=hB;clear h hB;simp only[Pg.Mp.val]at HI ⊢;generalize Pg.insC X.S 0 ⟨p,s,f,r⟩=c at*;generalize Pg.insS X.S 0 ⟨p,s,f,r⟩=S' at*
 go_enter Tryz.func179,Tryz.ntmps179
 go_upto_region 1 with fail
 rw[<-hW];clear hW;refine Loose.yhn 9 (by kernel_rfl) (by kernel_rfl) ?_;simp only[kY,kV,kT,kQ]
 repeat (
  refine Loose.zS (fun k hk=> ?_)
  go_simp
  (refine hk _ ?_;clear hk k))
 refine Loose.yho ?_;intro w3 hb3;have P3:P _:=HW.out.grow hb3;have HB3:P _:=hb3;clear hb3 q0 q1 q2 q3 g0 g1
 go_wp2_with fail
 refine(HI _ P3.out.mem).mono ?_;rintro e w4 ⟨rfl,FM,hm4,hb4,hF4⟩;have D4:P (zi W b D X {X with S:=S'} w4):=⟨_,P3.out.frames hm4 hb4 hF4,(But.yhl HB3.out).trans hb4 (fun x _ e=>⟨1,e⟩),fun x hx=>(qg hF4 x hx).imp id (fun h=>by have:=HB3.out.size;omega)⟩;clear hm4 hb4 hF4 HI P3 HB3;obtain⟨e4,hz4⟩:=D4.out.block (w:=w) (r:=w.heap.size+1) LT.out (by omega) (by omega);obtain⟨⟨z0,z1,z2,z3,z4,z5⟩,zf⟩:=z9 (e4.trans RZ.out);have FIN:P (∀Wf,But (fun x=>x=w.heap.size+1) w4 Wf->zi w b D X {X with S:=S'} Wf):=fun Wf hb=>D4.out.behind HB.out LT.out (fun x e=>by omega) hb;clear e4 D4
 have ec:(c==0)=decide (c=0):=by by_cases e:c=0<;>simp[e]
 cases hc:decide (c=0)
 all_goals
  have hcc:=hc;simp only[decide_eq_false_iff_not,decide_eq_true_eq]at hcc;rw[hc]at ec;have HCC:P _:=hcc;clear hcc
  go_wp2_with fail
  refine E (v:=Pg.Ev.val ⟨c,Z,0,0,0,_⟩) ?_ rfl ⟨rfl,FIN.out _ ?_⟩
  ·simp[results,Tryz.results179,go_sem,z0,z1,z2,z3,z4,z5,hz4,Pg.Ev.val,HCC.out]
   try exact HCC.out
  ·exact ybT _ _ _ _ _ _ _ _
theorem vi {b:Nat} {D:Dsd} {X:Pg.Spc} (m:Pg.Mp) (c:Int) (hc:c≠0) (ag:Option Addr) (n cg:Nat) (w:kN) (h:Dsk w b D X):
 kF kC 181 #[kP (Q ⟨b,0,B⟩),m.val,kU ag n cg,I J c] w fun e w'=>e=kS (Pg.Ev.code c).val/\Below w.heap.size w w':=by
 obtain⟨p,s,f,r⟩:=m;obtain⟨W,hW⟩:∃W,W=(w.alloc (O #[I J p,I J s,I J f,I J r] 76)).alloc (O #[I J 0,o Z,I J 0,I J 0,I J 0,o Z] 73):=⟨_,rfl⟩
 have hB:Below w.heap.size w W:=by rw[hW];exact zA (zA (zR _) _) _
 have hWs:W.heap.size=w.heap.size+2:=by rw[hW];simp
 have RZ:P (W.heap[w.heap.size+1]?=Q (O #[I J 0,o Z,I J 0,I J 0,I J 0,o Z] 73 (0,0))):=by
  rw[P,hW];exact(by simp:(w.alloc (O #[I J p,I J s,I J f,I J r] 76)).heap.size=w.heap.size+1)▸kJ _ _
 have HB:P _:=hB
 have hc':(c !=0)=kI:=by simpa using hc
 clear h hB hc;simp only[Pg.Mp.val]
 go_enter Tryz.func181,Tryz.ntmps181
 go_upto_region 1 with fail
 rw[<-hW];clear hW
 go_wp2_with fail
 refine(zX c _).mono ?_;rintro e w2 ⟨rfl,hb2⟩;obtain⟨⟨z0,z1,z2,z3,z4,z5⟩,zf⟩:=z9 ((hb2.block _ (by omega)).trans RZ.out)
 have hs2:w.heap.size+1<w2.heap.size:=by have:=hb2.size;omega
 have HB2:P (Below w.heap.size w w2):=zT HB.out hb2;clear hb2;simp only[Pg.Ev.val,Pg.Ev.code]
 go_wp2_with fail
 refine E (v:=(Pg.Ev.code c).val) ?_ rfl ⟨rfl,?_⟩
 ·simp[results,Tryz.results181,go_sem,z0,z1,z2,z3,z4,z5,hs2,Pg.Ev.val,Pg.Ev.code]
 ·exact ycR HB2.out _ (by omega) _ _ _ _ _ _
theorem yap {b:Nat} {D:Dsd} {X:Pg.Spc} (m:Pg.Mp) (hm:Pg.fits m.p) (hbz:X.busy=Z) (ag:Option Addr) (cg:Nat) (G:List Int) (w:kN) (h:Dsk w b D X) (hG:zl w ag G) (hn:∀g,ag=Q ⟨g,0,B⟩->¬dsF D b X.C.length [] g) (hg4:G.length<=4680):
 kF kC 181 #[kP (Q ⟨b,0,B⟩),m.val,kU ag G.length cg,I J 0] w fun e w'=>e=kS (Pg.Ev.code 0).val/\Dsk w' b {D with ag:=ag,cg:=cg} (X.post X.S m G)/\But (fun x=>x=b\/x=D.bs) w w':=by
 obtain⟨p,s,f,r⟩:=m;obtain⟨W,hW⟩:∃W,W=(w.alloc (O #[I J p,I J s,I J f,I J r] 76)).alloc (O #[I J 0,o Z,I J 0,I J 0,I J 0,o Z] 73):=⟨_,rfl⟩
 have hB:Below w.heap.size w W:=by rw[hW];exact zA (zA (zR _) _) _
 have hWs:W.heap.size=w.heap.size+2:=by rw[hW];simp
 have RZ:P (W.heap[w.heap.size+1]?=Q (O #[I J 0,o Z,I J 0,I J 0,I J 0,o Z] 73 (0,0))):=by
  rw[P,hW];exact(by simp:(w.alloc (O #[I J p,I J s,I J f,I J r] 76)).heap.size=w.heap.size+1)▸kJ _ _
 have x0:W.cell? ⟨w.heap.size,0,B⟩=Q (I J p):=by rw[hW];simp[go_sem]
 have x1:W.cell? ⟨w.heap.size,1,B⟩=Q (I J s):=by rw[hW];simp[go_sem]
 have x2:W.cell? ⟨w.heap.size,2,B⟩=Q (I J f):=by rw[hW];simp[go_sem]
 have x3:W.cell? ⟨w.heap.size,3,B⟩=Q (I J r):=by rw[hW];simp[go_sem]
 have LT:P (∀x,dsF D b X.C.length X.G x->x<w.heap.size):=h.owns
 have LT2:P (∀x,dsF {D with ag:=ag,cg:=cg} b X.C.length G x->x<w.heap.size):=by
  rintro x ⟨i,hx⟩
  match i with
  | 0=>exact h.lt (i:=0) hx
  | 1=>exact h.lt (i:=1) hx
  | 2=>exact h.lt (i:=2) hx
  | 3=>exact h.lt (i:=3) hx
  | 4=>
    obtain⟨g,e,hl,_⟩:=hG 0 (List.length_pos_iff.2 hx.1);have e2:ag=Q ⟨x,0,B⟩:=hx.2;rw[e2]at e;injection e with e;injection e with e;rw[e];exact hl
  | k+5=>exact h.lt (i:=k+5) hx
 have hlb:=h.lb;have hbs:D.bs<w.heap.size:=LT.out _ ⟨3,rfl⟩;have hlen:=h.len;have hpos:=h.pos;have hle:=h.le;have HW:=h.grow hB
 obtain⟨P2,B2⟩:=HW.goes (ag:=ag) (cg:=cg) (G:=G) (fun j hj=>by
  obtain⟨g,e,hl,hc⟩:=hG j hj
  exact⟨g,e,t hl hB.size,(hB.cell (p:=⟨g,j,B⟩) hl).trans hc⟩) hn hg4
 have c4:=HW.c4;have fb:=HW.fb;generalize hW2:W.setCell ⟨b,4,B⟩ (kU ag G.length cg)=W2 at*
 have hs2:W2.heap.size=w.heap.size+2:=by rw[<-hW2];simpa using hWs
 have HM:P _:=hm;have HB:P _:=hB;have P2:P _:=P2;have B2:P _:=B2
 have hne:∀y,w.heap.size<=y->¬y=b:=fun y h1 h2=>by omega
 have q0:=U ((B2.out.cell (a:=⟨w.heap.size,0,B⟩) (show w.heap.size<_ by omega) (hne _ (H _))).trans x0);have q1:=U ((B2.out.cell (a:=⟨w.heap.size,1,B⟩) (show w.heap.size<_ by omega) (hne _ (H _))).trans x1);have q2:=U ((B2.out.cell (a:=⟨w.heap.size,2,B⟩) (show w.heap.size<_ by omega) (hne _ (H _))).trans x2);have q3:=U ((B2.out.cell (a:=⟨w.heap.size,3,B⟩) (show w.heap.size<_ by omega) (hne _ (H _))).trans x3);have Z2:P (W2.heap[w.heap.size+1]?=_):=(B2.out.block _ (by omega) (hne _ (by omega))).trans RZ.out;have g3:=U P2.out.c3;have g2:=U P2.out.c2;simp only at g3 g2;have HPO:=fun w' (hs:jm w' D.bs X.T (fun k=>X.W.getD k Z))=>ydr ⟨p,s,f,r⟩ X.C.length w' hs (by rw[Pg.ykz (by omega)];unfold Pg.Spc.busy at hbz;rw[hbz];rfl) hpos hle;rw[<-hlen,Pg.post_waits,hlen]at HPO;clear h hG hn hm hB HW x0 x1 x2 x3 hne hbz;simp only[Pg.Mp.val]at HPO ⊢
 go_enter Tryz.func181,Tryz.ntmps181
 go_upto_region 1 with fail
 rw[<-hW];clear hW
 go_upto_region 4 with fail
 clear hW2 c4 fb;refine Loose.yhn 10 (by kernel_rfl) (by kernel_rfl) ?_;simp only[kY,kV,kT,kQ]
 repeat (
  refine Loose.zS (fun k hk=> ?_)
  go_simp
  (refine hk _ ?_;clear hk k))
 refine Loose.yho ?_;intro w3 hb3;have P3:P _:=P2.out.grow hb3;have HB3:P _:=hb3;have Z3:P (w3.heap[w.heap.size+1]?=_):=(hb3.block _ (by omega)).trans Z2.out;clear hb3 q0 q1 q2 q3 g2 g3 Z2 P2
 go_wp2_with fail
 refine(HPO _ P3.out.tl).mono ?_;rintro e w4 ⟨rfl,hs4,hb4⟩;have P4:P (Dsk w4 b {D with ag:=ag,cg:=cg} (X.post X.S ⟨p,s,f,r⟩ G)):=P3.out.shot hs4 hb4 (by rw[List.length_map];exact hlen) HM.out
 have hz3:w.heap.size+1<w3.heap.size:=by have:=HB3.out.size;omega
 have Z4:w4.heap[w.heap.size+1]?=_:=(hb4.block _ hz3 (fun e=>by have e:w.heap.size+1=D.bs:=e;omega)).trans Z3.out;have hz4:w.heap.size+1<w4.heap.size:=t hz3 hb4.size;obtain⟨⟨z0,z1,z2,z3,z4,z5⟩,zf⟩:=z9 Z4;have B4:P (But (fun x=>x=b\/x=D.bs) w w4):=((((But.yhl HB.out).trans B2.out (fun _ _ h=> .inl h)).trans (But.yhl (F:=fun _=>False) HB3.out) (fun _ _ h=>h.elim)).trans hb4 (fun _ _ h=> .inr h))
 have FIN:P (∀Wf,But (fun x=>x=w.heap.size+1) w4 Wf->Dsk Wf b {D with ag:=ag,cg:=cg} (X.post X.S ⟨p,s,f,r⟩ G)/\But (fun x=>x=b\/x=D.bs) w Wf):=fun Wf hb=>by
  refine⟨P4.out.keep hb (fun x hx e=> ?_),B4.out.trans hb (fun x hx e=>by omega)⟩;have:=LT2.out x hx;omega
 clear hs4 hb4 Z4 P4 B4 HPO P3 HB3 Z3 B2
 go_wp2_with fail
 refine E (v:=(Pg.Ev.code 0).val) ?_ rfl ⟨rfl,FIN.out _ ?_⟩
 ·simp[results,Tryz.results181,go_sem,z0,z1,z2,z3,z4,z5,hz4,Pg.Ev.val,Pg.Ev.code]
 ·exact ybT _ _ _ _ _ _ _ _
theorem yaM {b:Nat} {D:Dsd} {X:Pg.Spc} (x:Pg.Sx) (hz:X.busy=kI) (w:kN) (h:Dsk w b D X):
 kF kC 153 #[kP (Q ⟨b,0,B⟩),x.val] w fun e w'=>e=kS (Pg.Ev.code 8).val/\Below w.heap.size w w':=by
 obtain⟨W,hW⟩:∃W,W=chW w x:=⟨_,rfl⟩
 have CW:P (ChW w W x):=by rw[hW];exact qx w x
 have HBU:=xN W (h.grow CW.out.bel);rw[hz]at HBU;have hWs:W.heap.size=w.heap.size+2:=CW.out.size;clear h hz;obtain⟨kd,co,⟨p,s,f,r⟩,q,k,u⟩:=x;simp only[chW,Pg.Sx.val]at hW ⊢
 go_enter Tryz.func153,Tryz.ntmps153
 go_upto_region 1 with fail
 rw[<-hW];clear hW
 go_wp2_with fail
 refine HBU.mono ?_;rintro e w1 ⟨rfl,hw⟩;subst w1
 go_wp2_with fail
 refine(zX 8 _).mono ?_;rintro e w2 ⟨rfl,hb2⟩;obtain⟨⟨z0,z1,z2,z3,z4,z5⟩,zf⟩:=z9 ((hb2.block _ (by omega)).trans CW.out.ev)
 have hs2:w.heap.size+1<w2.heap.size:=by have:=hb2.size;omega
 have HB2:P (Below w.heap.size w w2):=zT CW.out.bel hb2;clear hb2;simp only[Pg.Ev.val,Pg.Ev.code]
 go_wp2_with fail
 refine E (v:=(Pg.Ev.code 8).val) ?_ rfl ⟨rfl,?_⟩
 ·simp[results,Tryz.results153,go_sem,z0,z1,z2,z3,z4,z5,hs2,Pg.Ev.val,Pg.Ev.code]
 ·exact ycR HB2.out _ (by omega) _ _ _ _ _ _
theorem ybe {b:Nat} {D:Dsd} {X:Pg.Spc} (x:Pg.Sx) (hk:x.kind=1) (hz:X.busy=Z) (w:kN) (h:Dsk w b D X):
 kF kC 153 #[kP (Q ⟨b,0,B⟩),x.val] w fun e w'=>e=kS (Pg.Ev.val ⟨Pg.insC X.S 0 x.m,Z,0,0,0,decide (Pg.insC X.S 0 x.m=0)⟩)/\zi w b D X {X with S:=Pg.insS X.S 0 x.m} w':=by
 obtain⟨W,hW⟩:∃W,W=chW w x:=⟨_,rfl⟩
 have CW:P (ChW w W x):=by rw[hW];exact qx w x
 have PW:=h.grow CW.out.bel;have HBU:=xN W PW;rw[hz]at HBU;have HI:=ybh x.m W PW;have hWs:W.heap.size=w.heap.size+2:=CW.out.size;have LT:P (∀x,dsF D b X.C.length X.G x->x<w.heap.size):=h.owns;have x0:=CW.out.x0;have x2:=CW.out.x2;have x3:=CW.out.x3;have x4:=CW.out.x4;have x5:=CW.out.x5;clear h hz PW;obtain⟨kd,co,⟨p,s,f,r⟩,q,k,u⟩:=x;simp only at hk x0 x2 x3 x4 x5;subst hk;generalize Pg.insC X.S 0 _=c at*;generalize Pg.insS X.S 0 _=S' at*;generalize decide (c=0)=z at*;simp only[chW,Pg.Sx.val,Pg.Mp.val]at hW HI ⊢
 go_enter Tryz.func153,Tryz.ntmps153
 go_upto_region 1 with fail
 rw[<-hW];clear hW
 go_wp2_with fail
 refine HBU.mono ?_;rintro e w1 ⟨rfl,hw⟩;subst w1
 go_wp2_with fail
 refine HI.mono ?_;rintro e w2 ⟨rfl,d2⟩;have D2:P _:=d2;obtain⟨e2,hz2⟩:=d2.block (w:=w) (r:=w.heap.size+1) LT.out (by omega) (by omega);obtain⟨⟨z0,z1,z2,z3,z4,z5⟩,zf⟩:=z9 (e2.trans CW.out.ev);have FIN:P (∀Wf,But (fun x=>x=w.heap.size+1) w2 Wf->zi w b D X {X with S:=S'} Wf):=fun Wf hb=>D2.out.behind CW.out.bel LT.out (fun x e=>by omega) hb;clear d2 D2 e2 x0 x2 x3 x4 x5 HI HBU CW;simp only[Pg.Ev.val]
 go_wp2_with fail
 refine E (v:=Pg.Ev.val ⟨c,Z,0,0,0,z⟩) ?_ rfl ⟨rfl,FIN.out _ ?_⟩
 ·simp[results,Tryz.results153,go_sem,z0,z1,z2,z3,z4,z5,hz2,Pg.Ev.val]
 ·exact ybT _ _ _ _ _ _ _ _
structure ChD (w Wa:kN) (b mb:Nat) (D:Dsd) (X:Pg.Spc) (S':Pg.Fs) (FM:Nat->Prop) (m:Pg.Mp) (ad:Option Addr) (G:List Int):Prop where
 ds:Dsk Wa b {D with FM:=FM} {X with S:=S'}
 but:But (dsF D b X.C.length X.G) w Wa
 own:∀x,FM x->D.FM x\/w.heap.size+1<x
 ev:Wa.heap[w.heap.size+1]?=Q (O #[I J 0,o Z,I J 0,I J 0,I J 0,o Z] 73 (0,0))
 m0:Wa.cell? ⟨mb,0,B⟩=Q (I J m.p)
 m1:Wa.cell? ⟨mb,1,B⟩=Q (I J m.s)
 m2:Wa.cell? ⟨mb,2,B⟩=Q (I J m.f)
 m3:Wa.cell? ⟨mb,3,B⟩=Q (I J m.r)
 gone:zl Wa ad G
 ng:∀g,ad=Q ⟨g,0,B⟩->¬dsF {D with FM:=FM} b X.C.length [] g/\w.heap.size+1<g
 lt:∀x,dsF D b X.C.length X.G x->x<w.heap.size
section
variable {w W V w4 Wa w6:kN} {b mb:Nat} {D:Dsd} {X:Pg.Spc} {S':Pg.Fs} {FM:Nat->Prop} {m:Pg.Mp} {ad:Option Addr} {G:List Int} {x:Pg.Sx}
theorem ChD.size (h:ChD w Wa b mb D X S' FM m ad G):w.heap.size+1<Wa.heap.size:=(R.1 h.ev).1
theorem yf1 (hD:Dsk w b D X) {g:Nat} (hg:w.heap.size<=g) (hf:¬FM g):¬dsF {D with FM:=FM} b X.C.length [] g:=by
 rintro ⟨i,hx⟩
 match i with
 | 0=>have:=hD.lt (i:=0) hx;omega
 | 1=>exact hf hx
 | 2=>have:=hD.lt (i:=2) hx;omega
 | 3=>have:=hD.lt (i:=3) hx;omega
 | 4=>exact absurd rfl hx.1
 | k+5=>have:=hD.lt (i:=k+5) hx;omega
theorem ChD.made (hD:Dsk w b D X) (hB:Below w.heap.size w W) (hev:W.heap[w.heap.size+1]?=Q (O #[I J 0,o Z,I J 0,I J 0,I J 0,o Z] 73 (0,0)))
 (hV:Below W.heap.size W V) (hm:zh w4 D.bm S' FM) (hb:But D.FM V w4) (hF:∀x,FM x->D.FM x\/V.heap.size<=x) (hG:zl w4 ad G) (hn:∀g,ad=Q ⟨g,0,B⟩->V.heap.size<=g/\¬FM g)
 {Y:Nat->Prop} (hW:But Y w4 Wa) (hY:∀j,Y j->W.heap.size<=j/\j<V.heap.size)
 (m0:Wa.cell? ⟨mb,0,B⟩=Q (I J m.p)) (m1:Wa.cell? ⟨mb,1,B⟩=Q (I J m.s)) (m2:Wa.cell? ⟨mb,2,B⟩=Q (I J m.f)) (m3:Wa.cell? ⟨mb,3,B⟩=Q (I J m.r)):
 ChD w Wa b mb D X S' FM m ad G:=by
 have hev1:=(R.1 hev).1;have sV:=hV.size;have s4:=hb.size;have DV:=(hD.grow hB).grow hV;have lt:=hD.owns;have P4:=DV.frames hm hb hF;refine⟨P4.keep hW (fun x hx hy=> ?_),((But.yhl (zT hB hV)).trans hb (fun x _ h=>⟨1,h⟩)).trans hW (fun x hx hy=>by have:=hY x hy;have:=hB.size;omega),fun x hx=>(hF x hx).imp id (fun h=>by omega),?_,m0,m1,m2,m3,hG.but hW (fun g e hy=>by have:=hY g hy;have:=(hn g e).1;omega),fun g e=>⟨yf1 hD (by have:=(hn g e).1;have:=hB.size;omega) (hn g e).2,by have:=(hn g e).1;omega⟩,lt⟩
 ·have:=hY x hy
  have:=hB.size;rcases qg (D:=D) (N:=V.heap.size) hF x hx with h|h
  ·have:=lt x h
   omega
  ·omega
 ·refine(hW.block _ (by omega) (fun hy=>by have:=hY _ hy;omega)).trans ((hb.block _ (by omega) (fun hy=> ?_)).trans ((hV.block _ hev1).trans hev))
  have:=lt _ ⟨1,hy⟩;omega
theorem ChD.told {cg:Nat} (h:ChD w Wa b mb D X S' FM m ad G) (h6:Dsk w6 b {D with FM:=FM,ag:=ad,cg:=cg} (X.post S' m G)) (hb:But (fun x=>x=b\/x=D.bs) Wa w6):
 (∀Wf,But (fun x=>x=w.heap.size+1) w6 Wf->zi w b D X (X.post S' m G) Wf)/\w6.heap[w.heap.size+1]?=Q (O #[I J 0,o Z,I J 0,I J 0,I J 0,o Z] 73 (0,0)):=by
 have l0:=h.lt b ⟨0,rfl⟩;have l3:=h.lt D.bs ⟨3,rfl⟩
 have own:∀x,dsF {D with FM:=FM,ag:=ad,cg:=cg} b X.C.length G x->dsF D b X.C.length X.G x\/w.heap.size+1<x:=by
  rintro x ⟨i,hx⟩
  match i with
  | 0=>exact .inl ⟨0,hx⟩
  | 1=>exact(h.own x hx).imp (fun h=>⟨1,h⟩) id
  | 2=>exact .inl ⟨2,hx⟩
  | 3=>exact .inl ⟨3,hx⟩
  | 4=>exact .inr (h.ng x hx.2).2
  | k+5=>exact .inl ⟨k+5,hx⟩
 refine⟨fun Wf hf=>⟨_,h6.keep hf (fun x hx e=> ?_),(h.but.trans hb (fun x _ e=>e.elim (fun e=>⟨0,e⟩) (fun e=>⟨3,e⟩))).trans hf (fun x hx e=>by omega),fun x hx=>(own x hx).imp id (fun h=>by omega)⟩,(hb.block _ h.size (fun e=>by omega)).trans h.ev⟩;rcases own x hx with h'|h'
 ·have:=h.lt x h'
  omega
 ·omega
end
theorem yal {w3 w4:kN} {F:Nat->Prop} {ob:Obj} (hb:But F (w3.alloc ob).drew w4) (hn:¬F w3.heap.size):w4.heap[w3.heap.size]?=(w3.alloc ob).heap[w3.heap.size]?:=hb.block w3.heap.size (by simp) hn
theorem zm {w3 V w4:kN} {F:Nat->Prop} {a:Addr} {v:Value} (hb:But F V w4) (hV:Below w3.heap.size w3 V) (hl:a.block<w3.heap.size) (hn:¬F a.block) (h:w3.cell? a=Q v):w4.cell? a=Q v:=(hb.cell (t hl hV.size) hn).trans ((hV.cell hl).trans h)
theorem ygD (w:kN) (r:Nat) (x0 x1 x2 x3:Value):But (fun x=>x=r) w ((((w.setCell ⟨r,0,B⟩ x0).setCell ⟨r,1,B⟩ x1).setCell ⟨r,2,B⟩ x2).setCell ⟨r,3,B⟩ x3):=(But.refl (fun x=>x=r) w).set4 r (.inr rfl) _ _ _ _
theorem vS {b:Nat} {D:Dsd} {X X':Pg.Spc} (x:Pg.Sx) (hk:x.kind=2) (hz:X.busy=Z) (w:kN) (h:Dsk w b D X) (h1:Pg.tFC X.S 0 x.m.p=0->X'=X.post (Pg.rmR X.S 0 x.m.p).1 (Pg.tFM X.S 0 x.m.p) (Pg.rmR X.S 0 x.m.p).2) (h2:Pg.tFC X.S 0 x.m.p≠0->X'=X):
 kF kC 153 #[kP (Q ⟨b,0,B⟩),x.val] w fun e w'=>e=kS (Pg.Ev.code (Pg.tFC X.S 0 x.m.p)).val/\zi w b D X X' w':=by
 obtain⟨kd,co,⟨p,s,f,r⟩,q,k,u⟩:=x;simp only at hk h1 h2;subst hk;obtain⟨W,hW⟩:∃W,W=chW w ⟨2,co,⟨p,s,f,r⟩,q,k,u⟩:=⟨_,rfl⟩
 have CW:P (ChW w W ⟨2,co,⟨p,s,f,r⟩,q,k,u⟩):=by rw[hW];exact qx w _
 have PW:P _:=h.grow CW.out.bel;have HBU:=xN W PW.out;rw[hz]at HBU;have LT:P (∀x,dsF D b X.C.length X.G x->x<w.heap.size):=h.owns;have hWs:W.heap.size=w.heap.size+2:=CW.out.size
 have hx0:w.heap.size<W.heap.size:=by omega
 have x0:=CW.out.x0;have y2:=CW.out.x2;have g0:=PW.out.c0;have g1:=PW.out.c1;simp only at x0 y2;have HI:=fun w3 (hm:zh w3 D.bm X.S D.FM)=>ycu 0 p w3 hm;have HFM:P (Pg.fits (Pg.tFM X.S 0 p).p):=Pg.ylp X.S p;have HGL:P ((Pg.rmR X.S 0 p).2.length<=4680):=yfF X.S 0 p
 have HR0:P (Pg.tFC X.S 0 p≠0->(Pg.rmR X.S 0 p).1=X.S):=fun e=>by unfold Pg.rmR;rw[if_neg e]
 have H1:P _:=h1;have H2:P _:=h2;have HZ:P (X.busy=Z):=hz;have HX:P _:=h;clear h hz h1 h2;simp only[chW,Pg.Sx.val]at hW ⊢;generalize hc0:Pg.tFC X.S 0 p=c at*;clear hc0;generalize Pg.tFM X.S 0 p=m at*;obtain⟨S',hS'⟩:∃S',S'=(Pg.rmR X.S 0 p).1:=⟨_,rfl⟩;obtain⟨G,hG'⟩:∃G,G=(Pg.rmR X.S 0 p).2:=⟨_,rfl⟩;rw[<-hS',<-hG']at HI H1;rw[<-hS']at HR0;rw[<-hG']at HGL;clear hS' hG';obtain⟨mp,ms,mf',mr⟩:=m;have hlb:b<w.heap.size:=LT.out b ⟨0,rfl⟩
 have hbW:b<W.heap.size:=by omega
 have n1:b≠W.heap.size:=by omega
 have n2:w.heap.size≠W.heap.size:=by omega
 have n3:W.heap.size≠b:=by omega
 have n4:W.heap.size≠w.heap.size:=by omega
 have NF:∀j,w.heap.size<=j->¬D.FM j:=fun j hj e=>by have:=LT.out _ ⟨1,e⟩;omega
 have nb:¬D.FM b:=fun e=>by have:=HX.out.part 0 1 b rfl e;omega
 have HWS:P (W.heap.size=w.heap.size+2):=hWs;clear hWs
 go_enter Tryz.func153,Tryz.ntmps153
 go_upto_region 1 with fail
 rw[<-hW];clear hW
 go_wp2_with fail
 refine HBU.mono ?_;rintro e w1 ⟨rfl,hw⟩;subst w1
 go_upto_region 7 with fail
 clear x0 HBU
 go_region_held3 (fun w'=>w'.cell? ⟨b,0,B⟩=Q (kP (Q ⟨D.bm,0,B⟩))/\w'.cell? ⟨b,1,B⟩=Q (I J 0)/\w'.cell? ⟨w.heap.size,2,B⟩=Q (I J p)) (go_keep) (
  (go_at_call 180;refine(HI _ (PW.out.grow (by first|exact(zA (zR W) _).drew|exact zA (zR W) _|exact(zR W).drew|exact zR W)).mem).mono ?_;rintro en w4 hrm
   obtain⟨ad,cap,FM,rfl,hG4,hm4,hb4,hF4,hn4⟩:=hrm.body;simp only[Pg.Mp.val];have HG4:P (zl w4 ad G):=hG4;have HM4:P _:=hm4;have HB4:P _:=hb4;have HF4:P _:=hF4;have HN4:P _:=hn4;have u0:=zm hb4 (by first|exact(zA (zR W) _).drew|exact zA (zR W) _|exact(zR W).drew|exact zR W) hbW nb g0;have u1:=zm hb4 (by first|exact(zA (zR W) _).drew|exact zA (zR W) _|exact(zR W).drew|exact zR W) hbW nb g1;have u2:=zm hb4 (by first|exact(zA (zR W) _).drew|exact zA (zR W) _|exact(zR W).drew|exact zR W) hx0 (NF _ (H _)) y2;have s4:W.heap.size<=w4.heap.size:=kZ (by first|exact H _|simp) hb4.size
   have lb4:b<w4.heap.size:=by omega
   have lx4:w.heap.size<w4.heap.size:=by omega
   have ub:b≠w4.heap.size:=by omega
   have ux:w.heap.size≠w4.heap.size:=by omega
   have ub':w4.heap.size≠b:=by omega
   have ux':w4.heap.size≠w.heap.size:=by omega
   first
    | (have hA:But D.FM W.drew w4:=hb4;clear hA)
    | (have hblk:w4.heap[W.heap.size]?=Q (O #[I J 0,I J 0,I J 0,I J 0] 76 (0,0)):=(yal hb4 (NF _ (by omega))).trans (kJ W (O #[I J 0,I J 0,I J 0,I J 0] 76))
       have hs4:W.heap.size<w4.heap.size:=(R.1 hblk).1
       obtain⟨⟨a0,a1,a2,a3⟩,af⟩:=ye5 hblk)
   clear hrm hG4 hm4 hb4 hF4 hn4))
 focus
  obtain⟨Wa,hWa⟩:∃Wa,Wa=w4.alloc (O #[I J mp,I J ms,I J mf',I J mr] 76):=⟨_,rfl⟩;rw[<-hWa];have C:P (ChD w Wa b w4.heap.size D X S' FM ⟨mp,ms,mf',mr⟩ ad G):=ChD.made (Y:=fun _=>False) HX.out CW.out.bel CW.out.ev (xb W) HM4.out HB4.out HF4.out HG4.out HN4.out (by rw[hWa];exact But.yhl (zA (zR w4) _)) (fun _ h=>h.elim) (by rw[hWa];simp[go_sem]) (by rw[hWa];simp[go_sem]) (by rw[hWa];simp[go_sem]) (by rw[hWa];simp[go_sem]);clear hWa HM4 HB4 HF4 HG4 HN4 u0 u1 u2 lb4 lx4 ub ux ub' ux' s4;generalize w4.heap.size=mb at*
 rotate_left
 focus
  obtain⟨Wa,hWa⟩:∃Wa,Wa=(((w4.setCell ⟨W.heap.size,0,B⟩ (I J mp)).setCell ⟨W.heap.size,1,B⟩ (I J ms)).setCell ⟨W.heap.size,2,B⟩ (I J mf')).setCell ⟨W.heap.size,3,B⟩ (I J mr):=⟨_,rfl⟩;rw[<-hWa];have C:P (ChD w Wa b W.heap.size D X S' FM ⟨mp,ms,mf',mr⟩ ad G):=ChD.made (Y:=fun j=>j=W.heap.size) HX.out CW.out.bel CW.out.ev ((zA (zR W) (O #[I J 0,I J 0,I J 0,I J 0] 76)).drew) HM4.out HB4.out HF4.out HG4.out HN4.out (by rw[hWa];exact ygD _ _ _ _ _ _) (fun j h=>⟨by omega,by simp;omega⟩) (by rw[hWa];simp[go_sem,a0,a1,a2,a3]) (by rw[hWa];simp[go_sem,a0,a1,a2,a3]) (by rw[hWa];simp[go_sem,a0,a1,a2,a3]) (by rw[hWa];simp[go_sem,a0,a1,a2,a3]);clear hWa HM4 HB4 HF4 HG4 HN4 u0 u1 u2 lb4 lx4 ub ux ub' ux' s4 a0 a1 a2 a3 af hs4 hblk;generalize W.heap.size=mb at*
 rotate_left
 all_goals
  clear HI g0 g1 y2 n1 n2 n3 n4 nb NF hbW hx0 CW PW HX hlb;have m0:=C.out.m0;have m1:=C.out.m1;have m2:=C.out.m2;have m3:=C.out.m3;have hs6:=C.out.size;simp only at m0 m1 m2 m3
  by_cases hc:c=0
  ·subst hc
   have HX1:P _:=H1.out rfl;have HTL:=yap (X:={X with S:=S'}) ⟨mp,ms,mf',mr⟩ HFM.out HZ.out ad cap G Wa C.out.ds C.out.gone (fun g e=>(C.out.ng g e).1) HGL.out;simp only[Pg.Mp.val]at HTL
   go_wp2_with fail
   refine HTL.mono ?_;rintro e w6 ⟨rfl,h6,hb6⟩;obtain⟨fin,ev6⟩:=C.out.told h6 hb6
   have FIN:P (∀Wf,But (fun x=>x=w.heap.size+1) w6 Wf->zi w b D X X' Wf):=fun Wf hf=>by rw[HX1.out];exact fin Wf hf
   obtain⟨⟨z0,z1,z2,z3,z4,z5⟩,zf⟩:=z9 ev6;have hz6:w.heap.size+1<w6.heap.size:=(R.1 ev6).1;clear h6 hb6 fin ev6 HTL C m0 m1 m2 m3 H1 H2 HX1;simp only[Pg.Ev.val,Pg.Ev.code]
   go_wp2_with fail
   refine E (v:=(Pg.Ev.code 0).val) ?_ rfl ⟨rfl,FIN.out _ ?_⟩
   ·simp[results,Tryz.results153,go_sem,z0,z1,z2,z3,z4,z5,hz6,Pg.Ev.val,Pg.Ev.code]
   ·exact ybT _ _ _ _ _ _ _ _
  ·have HX1:P _:=H2.out hc
   have HS:P _:=HR0.out hc;have HTL:=vi ⟨mp,ms,mf',mr⟩ c hc ad G.length cap Wa C.out.ds;simp only[Pg.Mp.val]at HTL
   go_wp2_with fail
   refine HTL.mono ?_;rintro e w6 ⟨rfl,hb6⟩;have ev6:=(hb6.block _ hs6).trans C.out.ev
   have FIN:P (∀Wf,But (fun x=>x=w.heap.size+1) w6 Wf->zi w b D X X' Wf):=fun Wf hf=>by
    rw[HX1.out];have P6:=C.out.ds.grow hb6;rw[HS.out]at P6;have own:∀x,dsF {D with FM:=FM} b X.C.length X.G x->dsF D b X.C.length X.G x\/w.heap.size+2<=x:=qg (fun x hx=>(C.out.own x hx).imp id (fun h=>by omega));refine⟨_,P6.keep hf (fun x hx e=> ?_),(C.out.but.trans (But.yhl (F:=fun _=>False) hb6) (fun _ _ h=>h.elim)).trans hf (fun x hx e=>by omega),fun x hx=>(own x hx).imp id (fun h=>by omega)⟩;rcases own x hx with h|h
    ·have:=C.out.lt x h
     omega
    ·omega
   obtain⟨⟨z0,z1,z2,z3,z4,z5⟩,zf⟩:=z9 ev6;have hz6:w.heap.size+1<w6.heap.size:=t hs6 hb6.size;clear hb6 ev6 HTL C m0 m1 m2 m3 H1 H2 HX1 HS;simp only[Pg.Ev.val,Pg.Ev.code]
   go_wp2_with fail
   refine E (v:=(Pg.Ev.code c).val) ?_ rfl ⟨rfl,FIN.out _ ?_⟩
   ·simp[results,Tryz.results153,go_sem,z0,z1,z2,z3,z4,z5,hz6,Pg.Ev.val,Pg.Ev.code]
   ·exact ybT _ _ _ _ _ _ _ _
theorem jV {b:Nat} {D:Dsd} {X X':Pg.Spc} (x:Pg.Sx) (hk:x.kind=3) (hz:X.busy=Z) (w:kN) (h:Dsk w b D X) (h1:Pg.prC X.S 0 x.m.p x.m.r=0->X'=X.post (Pg.prS X.S 0 x.m.p x.m.r) (Pg.prM X.S 0 x.m.p x.m.r) []) (h2:Pg.prC X.S 0 x.m.p x.m.r≠0->X'=X):
 kF kC 153 #[kP (Q ⟨b,0,B⟩),x.val] w fun e w'=>e=kS (Pg.Ev.code (Pg.prC X.S 0 x.m.p x.m.r)).val/\zi w b D X X' w':=by
 obtain⟨kd,co,⟨p,s,f,r⟩,q,k,u⟩:=x;simp only at hk h1 h2;subst hk;obtain⟨W,hW⟩:∃W,W=chW w ⟨3,co,⟨p,s,f,r⟩,q,k,u⟩:=⟨_,rfl⟩
 have CW:P (ChW w W ⟨3,co,⟨p,s,f,r⟩,q,k,u⟩):=by rw[hW];exact qx w _
 have PW:P _:=h.grow CW.out.bel;have HBU:=xN W PW.out;rw[hz]at HBU;have LT:P (∀x,dsF D b X.C.length X.G x->x<w.heap.size):=h.owns;have hWs:W.heap.size=w.heap.size+2:=CW.out.size
 have hx0:w.heap.size<W.heap.size:=by omega
 have x0:=CW.out.x0;have y2:=CW.out.x2;have y5:=CW.out.x5;have g0:=PW.out.c0;have g1:=PW.out.c1;simp only at x0 y2 y5;have HI:=fun w3 (hm:zh w3 D.bm X.S D.FM)=>ybG 0 p r w3 hm;have HFM:P (Pg.fits (Pg.prM X.S 0 p r).p):=Pg.pm_fits X.S p r
 have HR0:P (Pg.prC X.S 0 p r≠0->Pg.prS X.S 0 p r=X.S):=fun e=>by unfold Pg.prS;rw[if_neg e]
 have H1:P _:=h1;have H2:P _:=h2;have HZ:P (X.busy=Z):=hz;have HX:P _:=h;clear h hz h1 h2;simp only[chW,Pg.Sx.val]at hW ⊢;generalize hc0:Pg.prC X.S 0 p r=c at*;clear hc0;generalize Pg.prM X.S 0 p r=m at*;generalize Pg.prS X.S 0 p r=S' at*;obtain⟨mp,ms,mf',mr⟩:=m;have hlb:b<w.heap.size:=LT.out b ⟨0,rfl⟩
 have hbW:b<W.heap.size:=by omega
 have n1:b≠W.heap.size:=by omega
 have n2:w.heap.size≠W.heap.size:=by omega
 have n3:W.heap.size≠b:=by omega
 have n4:W.heap.size≠w.heap.size:=by omega
 have NF:∀j,w.heap.size<=j->¬D.FM j:=fun j hj e=>by have:=LT.out _ ⟨1,e⟩;omega
 have nb:¬D.FM b:=fun e=>by have:=HX.out.part 0 1 b rfl e;omega
 have HWS:P (W.heap.size=w.heap.size+2):=hWs;clear hWs
 go_enter Tryz.func153,Tryz.ntmps153
 go_upto_region 1 with fail
 rw[<-hW];clear hW
 go_wp2_with fail
 refine HBU.mono ?_;rintro e w1 ⟨rfl,hw⟩;subst w1
 go_upto_region 9 with fail
 clear x0 HBU
 go_region_held3 (fun w'=>w'.cell? ⟨b,0,B⟩=Q (kP (Q ⟨D.bm,0,B⟩))/\w'.cell? ⟨b,1,B⟩=Q (I J 0)/\w'.cell? ⟨w.heap.size,2,B⟩=Q (I J p)/\w'.cell? ⟨w.heap.size,5,B⟩=Q (I J r)) (go_keep) (
  (go_at_call 182;refine(HI _ (PW.out.grow (by first|exact(zA (zR W) _).drew|exact zA (zR W) _|exact(zR W).drew|exact zR W)).mem).mono ?_;rintro en w4 ⟨rfl,FM,hm4,hb4,hF4⟩
   simp only[Pg.Mp.val];have HM4:P _:=hm4;have HB4:P _:=hb4;have HF4:P _:=hF4;have u0:=zm hb4 (by first|exact(zA (zR W) _).drew|exact zA (zR W) _|exact(zR W).drew|exact zR W) hbW nb g0;have u1:=zm hb4 (by first|exact(zA (zR W) _).drew|exact zA (zR W) _|exact(zR W).drew|exact zR W) hbW nb g1;have u2:=zm hb4 (by first|exact(zA (zR W) _).drew|exact zA (zR W) _|exact(zR W).drew|exact zR W) hx0 (NF _ (H _)) y2;have u5:=zm hb4 (by first|exact(zA (zR W) _).drew|exact zA (zR W) _|exact(zR W).drew|exact zR W) hx0 (NF _ (H _)) y5;have s4:W.heap.size<=w4.heap.size:=kZ (by first|exact H _|simp) hb4.size
   have lb4:b<w4.heap.size:=by omega
   have lx4:w.heap.size<w4.heap.size:=by omega
   have ub:b≠w4.heap.size:=by omega
   have ux:w.heap.size≠w4.heap.size:=by omega
   have ub':w4.heap.size≠b:=by omega
   have ux':w4.heap.size≠w.heap.size:=by omega
   first
    | (have hA:But D.FM W.drew w4:=hb4;clear hA)
    | (have hblk:w4.heap[W.heap.size]?=Q (O #[I J 0,I J 0,I J 0,I J 0] 76 (0,0)):=(yal hb4 (NF _ (by omega))).trans (kJ W (O #[I J 0,I J 0,I J 0,I J 0] 76))
       have hs4:W.heap.size<w4.heap.size:=(R.1 hblk).1
       obtain⟨⟨a0,a1,a2,a3⟩,af⟩:=ye5 hblk)
   clear hm4 hb4 hF4))
 focus
  obtain⟨Wa,hWa⟩:∃Wa,Wa=w4.alloc (O #[I J mp,I J ms,I J mf',I J mr] 76):=⟨_,rfl⟩;rw[<-hWa];have C:P (ChD w Wa b w4.heap.size D X S' FM ⟨mp,ms,mf',mr⟩ B []):=ChD.made (Y:=fun _=>False) HX.out CW.out.bel CW.out.ev (xb W) HM4.out HB4.out HF4.out (fun j hj=>by simp at hj) (fun g e=>by cases e) (by rw[hWa];exact But.yhl (zA (zR w4) _)) (fun _ h=>h.elim) (by rw[hWa];simp[go_sem]) (by rw[hWa];simp[go_sem]) (by rw[hWa];simp[go_sem]) (by rw[hWa];simp[go_sem]);clear hWa HM4 HB4 HF4 u0 u1 u2 u5 lb4 lx4 ub ux ub' ux' s4;generalize w4.heap.size=mb at*
 rotate_left
 focus
  obtain⟨Wa,hWa⟩:∃Wa,Wa=(((w4.setCell ⟨W.heap.size,0,B⟩ (I J mp)).setCell ⟨W.heap.size,1,B⟩ (I J ms)).setCell ⟨W.heap.size,2,B⟩ (I J mf')).setCell ⟨W.heap.size,3,B⟩ (I J mr):=⟨_,rfl⟩;rw[<-hWa];have C:P (ChD w Wa b W.heap.size D X S' FM ⟨mp,ms,mf',mr⟩ B []):=ChD.made (Y:=fun j=>j=W.heap.size) HX.out CW.out.bel CW.out.ev ((zA (zR W) (O #[I J 0,I J 0,I J 0,I J 0] 76)).drew) HM4.out HB4.out HF4.out (fun j hj=>by simp at hj) (fun g e=>by cases e) (by rw[hWa];exact ygD _ _ _ _ _ _) (fun j h=>⟨by omega,by simp;omega⟩) (by rw[hWa];simp[go_sem,a0,a1,a2,a3]) (by rw[hWa];simp[go_sem,a0,a1,a2,a3]) (by rw[hWa];simp[go_sem,a0,a1,a2,a3]) (by rw[hWa];simp[go_sem,a0,a1,a2,a3]);clear hWa HM4 HB4 HF4 u0 u1 u2 u5 lb4 lx4 ub ux ub' ux' s4 a0 a1 a2 a3 af hs4 hblk;generalize W.heap.size=mb at*
 rotate_left
 all_goals
  clear HI g0 g1 y2 y5 n1 n2 n3 n4 nb NF hbW hx0 CW PW HX hlb;have m0:=C.out.m0;have m1:=C.out.m1;have m2:=C.out.m2;have m3:=C.out.m3;have hs6:=C.out.size;simp only at m0 m1 m2 m3
  by_cases hc:c=0
  ·subst hc
   have HX1:P _:=H1.out rfl;have HTL:=yap (X:={X with S:=S'}) ⟨mp,ms,mf',mr⟩ HFM.out HZ.out B 0 [] Wa C.out.ds C.out.gone (fun g e=>(C.out.ng g e).1) (by simp);simp only[Pg.Mp.val,List.length_nil]at HTL
   go_wp2_with fail
   refine HTL.mono ?_;rintro e w6 ⟨rfl,h6,hb6⟩;obtain⟨fin,ev6⟩:=C.out.told h6 hb6
   have FIN:P (∀Wf,But (fun x=>x=w.heap.size+1) w6 Wf->zi w b D X X' Wf):=fun Wf hf=>by rw[HX1.out];exact fin Wf hf
   obtain⟨⟨z0,z1,z2,z3,z4,z5⟩,zf⟩:=z9 ev6;have hz6:w.heap.size+1<w6.heap.size:=(R.1 ev6).1;clear h6 hb6 fin ev6 HTL C m0 m1 m2 m3 H1 H2 HX1;simp only[Pg.Ev.val,Pg.Ev.code]
   go_wp2_with fail
   refine E (v:=(Pg.Ev.code 0).val) ?_ rfl ⟨rfl,FIN.out _ ?_⟩
   ·simp[results,Tryz.results153,go_sem,z0,z1,z2,z3,z4,z5,hz6,Pg.Ev.val,Pg.Ev.code]
   ·exact ybT _ _ _ _ _ _ _ _
  ·have HX1:P _:=H2.out hc
   have HS:P _:=HR0.out hc;have HTL:=vi ⟨mp,ms,mf',mr⟩ c hc B 0 0 Wa C.out.ds;simp only[Pg.Mp.val]at HTL
   go_wp2_with fail
   refine HTL.mono ?_;rintro e w6 ⟨rfl,hb6⟩;have ev6:=(hb6.block _ hs6).trans C.out.ev
   have FIN:P (∀Wf,But (fun x=>x=w.heap.size+1) w6 Wf->zi w b D X X' Wf):=fun Wf hf=>by
    rw[HX1.out];have P6:=C.out.ds.grow hb6;rw[HS.out]at P6;have own:∀x,dsF {D with FM:=FM} b X.C.length X.G x->dsF D b X.C.length X.G x\/w.heap.size+2<=x:=qg (fun x hx=>(C.out.own x hx).imp id (fun h=>by omega));refine⟨_,P6.keep hf (fun x hx e=> ?_),(C.out.but.trans (But.yhl (F:=fun _=>False) hb6) (fun _ _ h=>h.elim)).trans hf (fun x hx e=>by omega),fun x hx=>(own x hx).imp id (fun h=>by omega)⟩;rcases own x hx with h|h
    ·have:=C.out.lt x h
     omega
    ·omega
   obtain⟨⟨z0,z1,z2,z3,z4,z5⟩,zf⟩:=z9 ev6;have hz6:w.heap.size+1<w6.heap.size:=t hs6 hb6.size;clear hb6 ev6 HTL C m0 m1 m2 m3 H1 H2 HX1 HS;simp only[Pg.Ev.val,Pg.Ev.code]
   go_wp2_with fail
   refine E (v:=(Pg.Ev.code c).val) ?_ rfl ⟨rfl,FIN.out _ ?_⟩
   ·simp[results,Tryz.results153,go_sem,z0,z1,z2,z3,z4,z5,hz6,Pg.Ev.val,Pg.Ev.code]
   ·exact ybT _ _ _ _ _ _ _ _
end
namespace Pg
def ans3 (L:List Mp) (q k:Int) (u:Bool):Int×Int×Int:=(ansE L q k u,ansF L q k u,ansR L q k u)
def Wk.ans (L:List Mp) (K:Wk):Int×Int×Int:=ans3 L K.q K.k K.u
structure WOk (X:Spc) (L L0 fl nw:List Mp) (d:Nat->Option Nat) (A:Nat->List (Int×Int×Int)):Prop where
 inv:Inv X L L0
 now:nw=L
 busy:X.busy=kI->fl=L0
 calm:X.busy=Z->fl=L
 due:∀j:Nat,j<4->(X.walkOf j).on=kI->d j≠B/\(X.walkOf j).ans L ∈ A j
 le:X.C.length<=4
section
variable {X:Spc} {L L0 fl nw:List Mp} {d:Nat->Option Nat} {A:Nat->List (Int×Int×Int)}
theorem walk_ok (h:Inv X L L0) (k:Int):(X.walkOf k).Ok:=by
 unfold Spc.walkOf;split
 ·by_cases hk:k.toNat<X.C.length
  ·exact(h.cores _ hk).ok.walk
  ·rw[show X.C.getD k.toNat Cr.new=Cr.new from by simp[List.getD,List.getElem?_eq_none (Nat.le_of_not_lt hk)]]
   exact Wk.yjl
 ·exact Wk.yjl
theorem walk_fits (h:Inv X L L0) (k:Int):fits (X.walkOf k).q:=by
 have hw:=walk_ok h k;cases ho:(X.walkOf k).on
 ·rw[hw.idle ho]
  show fits 0
  unfold fits;omega
 ·have:=zB.1 (hw.page ho)
  unfold fits;omega
def Wk.Was (K K':Wk):Prop:=K'.on=kI->K.on=kI/\K'.q=K.q/\K'.k=K.k/\K'.u=K.u
theorem Wk.Was.refl (K:Wk):K.Was K:=fun h=>⟨h,rfl,rfl,rfl⟩
theorem Wk.yjP (K:Wk) (root:Int):K.Was (K.again root):=by
 unfold Wk.again;split
 ·rename_i ho
  exact fun _=>⟨ho,rfl,rfl,rfl⟩
 ·exact .refl K
theorem Wk.was_next (S:Fs) (root:Int) (K:Wk):K.Was ((kOut S root K).next K):=by
 unfold kOut;split
 ·exact .refl K
 ·rename_i ho
  have ho:K.on=kI:=by simpa using ho
  split
  ·exact .refl K
  ·split
   ·split
    ·intro e
     cases e
    ·exact K.yjP root
   ·split
    ·exact .refl K
    ·split
     ·intro e
      cases e
     ·split
      ·exact fun _=>⟨ho,rfl,rfl,rfl⟩
      ·split
       ·intro e
        cases e
       ·split
        ·exact fun _=>⟨ho,rfl,rfl,rfl⟩
        ·intro e
         cases e
theorem ended_off {S:Fs} {K:Wk} {root:Int} (h:((kOut S root K).res K).ended=kI):(kOut S root K).next K=Wk.off:=by
 rcases hk:kOut S root K with c|K'|r|⟨e,m⟩
 ·rw[hk]at h;cases h
 ·rw[hk]at h;cases h
 ·rfl
 ·rfl
theorem yic {k:Nat} {C':Cr} {S':Fs} {G':List Int} {T':Mp} {W':List Bool} (hk:k<X.C.length) (j:Nat):(⟨S',X.C.set k C',G',T',W'⟩:Spc).walkOf (j:Int)=if j=k then C'.K else X.walkOf (j:Int):=by
 unfold Spc.walkOf;have hj:(0:Int)<=(j:Int):=l j;simp only[if_pos hj,kB];rw[yh9 hk]
 split<;>rfl
theorem yjZ (h:Inv X L L0) (x:Sx) (j:Nat):
 (X.walkOf j).Was ((X.goN x).walkOf j)\/(x.kind=4/\x.core=j/\(X.goE x).c=0/\(X.goE x).ended=Z/\(X.goN x).walkOf j=Wk.start 0 x.q x.k x.u):=by
 by_cases hk:1<=x.kind/\x.kind<=3
 ·refine .inl ?_
  have:(X.goN x).C=X.C:=by
   unfold Spc.goN;rw[if_pos hk];unfold Spc.chN Spc.post;split
   ·rfl
   ·split
    ·rfl
    ·split
     ·split<;>rfl
     ·split<;>rfl
  unfold Spc.walkOf;rw[this];exact .refl _
 ·by_cases hk2:x.kind<1\/7<x.kind
  ·refine .inl ?_
   unfold Spc.goN;rw[if_neg hk,if_pos hk2];exact .refl _
  ·by_cases hr:x.core<0\/(X.C.length:Int)<=x.core
   ·refine .inl ?_
    unfold Spc.goN;rw[if_neg hk,if_neg hk2,if_pos hr];exact .refl _
   ·have hlt:=yiG hr
    have ew:∀i:Nat,i=x.core.toNat->X.walkOf i=(X.at' x.core).K:=fun i e=>by
     unfold Spc.walkOf Spc.at';rw[if_pos (l i),kB,e]
    unfold Spc.goN Spc.goE;rw[if_neg hk,if_neg hk2,if_neg hr,if_neg hk,if_neg hk2,if_neg hr]
    by_cases h4:x.kind=4
    ·rw[if_pos h4,if_pos h4,yic hlt]
     by_cases e:j=x.core.toNat
     ·rw[if_pos e,ew j e]
      unfold Cr.bgN
      by_cases hc:zK x.q x.k=0/\(X.at' x.core).K.on=Z/\(X.at' x.core).hit x.q x.k x.u=Z
      ·rw[if_pos hc]
       obtain⟨c1,c2,c3⟩:=hc;refine .inr ⟨h4,by omega,?_,?_,rfl⟩
       ·unfold Cr.bgT
        rw[if_neg (by simp[c1]),if_neg (by simp[c2]),if_neg (by simp[c3])];rfl
       ·unfold Cr.bgT
        rw[if_neg (by simp[c1]),if_neg (by simp[c2]),if_neg (by simp[c3])];rfl
      ·rw[if_neg hc]
       exact .inl (.refl _)
     ·rw[if_neg e]
      exact .inl (.refl _)
    ·rw[if_neg h4,if_neg h4]
     refine .inl ?_
     by_cases h5:x.kind=5
     ·rw[if_pos h5,yic hlt]
      by_cases e:j=x.core.toNat
      ·rw[if_pos e,ew j e]
       exact Wk.was_next _ _ _
      ·rw[if_neg e]
       exact .refl _
     ·rw[if_neg h5]
      by_cases h6:x.kind=6
      ·rw[if_pos h6]
       unfold Spc.akN;split
       ·exact .refl _
       ·split
        ·rw[yic hlt]
         by_cases e:j=x.core.toNat
         ·rw[if_pos e,ew j e]
          exact Wk.yjP _ _
         ·rw[if_neg e]
          exact .refl _
        ·rw[yic hlt]
         by_cases e:j=x.core.toNat
         ·rw[if_pos e,ew j e]
          exact Wk.yjP _ _
         ·rw[if_neg e]
          exact .refl _
      ·rw[if_neg h6,yic hlt]
       by_cases e:j=x.core.toNat
       ·rw[if_pos e,ew j e]
        exact .refl _
       ·rw[if_neg e]
        exact .refl _
theorem yk0 (h:Inv X L L0) (x:Sx) (he:(X.goE x).ended=kI):((X.goN x).walkOf x.core).on=Z:=by
 obtain⟨_,_,c1,c2,hx⟩:=yhT h x he
 have hr:¬(x.core<0\/(X.C.length:Int)<=x.core):=by omega
 have hlt:=yiG hr
 have ec:((x.core.toNat:Nat):Int)=x.core:=by omega
 rcases hx with ⟨k4,_,ho,_⟩|⟨k5,_,_⟩
 ·rcases yjZ h x x.core.toNat with hw|⟨_,_,_,e,_⟩
  ·rw[ec]at hw
   cases hn:((X.goN x).walkOf x.core).on
   ·rfl
   ·have:=(hw hn).1
    unfold Spc.walkOf at this;rw[if_pos c1]at this;unfold Spc.at' at ho;rw[ho]at this;cases this
  ·rw[he]at e
   cases e
 ·have he2:((kOut X.S 0 (X.at' x.core).K).res (X.at' x.core).K).ended=kI:=by
   have:=he;unfold Spc.goE at this;rw[if_neg (by omega),if_neg (by omega),if_neg hr,if_neg (by omega),if_pos k5]at this;exact this
  have en:(X.goN x).walkOf x.core=(kOut X.S 0 (X.at' x.core).K).next (X.at' x.core).K:=by
   unfold Spc.goN;rw[if_neg (by omega),if_neg (by omega),if_neg hr,if_neg (by omega),if_pos k5];have:=yic (X:=X) (C':=(X.at' x.core).stN X.S 0) (S':=(X.at' x.core).stS X.S 0) (G':=X.G) (T':=X.T) (W':=X.W) hlt x.core.toNat;rw[ec,if_pos rfl]at this;exact this
  rw[en,ended_off he2];rfl
theorem yjI {e:Ev} {q k:Int} {u:Bool} (h:Right L q k u e):(e.a,e.f,e.r)=ans3 L q k u:=by
 obtain⟨a1,a2,a3⟩:=h;unfold ans3;rw[a1,a2,a3]
theorem WOk.walked (h:WOk X L L0 fl nw d A) (x:Sx) (he:(X.goE x).ended=kI) (hk:x.kind=5):0<=x.core/\x.core<4/\d x.core.toNat≠B/\((X.goE x).a,(X.goE x).f,(X.goE x).r) ∈ A x.core.toNat:=by
 obtain⟨_,_,c1,c2,hx⟩:=yhT h.inv x he;have hle:=h.le;rcases hx with ⟨k4,_⟩|⟨_,ho,hr⟩
 ·omega
 ·have ew:X.walkOf x.core.toNat=(X.at' x.core).K:=by
   unfold Spc.walkOf Spc.at';rw[if_pos (l _),kB]
  obtain⟨d1,d2⟩:=h.due x.core.toNat (by omega) (by rw[ew];exact ho);refine⟨c1,by omega,d1,?_⟩;rw[yjI hr];rw[ew]at d2;exact d2
theorem WOk.hit (h:WOk X L L0 fl nw d A) (x:Sx) (he:(X.goE x).ended=kI) (hk:x.kind=4):0<=x.core/\x.core<4/\((X.goE x).a,(X.goE x).f,(X.goE x).r) ∈ [ans3 nw x.q x.k x.u,ans3 fl x.q x.k x.u]:=by
 obtain⟨_,_,c1,c2,hx⟩:=yhT h.inv x he;have hle:=h.le;rcases hx with ⟨_,_,_,hr⟩|⟨k5,_⟩
 ·refine⟨c1,by omega,?_⟩
  rcases hr with hr|⟨hb,hr⟩
  ·rw[yjI hr,h.now]
   exact kR
  ·rw[yjI hr,h.busy hb]
   simp
 ·omega
def ykN (d:Nat->Option Nat) (X:Spc) (nw:List Mp) (A:Nat->List (Int×Int×Int)):Nat->List (Int×Int×Int):=fun j=>if d j=B then A j else(X.walkOf j).ans nw::A j
theorem Wk.Was.ans {K K':Wk} (h:K.Was K') (ho:K'.on=kI) (M:List Mp):K'.ans M=K.ans M:=by
 obtain⟨_,a,b,c⟩:=h ho;unfold Wk.ans;rw[a,b,c]
theorem WOk.change (h:WOk X L L0 fl nw d A) (x:Sx) (hk:1<=x.kind/\x.kind<=3) (hc:(X.goE x).c=0):
 WOk (X.goN x) (X.nxL L x) (X.nxP L L0 x) (if (X.goE x).back=kI then X.nxL L x else fl) (X.nxL L x) d (ykN d (X.goN x) (X.nxL L x) A):=by
 have hs:=yiP h.inv x;refine⟨yiQ h.inv x,rfl,fun e=> ?_,fun e=> ?_,fun j hj ho=> ?_,by rw[hs.2];exact h.le⟩
 ·rcases ykd h.inv x with ⟨⟨k1,k2,k3⟩,b1,b2,b3⟩|⟨⟨k1,k3⟩,b1,b2,b3⟩|⟨hn,_⟩
  ·rw[b3,if_neg (by decide),h.calm b1]
   unfold Spc.nxP;rw[if_pos ⟨k1,k2,k3⟩]
  ·rw[e]at b2
   cases b2
  ·exact absurd ⟨hk.1,hk.2,hc⟩ hn
 ·rcases ykd h.inv x with ⟨⟨k1,k2,k3⟩,b1,b2,b3⟩|⟨⟨k1,k3⟩,b1,b2,b3⟩|⟨hn,_⟩
  ·rw[e]at b2
   cases b2
  ·rw[b3,if_pos rfl]
  ·exact absurd ⟨hk.1,hk.2,hc⟩ hn
 ·rcases yjZ h.inv x j with hw|⟨k4,_⟩
  ·obtain⟨d1,_⟩:=h.due j hj (hw ho).1
   refine⟨d1,?_⟩;unfold ykN;rw[if_neg d1];exact kR
  ·omega
theorem ykO (x:Sx) (hn:¬(1<=x.kind/\x.kind<=3/\(X.goE x).c=0)):X.nxL L x=L/\X.nxP L L0 x=L0:=by
 constructor
 ·unfold Spc.nxL
  rw[if_neg hn]
 ·unfold Spc.nxP
  rw[if_neg (fun e=>hn ⟨by omega,e.2⟩)]
theorem WOk.other (h:WOk X L L0 fl nw d A) (x:Sx) (hn:¬(1<=x.kind/\x.kind<=3/\(X.goE x).c=0)) {d':Nat->Option Nat} {A':Nat->List (Int×Int×Int)}
 (hd:∀j:Nat,j<4->((X.goN x).walkOf j).on=kI->d' j≠B/\((X.goN x).walkOf j).ans L ∈ A' j):
 WOk (X.goN x) (X.nxL L x) (X.nxP L L0 x) (if (X.goE x).back=kI then nw else fl) nw d' A':=by
 have hi:=yiQ h.inv x;have hs:=yiP h.inv x;obtain⟨e1,e2⟩:=ykO (X:=X) (L:=L) (L0:=L0) x hn;rw[e1,e2]at hi ⊢;refine⟨hi,h.now,fun e=> ?_,fun e=> ?_,hd,by rw[hs.2];exact h.le⟩
 ·rcases ykd h.inv x with ⟨⟨k1,k2,k3⟩,_⟩|⟨⟨k1,k3⟩,_⟩|⟨_,⟨b1,b2⟩|⟨b1,b2,b3,_⟩⟩
  ·exact absurd ⟨by omega,k2,k3⟩ hn
  ·exact absurd ⟨by omega,by omega,k3⟩ hn
  ·rw[b1,if_neg (by decide)]
   exact h.busy (by rw[<-b2];exact e)
  ·rw[e]at b3
   cases b3
 ·rcases ykd h.inv x with ⟨⟨k1,k2,k3⟩,_⟩|⟨⟨k1,k3⟩,_⟩|⟨_,⟨b1,b2⟩|⟨b1,b2,b3,_⟩⟩
  ·exact absurd ⟨by omega,k2,k3⟩ hn
  ·exact absurd ⟨by omega,by omega,k3⟩ hn
  ·rw[b1,if_neg (by decide)]
   exact h.calm (by rw[<-b2];exact e)
  ·rw[b1,if_pos rfl]
   exact h.now
theorem WOk.same (h:WOk X L L0 fl nw d A) (x:Sx) (hn:¬(1<=x.kind/\x.kind<=3/\(X.goE x).c=0)) (h4:¬(x.kind=4/\(X.goE x).c=0)):
 WOk (X.goN x) (X.nxL L x) (X.nxP L L0 x) (if (X.goE x).back=kI then nw else fl) nw d A:=
 h.other x hn fun j hj ho=>by
  rcases yjZ h.inv x j with hw|⟨k4,_,k0,_⟩
  ·obtain⟨d1,d2⟩:=h.due j hj (hw ho).1
   exact⟨d1,by rw[hw.ans ho];exact d2⟩
  ·exact absurd ⟨k4,k0⟩ h4
theorem WOk.ends (h:WOk X L L0 fl nw d A) (x:Sx) (hk:x.kind=5) (he:(X.goE x).ended=kI):
 WOk (X.goN x) (X.nxL L x) (X.nxP L L0 x) (if (X.goE x).back=kI then nw else fl) nw (fun j=>if j=x.core.toNat then B else d j) A:=
 h.other x (by omega) fun j hj ho=>by
  have hoff:=yk0 h.inv x he;obtain⟨_,_,c1,_⟩:=yhT h.inv x he
  by_cases e:j=x.core.toNat
  ·exfalso
   rw[show((j:Nat):Int)=x.core by omega,hoff]at ho;cases ho
  ·rw[if_neg e]
   rcases yjZ h.inv x j with hw|⟨k4,_⟩
   ·obtain⟨d1,d2⟩:=h.due j hj (hw ho).1
    exact⟨d1,by rw[hw.ans ho];exact d2⟩
   ·omega
theorem WOk.begins (h:WOk X L L0 fl nw d A) (x:Sx) (hk:x.kind=4) (hc:(X.goE x).c=0) (he:(X.goE x).ended=Z) (m:Nat):
 WOk (X.goN x) (X.nxL L x) (X.nxP L L0 x) (if (X.goE x).back=kI then nw else fl) nw (fun j=>if j=x.core.toNat then Q m else d j) (fun j=>if j=x.core.toNat then [ans3 nw x.q x.k x.u,ans3 fl x.q x.k x.u]else A j):=
 h.other x (by omega) fun j hj ho=>by
  rcases yjZ h.inv x j with hw|⟨k4,hco,k0,_,hw⟩
  ·by_cases e:j=x.core.toNat
   ·exfalso
    have:=(hw ho).1
    have hr:¬(x.core<0\/(X.C.length:Int)<=x.core):=by
     intro hr;unfold Spc.goE at hc;rw[if_neg (by omega),if_neg (by omega),if_pos hr]at hc;cases hc
    unfold Spc.goE at hc;rw[if_neg (by omega),if_neg (by omega),if_neg hr,if_pos hk]at hc;have hb:=ykU (X.at' x.core) x.q x.k x.u
    have ew:X.walkOf j=(X.at' x.core).K:=by
     unfold Spc.walkOf Spc.at';rw[if_pos (l j),kB,e]
    rw[ew]at this;have hc:((X.at' x.core).bgT x.q x.k x.u).c=0:=hc;rw[hc,this]at hb;split at hb
    ·omega
    ·simp at hb
   ·rw[if_neg e,if_neg e]
    obtain⟨d1,d2⟩:=h.due j hj (hw ho).1;exact⟨d1,by rw[hw.ans ho];exact d2⟩
  ·have e:j=x.core.toNat:=by omega
   rw[if_pos e,if_pos e];refine⟨by simp,?_⟩;rw[hw,h.now];exact kR
theorem WOk.hits (h:WOk X L L0 fl nw d A) (x:Sx) (hk:x.kind=4) (he:(X.goE x).ended=kI) {A':Nat->List (Int×Int×Int)} (hA:∀j,j≠x.core.toNat->A' j=A j):
 WOk (X.goN x) (X.nxL L x) (X.nxP L L0 x) (if (X.goE x).back=kI then nw else fl) nw (fun j=>if j=x.core.toNat then B else d j) A':=
 h.other x (by omega) fun j hj ho=>by
  have hoff:=yk0 h.inv x he;obtain⟨_,_,c1,_⟩:=yhT h.inv x he
  by_cases e:j=x.core.toNat
  ·exfalso
   rw[show((j:Nat):Int)=x.core by omega,hoff]at ho;cases ho
  ·rw[if_neg e,hA j e]
   rcases yjZ h.inv x j with hw|⟨_,_,_,k0,_⟩
   ·obtain⟨d1,d2⟩:=h.due j hj (hw ho).1
    exact⟨d1,by rw[hw.ans ho];exact d2⟩
   ·rw[he]at k0
    cases k0
end
end Pg
end Go.Proofs.YtdphiompijbelaaGreatDoor
