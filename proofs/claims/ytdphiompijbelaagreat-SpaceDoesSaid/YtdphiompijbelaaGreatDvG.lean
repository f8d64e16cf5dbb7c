import Derived.Test.YtdphiompijbelaaGreatDvD
import Derived.Test.YtdphiompijbelaaGreatTabKp
set_option linter.all false
set_option maxRecDepth 100000
open Go.Proofs.Tryz renaming prog->o
open Go.Ending renaming returned->t
open Nat renaming le_refl->M,lt_of_lt_of_le->E,le_trans->kI
open Go.Obj renaming cells->O
open Bool renaming false->U
open Go renaming cell_regrown->Z,bodyPost_ret->K,heap_alloc_new->H,World->d,Calls->l
open Array renaming getElem?_eq_some_iff->R
open Go.RowKit renaming Hid->P
open Option renaming none->B,some->Q
open Go.IntKind renaming i64->J
open Go.Value renaming int->I,bool->A,pointer->L,slice->kJ
set_option maxHeartbeats 2000000
namespace Go.Proofs.YtdphiompijbelaaGreat
open Go.RowKit Go.Sort
section
attribute [local go_sem] Loose.gent
theorem ybb {b:Nat} {D:Dsd} {X:Pg.Spc} (m:Pg.Mp) (w:d) (h:Dsk w b D X):
 l o 88 #[L (Q ⟨b,0,B⟩),m.val] w fun e w'=>e=t (Pg.Ev.val ⟨Pg.insC X.S 0 m,U,0,0,0,decide (Pg.insC X.S 0 m=0)⟩)/\ze w b D X {X with S:=Pg.insS X.S 0 m} w':=by
 obtain⟨p,s,f,r⟩:=m;obtain⟨W,hW⟩:∃W,W=(w.alloc (O #[I J p,I J s,I J f,I J r] 39)).alloc (O #[I J 0,A U,I J 0,I J 0,I J 0,A U] 36):=⟨_,rfl⟩
 have hB:Below w.heap.size w W:=by rw[hW];exact zA (zA (zR _) _) _
 have hWs:W.heap.size=w.heap.size+2:=by rw[hW];simp
 have RZ:P (W.heap[w.heap.size+1]?=Q (O #[I J 0,A U,I J 0,I J 0,I J 0,A U] 36 (0,0))):=by
  rw[P,hW];exact(by simp:(w.alloc (O #[I J p,I J s,I J f,I J r] 39)).heap.size=w.heap.size+1)▸H _ _
 have LT:P (∀x,dsF D b X.C.length X.G x->x<w.heap.size):=h.owns;have HW:P _:=h.grow hB;have q0:=Z (show W.cell? ⟨w.heap.size,0,B⟩=Q (I J p) by rw[hW];simp[go_sem]);have q1:=Z (show W.cell? ⟨w.heap.size,1,B⟩=Q (I J s) by rw[hW];simp[go_sem]);have q2:=Z (show W.cell? ⟨w.heap.size,2,B⟩=Q (I J f) by rw[hW];simp[go_sem]);have q3:=Z (show W.cell? ⟨w.heap.size,3,B⟩=Q (I J r) by rw[hW];simp[go_sem]);have g0:=Z HW.out.c0;have g1:=Z HW.out.c1;have HI:=fun w' (hm:zd w' D.bm X.S D.FM)=>yck 0 ⟨p,s,f,r⟩ w' hm;have HB:P _:=hB;clear h hB;simp only[Pg.Mp.val]at HI ⊢;generalize Pg.insC X.S 0 ⟨p,s,f,r⟩=c at*;generalize Pg.insS X.S 0 ⟨p,s,f,r⟩=S' at*
 go_enter Tryz.func88,Tryz.ntmps88
 go_upto_region 1 with fail
 rw[<-hW];clear hW;refine Loose.ygt 9 (by kernel_rfl) (by kernel_rfl) ?_;simp only[List.take_succ_cons,List.take_zero,List.drop_succ_cons,List.drop_zero]
 repeat (
  refine Loose.zS (fun k hk=> ?_)
  go_simp
  (refine hk _ ?_;clear hk k))
 refine Loose.ygs ?_;intro w3 hb3;have P3:P _:=HW.out.grow hb3;have HB3:P _:=hb3;clear hb3 q0 q1 q2 q3 g0 g1
 go_wp2_with fail
 refine(HI _ P3.out.mem).mono ?_;rintro e w4 ⟨rfl,FM,hm4,hb4,hF4⟩;have D4:P (ze W b D X {X with S:=S'} w4):=⟨_,P3.out.frames hm4 hb4 hF4,(But.ygr HB3.out).trans hb4 (fun x _ e=>⟨1,e⟩),fun x hx=>(qn hF4 x hx).imp id (fun h=>by have:=HB3.out.size;omega)⟩;clear hm4 hb4 hF4 HI P3 HB3;obtain⟨e4,hz4⟩:=D4.out.block (w:=w) (r:=w.heap.size+1) LT.out (by omega) (by omega);obtain⟨⟨z0,z1,z2,z3,z4,z5⟩,zf⟩:=zp (e4.trans RZ.out);have FIN:P (∀Wf,But (fun x=>x=w.heap.size+1) w4 Wf->ze w b D X {X with S:=S'} Wf):=fun Wf hb=>D4.out.behind HB.out LT.out (fun x e=>by omega) hb;clear e4 D4
 have ec:(c==0)=decide (c=0):=by by_cases e:c=0<;>simp[e]
 cases hc:decide (c=0)
 all_goals
  have hcc:=hc;simp only[decide_eq_false_iff_not,decide_eq_true_eq]at hcc;rw[hc]at ec;have HCC:P _:=hcc;clear hcc
  go_wp2_with fail
  refine K (v:=Pg.Ev.val ⟨c,U,0,0,0,_⟩) ?_ rfl ⟨rfl,FIN.out _ ?_⟩
  ·simp[results,Tryz.results88,go_sem,z0,z1,z2,z3,z4,z5,hz4,Pg.Ev.val,HCC.out]
   try exact HCC.out
  ·exact ybM _ _ _ _ _ _ _ _
theorem vj {b:Nat} {D:Dsd} {X:Pg.Spc} (m:Pg.Mp) (c:Int) (hc:c≠0) (ag:Option Addr) (n cg:Nat) (w:d) (h:Dsk w b D X):
 l o 90 #[L (Q ⟨b,0,B⟩),m.val,kJ ag n cg,I J c] w fun e w'=>e=t (Pg.Ev.code c).val/\Below w.heap.size w w':=by
 obtain⟨p,s,f,r⟩:=m;obtain⟨W,hW⟩:∃W,W=(w.alloc (O #[I J p,I J s,I J f,I J r] 39)).alloc (O #[I J 0,A U,I J 0,I J 0,I J 0,A U] 36):=⟨_,rfl⟩
 have hB:Below w.heap.size w W:=by rw[hW];exact zA (zA (zR _) _) _
 have hWs:W.heap.size=w.heap.size+2:=by rw[hW];simp
 have RZ:P (W.heap[w.heap.size+1]?=Q (O #[I J 0,A U,I J 0,I J 0,I J 0,A U] 36 (0,0))):=by
  rw[P,hW];exact(by simp:(w.alloc (O #[I J p,I J s,I J f,I J r] 39)).heap.size=w.heap.size+1)▸H _ _
 have HB:P _:=hB
 have hc':(c !=0)=true:=by simpa using hc
 clear h hB hc;simp only[Pg.Mp.val]
 go_enter Tryz.func90,Tryz.ntmps90
 go_upto_region 1 with fail
 rw[<-hW];clear hW
 go_wp2_with fail
 refine(zY c _).mono ?_;rintro e w2 ⟨rfl,hb2⟩;obtain⟨⟨z0,z1,z2,z3,z4,z5⟩,zf⟩:=zp ((hb2.block _ (by omega)).trans RZ.out)
 have hs2:w.heap.size+1<w2.heap.size:=by have:=hb2.size;omega
 have HB2:P (Below w.heap.size w w2):=zT HB.out hb2;clear hb2;simp only[Pg.Ev.val,Pg.Ev.code]
 go_wp2_with fail
 refine K (v:=(Pg.Ev.code c).val) ?_ rfl ⟨rfl,?_⟩
 ·simp[results,Tryz.results90,go_sem,z0,z1,z2,z3,z4,z5,hs2,Pg.Ev.val,Pg.Ev.code]
 ·exact jj HB2.out _ (by omega) _ _ _ _ _ _
theorem yak {b:Nat} {D:Dsd} {X:Pg.Spc} (m:Pg.Mp) (hm:Pg.fits m.p) (hbz:X.busy=U) (ag:Option Addr) (cg:Nat) (G:List Int) (w:d) (h:Dsk w b D X) (hG:zh w ag G) (hn:∀g,ag=Q ⟨g,0,B⟩->¬dsF D b X.C.length [] g) (hg4:G.length<=4680):
 l o 90 #[L (Q ⟨b,0,B⟩),m.val,kJ ag G.length cg,I J 0] w fun e w'=>e=t (Pg.Ev.code 0).val/\Dsk w' b {D with ag:=ag,cg:=cg} (X.post X.S m G)/\But (fun x=>x=b\/x=D.bs) w w':=by
 obtain⟨p,s,f,r⟩:=m;obtain⟨W,hW⟩:∃W,W=(w.alloc (O #[I J p,I J s,I J f,I J r] 39)).alloc (O #[I J 0,A U,I J 0,I J 0,I J 0,A U] 36):=⟨_,rfl⟩
 have hB:Below w.heap.size w W:=by rw[hW];exact zA (zA (zR _) _) _
 have hWs:W.heap.size=w.heap.size+2:=by rw[hW];simp
 have RZ:P (W.heap[w.heap.size+1]?=Q (O #[I J 0,A U,I J 0,I J 0,I J 0,A U] 36 (0,0))):=by
  rw[P,hW];exact(by simp:(w.alloc (O #[I J p,I J s,I J f,I J r] 39)).heap.size=w.heap.size+1)▸H _ _
 have x0:W.cell? ⟨w.heap.size,0,B⟩=Q (I J p):=by rw[hW];simp[go_sem]
 have x1:W.cell? ⟨w.heap.size,1,B⟩=Q (I J s):=by rw[hW];simp[go_sem]
 have x2:W.cell? ⟨w.heap.size,2,B⟩=Q (I J f):=by rw[hW];simp[go_sem]
 have x3:W.cell? ⟨w.heap.size,3,B⟩=Q (I J r):=by rw[hW];simp[go_sem]
 have LT:P (∀x,dsF D b X.C.length X.G x->x<w.heap.size):=h.owns
 have LT2:P (∀x,dsF {D with ag:=ag,cg:=cg} b X.C.length G x->x<w.heap.size):=by
  rintro x ⟨i,hx⟩
  match i with
  | 0=>exact h.lt (i:=0) hx
  | 1=>exact h.lt (i:=1) hx
  | 2=>exact h.lt (i:=2) hx
  | 3=>exact h.lt (i:=3) hx
  | 4=>
    obtain⟨g,e,hl,_⟩:=hG 0 (List.length_pos_iff.2 hx.1);have e2:ag=Q ⟨x,0,B⟩:=hx.2;rw[e2]at e;injection e with e;injection e with e;rw[e];exact hl
  | k+5=>exact h.lt (i:=k+5) hx
 have hlb:=h.lb;have hbs:D.bs<w.heap.size:=LT.out _ ⟨3,rfl⟩;have hlen:=h.len;have hpos:=h.pos;have hle:=h.le;have HW:=h.grow hB
 obtain⟨P2,B2⟩:=HW.goes (ag:=ag) (cg:=cg) (G:=G) (fun j hj=>by
  obtain⟨g,e,hl,hc⟩:=hG j hj
  exact⟨g,e,E hl hB.size,(hB.cell (p:=⟨g,j,B⟩) hl).trans hc⟩) hn hg4
 have c4:=HW.c4;have fb:=HW.fb;generalize hW2:W.setCell ⟨b,4,B⟩ (kJ ag G.length cg)=W2 at*
 have hs2:W2.heap.size=w.heap.size+2:=by rw[<-hW2];simpa using hWs
 have HM:P _:=hm;have HB:P _:=hB;have P2:P _:=P2;have B2:P _:=B2
 have hne:∀y,w.heap.size<=y->¬y=b:=fun y h1 h2=>by omega
 have q0:=Z ((B2.out.cell (a:=⟨w.heap.size,0,B⟩) (show w.heap.size<_ by omega) (hne _ (M _))).trans x0);have q1:=Z ((B2.out.cell (a:=⟨w.heap.size,1,B⟩) (show w.heap.size<_ by omega) (hne _ (M _))).trans x1);have q2:=Z ((B2.out.cell (a:=⟨w.heap.size,2,B⟩) (show w.heap.size<_ by omega) (hne _ (M _))).trans x2);have q3:=Z ((B2.out.cell (a:=⟨w.heap.size,3,B⟩) (show w.heap.size<_ by omega) (hne _ (M _))).trans x3);have Z2:P (W2.heap[w.heap.size+1]?=_):=(B2.out.block _ (by omega) (hne _ (by omega))).trans RZ.out;have g3:=Z P2.out.c3;have g2:=Z P2.out.c2;simp only at g3 g2;have HPO:=fun w' (hs:jh w' D.bs X.T (fun k=>X.W.getD k U))=>ydc ⟨p,s,f,r⟩ X.C.length w' hs (by rw[Pg.yhW (by omega)];unfold Pg.Spc.busy at hbz;rw[hbz];rfl) hpos hle;rw[<-hlen,Pg.post_waits,hlen]at HPO;clear h hG hn hm hB HW x0 x1 x2 x3 hne hbz;simp only[Pg.Mp.val]at HPO ⊢
 go_enter Tryz.func90,Tryz.ntmps90
 go_upto_region 1 with fail
 rw[<-hW];clear hW
 go_upto_region 4 with fail
 clear hW2 c4 fb;refine Loose.ygt 10 (by kernel_rfl) (by kernel_rfl) ?_;simp only[List.take_succ_cons,List.take_zero,List.drop_succ_cons,List.drop_zero]
 repeat (
  refine Loose.zS (fun k hk=> ?_)
  go_simp
  (refine hk _ ?_;clear hk k))
 refine Loose.ygs ?_;intro w3 hb3;have P3:P _:=P2.out.grow hb3;have HB3:P _:=hb3;have Z3:P (w3.heap[w.heap.size+1]?=_):=(hb3.block _ (by omega)).trans Z2.out;clear hb3 q0 q1 q2 q3 g2 g3 Z2 P2
 go_wp2_with fail
 refine(HPO _ P3.out.tl).mono ?_;rintro e w4 ⟨rfl,hs4,hb4⟩;have P4:P (Dsk w4 b {D with ag:=ag,cg:=cg} (X.post X.S ⟨p,s,f,r⟩ G)):=P3.out.shot hs4 hb4 (by rw[List.length_map];exact hlen) HM.out
 have hz3:w.heap.size+1<w3.heap.size:=by have:=HB3.out.size;omega
 have Z4:w4.heap[w.heap.size+1]?=_:=(hb4.block _ hz3 (fun e=>by have e:w.heap.size+1=D.bs:=e;omega)).trans Z3.out;have hz4:w.heap.size+1<w4.heap.size:=E hz3 hb4.size;obtain⟨⟨z0,z1,z2,z3,z4,z5⟩,zf⟩:=zp Z4;have B4:P (But (fun x=>x=b\/x=D.bs) w w4):=((((But.ygr HB.out).trans B2.out (fun _ _ h=> .inl h)).trans (But.ygr (F:=fun _=>False) HB3.out) (fun _ _ h=>h.elim)).trans hb4 (fun _ _ h=> .inr h))
 have FIN:P (∀Wf,But (fun x=>x=w.heap.size+1) w4 Wf->Dsk Wf b {D with ag:=ag,cg:=cg} (X.post X.S ⟨p,s,f,r⟩ G)/\But (fun x=>x=b\/x=D.bs) w Wf):=fun Wf hb=>by
  refine⟨P4.out.keep hb (fun x hx e=> ?_),B4.out.trans hb (fun x hx e=>by omega)⟩;have:=LT2.out x hx;omega
 clear hs4 hb4 Z4 P4 B4 HPO P3 HB3 Z3 B2
 go_wp2_with fail
 refine K (v:=(Pg.Ev.code 0).val) ?_ rfl ⟨rfl,FIN.out _ ?_⟩
 ·simp[results,Tryz.results90,go_sem,z0,z1,z2,z3,z4,z5,hz4,Pg.Ev.val,Pg.Ev.code]
 ·exact ybM _ _ _ _ _ _ _ _
theorem yaH {b:Nat} {D:Dsd} {X:Pg.Spc} (x:Pg.Sx) (hz:X.busy=true) (w:d) (h:Dsk w b D X):
 l o 52 #[L (Q ⟨b,0,B⟩),x.val] w fun e w'=>e=t (Pg.Ev.code 8).val/\Below w.heap.size w w':=by
 obtain⟨W,hW⟩:∃W,W=chW w x:=⟨_,rfl⟩
 have CW:P (ChW w W x):=by rw[hW];exact xt w x
 have HBU:=xW W (h.grow CW.out.bel);rw[hz]at HBU;have hWs:W.heap.size=w.heap.size+2:=CW.out.size;clear h hz;obtain⟨kd,co,⟨p,s,f,r⟩,q,k,u⟩:=x;simp only[chW,Pg.Sx.val]at hW ⊢
 go_enter Tryz.func52,Tryz.ntmps52
 go_upto_region 1 with fail
 rw[<-hW];clear hW
 go_wp2_with fail
 refine HBU.mono ?_;rintro e w1 ⟨rfl,hw⟩;subst w1
 go_wp2_with fail
 refine(zY 8 _).mono ?_;rintro e w2 ⟨rfl,hb2⟩;obtain⟨⟨z0,z1,z2,z3,z4,z5⟩,zf⟩:=zp ((hb2.block _ (by omega)).trans CW.out.ev)
 have hs2:w.heap.size+1<w2.heap.size:=by have:=hb2.size;omega
 have HB2:P (Below w.heap.size w w2):=zT CW.out.bel hb2;clear hb2;simp only[Pg.Ev.val,Pg.Ev.code]
 go_wp2_with fail
 refine K (v:=(Pg.Ev.code 8).val) ?_ rfl ⟨rfl,?_⟩
 ·simp[results,Tryz.results52,go_sem,z0,z1,z2,z3,z4,z5,hs2,Pg.Ev.val,Pg.Ev.code]
 ·exact jj HB2.out _ (by omega) _ _ _ _ _ _
theorem ya8 {b:Nat} {D:Dsd} {X:Pg.Spc} (x:Pg.Sx) (hk:x.kind=1) (hz:X.busy=U) (w:d) (h:Dsk w b D X):
 l o 52 #[L (Q ⟨b,0,B⟩),x.val] w fun e w'=>e=t (Pg.Ev.val ⟨Pg.insC X.S 0 x.m,U,0,0,0,decide (Pg.insC X.S 0 x.m=0)⟩)/\ze w b D X {X with S:=Pg.insS X.S 0 x.m} w':=by
 obtain⟨W,hW⟩:∃W,W=chW w x:=⟨_,rfl⟩
 have CW:P (ChW w W x):=by rw[hW];exact xt w x
 have PW:=h.grow CW.out.bel;have HBU:=xW W PW;rw[hz]at HBU;have HI:=ybb x.m W PW;have hWs:W.heap.size=w.heap.size+2:=CW.out.size;have LT:P (∀x,dsF D b X.C.length X.G x->x<w.heap.size):=h.owns;have x0:=CW.out.x0;have x2:=CW.out.x2;have x3:=CW.out.x3;have x4:=CW.out.x4;have x5:=CW.out.x5;clear h hz PW;obtain⟨kd,co,⟨p,s,f,r⟩,q,k,u⟩:=x;simp only at hk x0 x2 x3 x4 x5;subst hk;generalize Pg.insC X.S 0 _=c at*;generalize Pg.insS X.S 0 _=S' at*;generalize decide (c=0)=z at*;simp only[chW,Pg.Sx.val,Pg.Mp.val]at hW HI ⊢
 go_enter Tryz.func52,Tryz.ntmps52
 go_upto_region 1 with fail
 rw[<-hW];clear hW
 go_wp2_with fail
 refine HBU.mono ?_;rintro e w1 ⟨rfl,hw⟩;subst w1
 go_wp2_with fail
 refine HI.mono ?_;rintro e w2 ⟨rfl,d2⟩;have D2:P _:=d2;obtain⟨e2,hz2⟩:=d2.block (w:=w) (r:=w.heap.size+1) LT.out (by omega) (by omega);obtain⟨⟨z0,z1,z2,z3,z4,z5⟩,zf⟩:=zp (e2.trans CW.out.ev);have FIN:P (∀Wf,But (fun x=>x=w.heap.size+1) w2 Wf->ze w b D X {X with S:=S'} Wf):=fun Wf hb=>D2.out.behind CW.out.bel LT.out (fun x e=>by omega) hb;clear d2 D2 e2 x0 x2 x3 x4 x5 HI HBU CW;simp only[Pg.Ev.val]
 go_wp2_with fail
 refine K (v:=Pg.Ev.val ⟨c,U,0,0,0,z⟩) ?_ rfl ⟨rfl,FIN.out _ ?_⟩
 ·simp[results,Tryz.results52,go_sem,z0,z1,z2,z3,z4,z5,hz2,Pg.Ev.val]
 ·exact ybM _ _ _ _ _ _ _ _
structure ChD (w Wa:d) (b mb:Nat) (D:Dsd) (X:Pg.Spc) (S':Pg.Fs) (FM:Nat->Prop) (m:Pg.Mp) (ad:Option Addr) (G:List Int):Prop where
 ds:Dsk Wa b {D with FM:=FM} {X with S:=S'}
 but:But (dsF D b X.C.length X.G) w Wa
 own:∀x,FM x->D.FM x\/w.heap.size+1<x
 ev:Wa.heap[w.heap.size+1]?=Q (O #[I J 0,A U,I J 0,I J 0,I J 0,A U] 36 (0,0))
 m0:Wa.cell? ⟨mb,0,B⟩=Q (I J m.p)
 m1:Wa.cell? ⟨mb,1,B⟩=Q (I J m.s)
 m2:Wa.cell? ⟨mb,2,B⟩=Q (I J m.f)
 m3:Wa.cell? ⟨mb,3,B⟩=Q (I J m.r)
 gone:zh Wa ad G
 ng:∀g,ad=Q ⟨g,0,B⟩->¬dsF {D with FM:=FM} b X.C.length [] g/\w.heap.size+1<g
 lt:∀x,dsF D b X.C.length X.G x->x<w.heap.size
section
variable {w W V w4 Wa w6:d} {b mb:Nat} {D:Dsd} {X:Pg.Spc} {S':Pg.Fs} {FM:Nat->Prop} {m:Pg.Mp} {ad:Option Addr} {G:List Int} {x:Pg.Sx}
theorem ChD.size (h:ChD w Wa b mb D X S' FM m ad G):w.heap.size+1<Wa.heap.size:=(R.1 h.ev).1
theorem yfs (hD:Dsk w b D X) {g:Nat} (hg:w.heap.size<=g) (hf:¬FM g):¬dsF {D with FM:=FM} b X.C.length [] g:=by
 rintro ⟨i,hx⟩
 match i with
 | 0=>have:=hD.lt (i:=0) hx;omega
 | 1=>exact hf hx
 | 2=>have:=hD.lt (i:=2) hx;omega
 | 3=>have:=hD.lt (i:=3) hx;omega
 | 4=>exact absurd rfl hx.1
 | k+5=>have:=hD.lt (i:=k+5) hx;omega
theorem ChD.made (hD:Dsk w b D X) (hB:Below w.heap.size w W) (hev:W.heap[w.heap.size+1]?=Q (O #[I J 0,A U,I J 0,I J 0,I J 0,A U] 36 (0,0)))
 (hV:Below W.heap.size W V) (hm:zd w4 D.bm S' FM) (hb:But D.FM V w4) (hF:∀x,FM x->D.FM x\/V.heap.size<=x) (hG:zh w4 ad G) (hn:∀g,ad=Q ⟨g,0,B⟩->V.heap.size<=g/\¬FM g)
 {Y:Nat->Prop} (hW:But Y w4 Wa) (hY:∀j,Y j->W.heap.size<=j/\j<V.heap.size)
 (m0:Wa.cell? ⟨mb,0,B⟩=Q (I J m.p)) (m1:Wa.cell? ⟨mb,1,B⟩=Q (I J m.s)) (m2:Wa.cell? ⟨mb,2,B⟩=Q (I J m.f)) (m3:Wa.cell? ⟨mb,3,B⟩=Q (I J m.r)):
 ChD w Wa b mb D X S' FM m ad G:=by
 have hev1:=(R.1 hev).1;have sV:=hV.size;have s4:=hb.size;have DV:=(hD.grow hB).grow hV;have lt:=hD.owns;have P4:=DV.frames hm hb hF;refine⟨P4.keep hW (fun x hx hy=> ?_),((But.ygr (zT hB hV)).trans hb (fun x _ h=>⟨1,h⟩)).trans hW (fun x hx hy=>by have:=hY x hy;have:=hB.size;omega),fun x hx=>(hF x hx).imp id (fun h=>by omega),?_,m0,m1,m2,m3,hG.but hW (fun g e hy=>by have:=hY g hy;have:=(hn g e).1;omega),fun g e=>⟨yfs hD (by have:=(hn g e).1;have:=hB.size;omega) (hn g e).2,by have:=(hn g e).1;omega⟩,lt⟩
 ·have:=hY x hy
  have:=hB.size;rcases qn (D:=D) (N:=V.heap.size) hF x hx with h|h
  ·have:=lt x h
   omega
  ·omega
 ·refine(hW.block _ (by omega) (fun hy=>by have:=hY _ hy;omega)).trans ((hb.block _ (by omega) (fun hy=> ?_)).trans ((hV.block _ hev1).trans hev))
  have:=lt _ ⟨1,hy⟩;omega
theorem ChD.told {cg:Nat} (h:ChD w Wa b mb D X S' FM m ad G) (h6:Dsk w6 b {D with FM:=FM,ag:=ad,cg:=cg} (X.post S' m G)) (hb:But (fun x=>x=b\/x=D.bs) Wa w6):
 (∀Wf,But (fun x=>x=w.heap.size+1) w6 Wf->ze w b D X (X.post S' m G) Wf)/\w6.heap[w.heap.size+1]?=Q (O #[I J 0,A U,I J 0,I J 0,I J 0,A U] 36 (0,0)):=by
 have l0:=h.lt b ⟨0,rfl⟩;have l3:=h.lt D.bs ⟨3,rfl⟩
 have own:∀x,dsF {D with FM:=FM,ag:=ad,cg:=cg} b X.C.length G x->dsF D b X.C.length X.G x\/w.heap.size+1<x:=by
  rintro x ⟨i,hx⟩
  match i with
  | 0=>exact .inl ⟨0,hx⟩
  | 1=>exact(h.own x hx).imp (fun h=>⟨1,h⟩) id
  | 2=>exact .inl ⟨2,hx⟩
  | 3=>exact .inl ⟨3,hx⟩
  | 4=>exact .inr (h.ng x hx.2).2
  | k+5=>exact .inl ⟨k+5,hx⟩
 refine⟨fun Wf hf=>⟨_,h6.keep hf (fun x hx e=> ?_),(h.but.trans hb (fun x _ e=>e.elim (fun e=>⟨0,e⟩) (fun e=>⟨3,e⟩))).trans hf (fun x hx e=>by omega),fun x hx=>(own x hx).imp id (fun h=>by omega)⟩,(hb.block _ h.size (fun e=>by omega)).trans h.ev⟩;rcases own x hx with h'|h'
 ·have:=h.lt x h'
  omega
 ·omega
end
theorem yaa {w3 w4:d} {F:Nat->Prop} {ob:Obj} (hb:But F (w3.alloc ob).drew w4) (hn:¬F w3.heap.size):w4.heap[w3.heap.size]?=(w3.alloc ob).heap[w3.heap.size]?:=hb.block w3.heap.size (by simp) hn
theorem xY {w3 V w4:d} {F:Nat->Prop} {a:Addr} {v:Value} (hb:But F V w4) (hV:Below w3.heap.size w3 V) (hl:a.block<w3.heap.size) (hn:¬F a.block) (h:w3.cell? a=Q v):w4.cell? a=Q v:=(hb.cell (E hl hV.size) hn).trans ((hV.cell hl).trans h)
theorem yfM (w:d) (r:Nat) (x0 x1 x2 x3:Value):But (fun x=>x=r) w ((((w.setCell ⟨r,0,B⟩ x0).setCell ⟨r,1,B⟩ x1).setCell ⟨r,2,B⟩ x2).setCell ⟨r,3,B⟩ x3):=(But.refl (fun x=>x=r) w).set4 r (.inr rfl) _ _ _ _
theorem vN {b:Nat} {D:Dsd} {X X':Pg.Spc} (x:Pg.Sx) (hk:x.kind=2) (hz:X.busy=U) (w:d) (h:Dsk w b D X) (h1:Pg.tFC X.S 0 x.m.p=0->X'=X.post (Pg.rmR X.S 0 x.m.p).1 (Pg.tFM X.S 0 x.m.p) (Pg.rmR X.S 0 x.m.p).2) (h2:Pg.tFC X.S 0 x.m.p≠0->X'=X):
 l o 52 #[L (Q ⟨b,0,B⟩),x.val] w fun e w'=>e=t (Pg.Ev.code (Pg.tFC X.S 0 x.m.p)).val/\ze w b D X X' w':=by
 obtain⟨kd,co,⟨p,s,f,r⟩,q,k,u⟩:=x;simp only at hk h1 h2;subst hk;obtain⟨W,hW⟩:∃W,W=chW w ⟨2,co,⟨p,s,f,r⟩,q,k,u⟩:=⟨_,rfl⟩
 have CW:P (ChW w W ⟨2,co,⟨p,s,f,r⟩,q,k,u⟩):=by rw[hW];exact xt w _
 have PW:P _:=h.grow CW.out.bel;have HBU:=xW W PW.out;rw[hz]at HBU;have LT:P (∀x,dsF D b X.C.length X.G x->x<w.heap.size):=h.owns;have hWs:W.heap.size=w.heap.size+2:=CW.out.size
 have hx0:w.heap.size<W.heap.size:=by omega
 have x0:=CW.out.x0;have y2:=CW.out.x2;have g0:=PW.out.c0;have g1:=PW.out.c1;simp only at x0 y2;have HI:=fun w3 (hm:zd w3 D.bm X.S D.FM)=>ycl 0 p w3 hm;have HFM:P (Pg.fits (Pg.tFM X.S 0 p).p):=Pg.yh0 X.S p;have HGL:P ((Pg.rmR X.S 0 p).2.length<=4680):=ydX X.S 0 p
 have HR0:P (Pg.tFC X.S 0 p≠0->(Pg.rmR X.S 0 p).1=X.S):=fun e=>by unfold Pg.rmR;rw[if_neg e]
 have H1:P _:=h1;have H2:P _:=h2;have HZ:P (X.busy=U):=hz;have HX:P _:=h;clear h hz h1 h2;simp only[chW,Pg.Sx.val]at hW ⊢;generalize hc0:Pg.tFC X.S 0 p=c at*;clear hc0;generalize Pg.tFM X.S 0 p=m at*;obtain⟨S',hS'⟩:∃S',S'=(Pg.rmR X.S 0 p).1:=⟨_,rfl⟩;obtain⟨G,hG'⟩:∃G,G=(Pg.rmR X.S 0 p).2:=⟨_,rfl⟩;rw[<-hS',<-hG']at HI H1;rw[<-hS']at HR0;rw[<-hG']at HGL;clear hS' hG';obtain⟨mp,ms,mf',mr⟩:=m;have hlb:b<w.heap.size:=LT.out b ⟨0,rfl⟩
 have hbW:b<W.heap.size:=by omega
 have n1:b≠W.heap.size:=by omega
 have n2:w.heap.size≠W.heap.size:=by omega
 have n3:W.heap.size≠b:=by omega
 have n4:W.heap.size≠w.heap.size:=by omega
 have NF:∀j,w.heap.size<=j->¬D.FM j:=fun j hj e=>by have:=LT.out _ ⟨1,e⟩;omega
 have nb:¬D.FM b:=fun e=>by have:=HX.out.part 0 1 b rfl e;omega
 have HWS:P (W.heap.size=w.heap.size+2):=hWs;clear hWs
 go_enter Tryz.func52,Tryz.ntmps52
 go_upto_region 1 with fail
 rw[<-hW];clear hW
 go_wp2_with fail
 refine HBU.mono ?_;rintro e w1 ⟨rfl,hw⟩;subst w1
 go_upto_region 7 with fail
 clear x0 HBU
 go_region_held3 (fun w'=>w'.cell? ⟨b,0,B⟩=Q (L (Q ⟨D.bm,0,B⟩))/\w'.cell? ⟨b,1,B⟩=Q (I J 0)/\w'.cell? ⟨w.heap.size,2,B⟩=Q (I J p)) (go_keep) (
  (go_at_call 89;refine(HI _ (PW.out.grow (by first|exact(zA (zR W) _).drew|exact zA (zR W) _|exact(zR W).drew|exact zR W)).mem).mono ?_;rintro en w4 hrm
   obtain⟨ad,cap,FM,rfl,hG4,hm4,hb4,hF4,hn4⟩:=hrm.body;simp only[Pg.Mp.val];have HG4:P (zh w4 ad G):=hG4;have HM4:P _:=hm4;have HB4:P _:=hb4;have HF4:P _:=hF4;have HN4:P _:=hn4;have u0:=xY hb4 (by first|exact(zA (zR W) _).drew|exact zA (zR W) _|exact(zR W).drew|exact zR W) hbW nb g0;have u1:=xY hb4 (by first|exact(zA (zR W) _).drew|exact zA (zR W) _|exact(zR W).drew|exact zR W) hbW nb g1;have u2:=xY hb4 (by first|exact(zA (zR W) _).drew|exact zA (zR W) _|exact(zR W).drew|exact zR W) hx0 (NF _ (M _)) y2;have s4:W.heap.size<=w4.heap.size:=kI (by first|exact M _|simp) hb4.size
   have lb4:b<w4.heap.size:=by omega
   have lx4:w.heap.size<w4.heap.size:=by omega
   have ub:b≠w4.heap.size:=by omega
   have ux:w.heap.size≠w4.heap.size:=by omega
   have ub':w4.heap.size≠b:=by omega
   have ux':w4.heap.size≠w.heap.size:=by omega
   first
    | (have hA:But D.FM W.drew w4:=hb4;clear hA)
    | (have hblk:w4.heap[W.heap.size]?=Q (O #[I J 0,I J 0,I J 0,I J 0] 39 (0,0)):=(yaa hb4 (NF _ (by omega))).trans (H W (O #[I J 0,I J 0,I J 0,I J 0] 39))
       have hs4:W.heap.size<w4.heap.size:=(R.1 hblk).1
       obtain⟨⟨a0,a1,a2,a3⟩,af⟩:=yeL hblk)
   clear hrm hG4 hm4 hb4 hF4 hn4))
 focus
  obtain⟨Wa,hWa⟩:∃Wa,Wa=w4.alloc (O #[I J mp,I J ms,I J mf',I J mr] 39):=⟨_,rfl⟩;rw[<-hWa];have C:P (ChD w Wa b w4.heap.size D X S' FM ⟨mp,ms,mf',mr⟩ ad G):=ChD.made (Y:=fun _=>False) HX.out CW.out.bel CW.out.ev (xj W) HM4.out HB4.out HF4.out HG4.out HN4.out (by rw[hWa];exact But.ygr (zA (zR w4) _)) (fun _ h=>h.elim) (by rw[hWa];simp[go_sem]) (by rw[hWa];simp[go_sem]) (by rw[hWa];simp[go_sem]) (by rw[hWa];simp[go_sem]);clear hWa HM4 HB4 HF4 HG4 HN4 u0 u1 u2 lb4 lx4 ub ux ub' ux' s4;generalize w4.heap.size=mb at*
 rotate_left
 focus
  obtain⟨Wa,hWa⟩:∃Wa,Wa=(((w4.setCell ⟨W.heap.size,0,B⟩ (I J mp)).setCell ⟨W.heap.size,1,B⟩ (I J ms)).setCell ⟨W.heap.size,2,B⟩ (I J mf')).setCell ⟨W.heap.size,3,B⟩ (I J mr):=⟨_,rfl⟩;rw[<-hWa];have C:P (ChD w Wa b W.heap.size D X S' FM ⟨mp,ms,mf',mr⟩ ad G):=ChD.made (Y:=fun j=>j=W.heap.size) HX.out CW.out.bel CW.out.ev ((zA (zR W) (O #[I J 0,I J 0,I J 0,I J 0] 39)).drew) HM4.out HB4.out HF4.out HG4.out HN4.out (by rw[hWa];exact yfM _ _ _ _ _ _) (fun j h=>⟨by omega,by simp;omega⟩) (by rw[hWa];simp[go_sem,a0,a1,a2,a3]) (by rw[hWa];simp[go_sem,a0,a1,a2,a3]) (by rw[hWa];simp[go_sem,a0,a1,a2,a3]) (by rw[hWa];simp[go_sem,a0,a1,a2,a3]);clear hWa HM4 HB4 HF4 HG4 HN4 u0 u1 u2 lb4 lx4 ub ux ub' ux' s4 a0 a1 a2 a3 af hs4 hblk;generalize W.heap.size=mb at*
 rotate_left
 all_goals
  clear HI g0 g1 y2 n1 n2 n3 n4 nb NF hbW hx0 CW PW HX hlb;have m0:=C.out.m0;have m1:=C.out.m1;have m2:=C.out.m2;have m3:=C.out.m3;have hs6:=C.out.size;simp only at m0 m1 m2 m3
  by_cases hc:c=0
  ·subst hc
   have HX1:P _:=H1.out rfl;have HTL:=yak (X:={X with S:=S'}) ⟨mp,ms,mf',mr⟩ HFM.out HZ.out ad cap G Wa C.out.ds C.out.gone (fun g e=>(C.out.ng g e).1) HGL.out;simp only[Pg.Mp.val]at HTL
   go_wp2_with fail
   refine HTL.mono ?_;rintro e w6 ⟨rfl,h6,hb6⟩;obtain⟨fin,ev6⟩:=C.out.told h6 hb6
   have FIN:P (∀Wf,But (fun x=>x=w.heap.size+1) w6 Wf->ze w b D X X' Wf):=fun Wf hf=>by rw[HX1.out];exact fin Wf hf
   obtain⟨⟨z0,z1,z2,z3,z4,z5⟩,zf⟩:=zp ev6;have hz6:w.heap.size+1<w6.heap.size:=(R.1 ev6).1;clear h6 hb6 fin ev6 HTL C m0 m1 m2 m3 H1 H2 HX1;simp only[Pg.Ev.val,Pg.Ev.code]
   go_wp2_with fail
   refine K (v:=(Pg.Ev.code 0).val) ?_ rfl ⟨rfl,FIN.out _ ?_⟩
   ·simp[results,Tryz.results52,go_sem,z0,z1,z2,z3,z4,z5,hz6,Pg.Ev.val,Pg.Ev.code]
   ·exact ybM _ _ _ _ _ _ _ _
  ·have HX1:P _:=H2.out hc
   have HS:P _:=HR0.out hc;have HTL:=vj ⟨mp,ms,mf',mr⟩ c hc ad G.length cap Wa C.out.ds;simp only[Pg.Mp.val]at HTL
   go_wp2_with fail
   refine HTL.mono ?_;rintro e w6 ⟨rfl,hb6⟩;have ev6:=(hb6.block _ hs6).trans C.out.ev
   have FIN:P (∀Wf,But (fun x=>x=w.heap.size+1) w6 Wf->ze w b D X X' Wf):=fun Wf hf=>by
    rw[HX1.out];have P6:=C.out.ds.grow hb6;rw[HS.out]at P6;have own:∀x,dsF {D with FM:=FM} b X.C.length X.G x->dsF D b X.C.length X.G x\/w.heap.size+2<=x:=qn (fun x hx=>(C.out.own x hx).imp id (fun h=>by omega));refine⟨_,P6.keep hf (fun x hx e=> ?_),(C.out.but.trans (But.ygr (F:=fun _=>False) hb6) (fun _ _ h=>h.elim)).trans hf (fun x hx e=>by omega),fun x hx=>(own x hx).imp id (fun h=>by omega)⟩;rcases own x hx with h|h
    ·have:=C.out.lt x h
     omega
    ·omega
   obtain⟨⟨z0,z1,z2,z3,z4,z5⟩,zf⟩:=zp ev6;have hz6:w.heap.size+1<w6.heap.size:=E hs6 hb6.size;clear hb6 ev6 HTL C m0 m1 m2 m3 H1 H2 HX1 HS;simp only[Pg.Ev.val,Pg.Ev.code]
   go_wp2_with fail
   refine K (v:=(Pg.Ev.code c).val) ?_ rfl ⟨rfl,FIN.out _ ?_⟩
   ·simp[results,Tryz.results52,go_sem,z0,z1,z2,z3,z4,z5,hz6,Pg.Ev.val,Pg.Ev.code]
   ·exact ybM _ _ _ _ _ _ _ _
theorem jW {b:Nat} {D:Dsd} {X X':Pg.Spc} (x:Pg.Sx) (hk:x.kind=3) (hz:X.busy=U) (w:d) (h:Dsk w b D X) (h1:Pg.prC X.S 0 x.m.p x.m.r=0->X'=X.post (Pg.prS X.S 0 x.m.p x.m.r) (Pg.prM X.S 0 x.m.p x.m.r) []) (h2:Pg.prC X.S 0 x.m.p x.m.r≠0->X'=X):
 l o 52 #[L (Q ⟨b,0,B⟩),x.val] w fun e w'=>e=t (Pg.Ev.code (Pg.prC X.S 0 x.m.p x.m.r)).val/\ze w b D X X' w':=by
 obtain⟨kd,co,⟨p,s,f,r⟩,q,k,u⟩:=x;simp only at hk h1 h2;subst hk;obtain⟨W,hW⟩:∃W,W=chW w ⟨3,co,⟨p,s,f,r⟩,q,k,u⟩:=⟨_,rfl⟩
 have CW:P (ChW w W ⟨3,co,⟨p,s,f,r⟩,q,k,u⟩):=by rw[hW];exact xt w _
 have PW:P _:=h.grow CW.out.bel;have HBU:=xW W PW.out;rw[hz]at HBU;have LT:P (∀x,dsF D b X.C.length X.G x->x<w.heap.size):=h.owns;have hWs:W.heap.size=w.heap.size+2:=CW.out.size
 have hx0:w.heap.size<W.heap.size:=by omega
 have x0:=CW.out.x0;have y2:=CW.out.x2;have y5:=CW.out.x5;have g0:=PW.out.c0;have g1:=PW.out.c1;simp only at x0 y2 y5;have HI:=fun w3 (hm:zd w3 D.bm X.S D.FM)=>ybD 0 p r w3 hm;have HFM:P (Pg.fits (Pg.prM X.S 0 p r).p):=Pg.yiv X.S p r
 have HR0:P (Pg.prC X.S 0 p r≠0->Pg.prS X.S 0 p r=X.S):=fun e=>by unfold Pg.prS;rw[if_neg e]
 have H1:P _:=h1;have H2:P _:=h2;have HZ:P (X.busy=U):=hz;have HX:P _:=h;clear h hz h1 h2;simp only[chW,Pg.Sx.val]at hW ⊢;generalize hc0:Pg.prC X.S 0 p r=c at*;clear hc0;generalize Pg.prM X.S 0 p r=m at*;generalize Pg.prS X.S 0 p r=S' at*;obtain⟨mp,ms,mf',mr⟩:=m;have hlb:b<w.heap.size:=LT.out b ⟨0,rfl⟩
 have hbW:b<W.heap.size:=by omega
 have n1:b≠W.heap.size:=by omega
 have n2:w.heap.size≠W.heap.size:=by omega
 have n3:W.heap.size≠b:=by omega
 have n4:W.heap.size≠w.heap.size:=by omega
 have NF:∀j,w.heap.size<=j->¬D.FM j:=fun j hj e=>by have:=LT.out _ ⟨1,e⟩;omega
 have nb:¬D.FM b:=fun e=>by have:=HX.out.part 0 1 b rfl e;omega
 have HWS:P (W.heap.size=w.heap.size+2):=hWs;clear hWs
 go_enter Tryz.func52,Tryz.ntmps52
 go_upto_region 1 with fail
 rw[<-hW];clear hW
 go_wp2_with fail
 refine HBU.mono ?_;rintro e w1 ⟨rfl,hw⟩;subst w1
 go_upto_region 9 with fail
 clear x0 HBU
 go_region_held3 (fun w'=>w'.cell? ⟨b,0,B⟩=Q (L (Q ⟨D.bm,0,B⟩))/\w'.cell? ⟨b,1,B⟩=Q (I J 0)/\w'.cell? ⟨w.heap.size,2,B⟩=Q (I J p)/\w'.cell? ⟨w.heap.size,5,B⟩=Q (I J r)) (go_keep) (
  (go_at_call 91;refine(HI _ (PW.out.grow (by first|exact(zA (zR W) _).drew|exact zA (zR W) _|exact(zR W).drew|exact zR W)).mem).mono ?_;rintro en w4 ⟨rfl,FM,hm4,hb4,hF4⟩
   simp only[Pg.Mp.val];have HM4:P _:=hm4;have HB4:P _:=hb4;have HF4:P _:=hF4;have u0:=xY hb4 (by first|exact(zA (zR W) _).drew|exact zA (zR W) _|exact(zR W).drew|exact zR W) hbW nb g0;have u1:=xY hb4 (by first|exact(zA (zR W) _).drew|exact zA (zR W) _|exact(zR W).drew|exact zR W) hbW nb g1;have u2:=xY hb4 (by first|exact(zA (zR W) _).drew|exact zA (zR W) _|exact(zR W).drew|exact zR W) hx0 (NF _ (M _)) y2;have u5:=xY hb4 (by first|exact(zA (zR W) _).drew|exact zA (zR W) _|exact(zR W).drew|exact zR W) hx0 (NF _ (M _)) y5;have s4:W.heap.size<=w4.heap.size:=kI (by first|exact M _|simp) hb4.size
   have lb4:b<w4.heap.size:=by omega
   have lx4:w.heap.size<w4.heap.size:=by omega
   have ub:b≠w4.heap.size:=by omega
   have ux:w.heap.size≠w4.heap.size:=by omega
   have ub':w4.heap.size≠b:=by omega
   have ux':w4.heap.size≠w.heap.size:=by omega
   first
    | (have hA:But D.FM W.drew w4:=hb4;clear hA)
    | (have hblk:w4.heap[W.heap.size]?=Q (O #[I J 0,I J 0,I J 0,I J 0] 39 (0,0)):=(yaa hb4 (NF _ (by omega))).trans (H W (O #[I J 0,I J 0,I J 0,I J 0] 39))
       have hs4:W.heap.size<w4.heap.size:=(R.1 hblk).1
       obtain⟨⟨a0,a1,a2,a3⟩,af⟩:=yeL hblk)
   clear hm4 hb4 hF4))
 focus
  obtain⟨Wa,hWa⟩:∃Wa,Wa=w4.alloc (O #[I J mp,I J ms,I J mf',I J mr] 39):=⟨_,rfl⟩;rw[<-hWa];have C:P (ChD w Wa b w4.heap.size D X S' FM ⟨mp,ms,mf',mr⟩ B []):=ChD.made (Y:=fun _=>False) HX.out CW.out.bel CW.out.ev (xj W) HM4.out HB4.out HF4.out (fun j hj=>by simp at hj) (fun g e=>by cases e) (by rw[hWa];exact But.ygr (zA (zR w4) _)) (fun _ h=>h.elim) (by rw[hWa];simp[go_sem]) (by rw[hWa];simp[go_sem]) (by rw[hWa];simp[go_sem]) (by rw[hWa];simp[go_sem]);clear hWa HM4 HB4 HF4 u0 u1 u2 u5 lb4 lx4 ub ux ub' ux' s4;generalize w4.heap.size=mb at*
 rotate_left
 focus
  obtain⟨Wa,hWa⟩:∃Wa,Wa=(((w4.setCell ⟨W.heap.size,0,B⟩ (I J mp)).setCell ⟨W.heap.size,1,B⟩ (I J ms)).setCell ⟨W.heap.size,2,B⟩ (I J mf')).setCell ⟨W.heap.size,3,B⟩ (I J mr):=⟨_,rfl⟩;rw[<-hWa];have C:P (ChD w Wa b W.heap.size D X S' FM ⟨mp,ms,mf',mr⟩ B []):=ChD.made (Y:=fun j=>j=W.heap.size) HX.out CW.out.bel CW.out.ev ((zA (zR W) (O #[I J 0,I J 0,I J 0,I J 0] 39)).drew) HM4.out HB4.out HF4.out (fun j hj=>by simp at hj) (fun g e=>by cases e) (by rw[hWa];exact yfM _ _ _ _ _ _) (fun j h=>⟨by omega,by simp;omega⟩) (by rw[hWa];simp[go_sem,a0,a1,a2,a3]) (by rw[hWa];simp[go_sem,a0,a1,a2,a3]) (by rw[hWa];simp[go_sem,a0,a1,a2,a3]) (by rw[hWa];simp[go_sem,a0,a1,a2,a3]);clear hWa HM4 HB4 HF4 u0 u1 u2 u5 lb4 lx4 ub ux ub' ux' s4 a0 a1 a2 a3 af hs4 hblk;generalize W.heap.size=mb at*
 rotate_left
 all_goals
  clear HI g0 g1 y2 y5 n1 n2 n3 n4 nb NF hbW hx0 CW PW HX hlb;have m0:=C.out.m0;have m1:=C.out.m1;have m2:=C.out.m2;have m3:=C.out.m3;have hs6:=C.out.size;simp only at m0 m1 m2 m3
  by_cases hc:c=0
  ·subst hc
   have HX1:P _:=H1.out rfl;have HTL:=yak (X:={X with S:=S'}) ⟨mp,ms,mf',mr⟩ HFM.out HZ.out B 0 [] Wa C.out.ds C.out.gone (fun g e=>(C.out.ng g e).1) (by simp);simp only[Pg.Mp.val,List.length_nil]at HTL
   go_wp2_with fail
   refine HTL.mono ?_;rintro e w6 ⟨rfl,h6,hb6⟩;obtain⟨fin,ev6⟩:=C.out.told h6 hb6
   have FIN:P (∀Wf,But (fun x=>x=w.heap.size+1) w6 Wf->ze w b D X X' Wf):=fun Wf hf=>by rw[HX1.out];exact fin Wf hf
   obtain⟨⟨z0,z1,z2,z3,z4,z5⟩,zf⟩:=zp ev6;have hz6:w.heap.size+1<w6.heap.size:=(R.1 ev6).1;clear h6 hb6 fin ev6 HTL C m0 m1 m2 m3 H1 H2 HX1;simp only[Pg.Ev.val,Pg.Ev.code]
   go_wp2_with fail
   refine K (v:=(Pg.Ev.code 0).val) ?_ rfl ⟨rfl,FIN.out _ ?_⟩
   ·simp[results,Tryz.results52,go_sem,z0,z1,z2,z3,z4,z5,hz6,Pg.Ev.val,Pg.Ev.code]
   ·exact ybM _ _ _ _ _ _ _ _
  ·have HX1:P _:=H2.out hc
   have HS:P _:=HR0.out hc;have HTL:=vj ⟨mp,ms,mf',mr⟩ c hc B 0 0 Wa C.out.ds;simp only[Pg.Mp.val]at HTL
   go_wp2_with fail
   refine HTL.mono ?_;rintro e w6 ⟨rfl,hb6⟩;have ev6:=(hb6.block _ hs6).trans C.out.ev
   have FIN:P (∀Wf,But (fun x=>x=w.heap.size+1) w6 Wf->ze w b D X X' Wf):=fun Wf hf=>by
    rw[HX1.out];have P6:=C.out.ds.grow hb6;rw[HS.out]at P6;have own:∀x,dsF {D with FM:=FM} b X.C.length X.G x->dsF D b X.C.length X.G x\/w.heap.size+2<=x:=qn (fun x hx=>(C.out.own x hx).imp id (fun h=>by omega));refine⟨_,P6.keep hf (fun x hx e=> ?_),(C.out.but.trans (But.ygr (F:=fun _=>False) hb6) (fun _ _ h=>h.elim)).trans hf (fun x hx e=>by omega),fun x hx=>(own x hx).imp id (fun h=>by omega)⟩;rcases own x hx with h|h
    ·have:=C.out.lt x h
     omega
    ·omega
   obtain⟨⟨z0,z1,z2,z3,z4,z5⟩,zf⟩:=zp ev6;have hz6:w.heap.size+1<w6.heap.size:=E hs6 hb6.size;clear hb6 ev6 HTL C m0 m1 m2 m3 H1 H2 HX1 HS;simp only[Pg.Ev.val,Pg.Ev.code]
   go_wp2_with fail
   refine K (v:=(Pg.Ev.code c).val) ?_ rfl ⟨rfl,FIN.out _ ?_⟩
   ·simp[results,Tryz.results52,go_sem,z0,z1,z2,z3,z4,z5,hz6,Pg.Ev.val,Pg.Ev.code]
   ·exact ybM _ _ _ _ _ _ _ _
end
end Go.Proofs.YtdphiompijbelaaGreat
