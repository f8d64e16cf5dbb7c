import Derived.Test.YtdphiompijbelaaGreatSpRefD
set_option linter.all false
set_option maxRecDepth 100000
open Go.World renaming block_lt_of_cell?->kN,frozen?->kU,cell?->kK
open Array renaming getElem?_eq_some_iff->kR
open Go.Obj renaming cells->kC
open Nat renaming lt_of_lt_of_le->kI
open Go.RowKit renaming Hid->H
open Go.Proofs.Tryz renaming prog->A
open Go.Ending renaming returned->M
open List renaming length_set->U,take_succ_cons->kP,drop_succ_cons->kS,take_zero->kT,drop_zero->kF
open Bool renaming false->Q,true->kZ
open Go renaming cell_regrown->N,bodyPost_ret->Z,World->z,heap_alloc_new->kY,Calls->kV,Value->kX
open Option renaming none->B,some->P
open Go.IntKind renaming i64->J
open Go.Value renaming int->I,pointer->O,bool->kJ,slice->kQ,agg->kO
set_option maxHeartbeats 2000000
namespace Go.Proofs.YtdphiompijbelaaGreat
open Go.RowKit Go.Sort
section
attribute [local go_sem] Loose.gent
theorem yby {b:Nat} {D:Rsd} {X:Pg.Spc} (x:Pg.Sx) (hx:1<=x.kind/\x.kind<=3) (w:z) (h:Rsk w b D X) (hz:D.bz=X.busy):
 kV A 55 #[O (P ⟨b,0,B⟩),x.val] w fun e w'=>e=M (X.chE x).val/\zo w b D X (X.chN x) w':=by
 unfold Pg.Spc.chE Pg.Spc.chN;cases hb:X.busy
 ·simp only[Bool.false_eq_true,if_false]
  rw[hb]at hz
  by_cases h1:x.kind=1
  ·rw[if_pos h1,if_pos h1]
   exact ybz x h1 w h hz
  ·rw[if_neg h1,if_neg h1]
   by_cases h2:x.kind=2
   ·rw[if_pos h2,if_pos h2]
    exact vU x h2 w h hz (fun e=>if_pos e) (fun e=>if_neg e)
   ·rw[if_neg h2,if_neg h2]
    exact jY x (by omega) w h hz (fun e=>if_pos e) (fun e=>if_neg e)
 ·simp only[if_true]
  refine(yaT x w h (hz.trans hb)).mono ?_;rintro e w' ⟨rfl,hbl⟩;exact⟨rfl,.same h hbl⟩
theorem zo.behind {w W W' Wf:z} {b:Nat} {D:Rsd} {X X':Pg.Spc} {Y:Nat->Prop} (hB:Below w.heap.size w W) (h:zo W b D X X' W') (lt:∀x,rsF D b X.C.length X.G x->x<w.heap.size) (hY:∀x,Y x->w.heap.size<=x/\x<W.heap.size) (hb:But Y W' Wf):zo w b D X X' Wf:=by
 obtain⟨D',h1,h2,h3,h4⟩:=h;refine⟨D',h1.keep hb (fun x hx hy=> ?_),h2,((But.ygr hB).trans h3 (fun _ _ h=>h)).trans hb (fun x hx hy=>by have:=hY x hy;omega),fun x hx=>(h4 x hx).imp id (fun h=>by have:=hB.size;omega)⟩;have:=hY x hy;rcases h4 x hx with h|h
 ·have:=lt x h
  omega
 ·omega
theorem ycj {b:Nat} {D:Rsd} {X:Pg.Spc} (x:Pg.Sx) (hx:x.kind=1\/x.kind=2\/x.kind=3) (w:z) (h:Rsk w b D X) (hz:D.bz=X.busy):
 kV A 13 #[O (P ⟨b,0,B⟩),x.val] w fun e w'=>e=M (X.chE x).val/\zo w b D X (X.chN x) w':=by
 obtain⟨W,hW⟩:∃W,W=chW w x:=⟨_,rfl⟩
 have CW:H (ChW w W x):=by rw[hW];exact xt w x
 have LT:H (∀x,rsF D b X.C.length X.G x->x<w.heap.size):=fun x ⟨i,hx⟩=>h.lt hx;have HC:=yby x (by omega) W (h.grow CW.out.bel) hz
 have hWs:w.heap.size+1<W.heap.size:=by rw[CW.out.size];omega
 obtain⟨x0,x1,x2,x3,x4,x5,x6,x7,x8⟩:=(⟨CW.out.x0,CW.out.x1,CW.out.x2,CW.out.x3,CW.out.x4,CW.out.x5,CW.out.x6,CW.out.x7,CW.out.x8⟩:_/\_/\_/\_/\_/\_/\_/\_/\_);clear h hz;generalize hE:X.chE x=E at*;generalize hN:X.chN x=X' at*;clear hE hN;obtain⟨kd,co,⟨p,s,f,r⟩,q,k,u⟩:=x;simp only[chW,Pg.Sx.val]at hW HC hx x0 x1 x2 x3 x4 x5 x6 x7 x8 ⊢;obtain⟨ec,en,ea,ef,er,eb⟩:=E;simp only[Pg.Ev.val]at HC ⊢;rcases hx with rfl|rfl|rfl
 all_goals
  go_enter Tryz.func13,Tryz.ntmps13
  go_upto_region 1 with fail
  rw[<-hW];clear hW
  go_wp2_with fail
  refine HC.mono ?_;rintro e w1 ⟨rfl,hR⟩;have hR':=hR;obtain⟨D',hp,_,hb1,hF1⟩:=hR'
  have NE:¬rsF D b X.C.length X.G (w.heap.size+1):=fun e=>by have:=LT.out _ e;omega
  have E1:w1.heap[w.heap.size+1]?=_:=(hb1.block _ hWs NE).trans CW.out.ev;have hs1:w.heap.size+1<w1.heap.size:=kI hWs hb1.size;obtain⟨⟨z0,z1,z2,z3,z4,z5⟩,zf⟩:=zp E1;have FIN:H (∀Wf,But (fun x=>x=w.heap.size+1) w1 Wf->zo w b D X X' Wf):=fun Wf hb=>hR.behind CW.out.bel LT.out (fun x e=>⟨by omega,by omega⟩) hb;clear hR hp hb1 hF1 NE E1 HC x0 x1 x2 x3 x4 x5 x6 x7 x8 CW
  go_wp2_with fail
  refine Z (v:=kO #[I J ec,kJ en,I J ea,I J ef,I J er,kJ eb]) ?_ rfl ⟨rfl,FIN.out _ ?_⟩
  ·simp[results,Tryz.results13,go_sem,z0,z1,z2,z3,z4,z5,hs1]
  ·exact qB (But.refl (fun x=>x=w.heap.size+1) w1) _ (.inr rfl) _ _ _ _ _ _
theorem yd0 {b:Nat} {D:Rsd} {X:Pg.Spc} (x:Pg.Sx) (hx:x.kind<1\/7<x.kind) (w:z) (h:Rsk w b D X):
 kV A 13 #[O (P ⟨b,0,B⟩),x.val] w fun e w'=>e=M (Pg.Ev.code 2).val/\Below w.heap.size w w':=by
 obtain⟨W,hW⟩:∃W,W=chW w x:=⟨_,rfl⟩
 have CW:H (ChW w W x):=by rw[hW];exact xt w x
 have hWs:w.heap.size+1<W.heap.size:=by rw[CW.out.size];omega
 have x0:=CW.out.x0;obtain⟨⟨z0,z1,z2,z3,z4,z5⟩,zf⟩:=zp CW.out.ev;clear h;obtain⟨kd,co,⟨p,s,f,r⟩,q,k,u⟩:=x;simp only[chW,Pg.Sx.val]at hW hx x0 ⊢
 have k1:(kd==1)=Q:=by simp;omega
 have k2:(kd==2)=Q:=by simp;omega
 have k3:(kd==3)=Q:=by simp;omega
 rcases hx with hx|hx
 ·have k4:decide (kd<1)=kZ:=by simpa using hx
  go_enter Tryz.func13,Tryz.ntmps13
  go_upto_region 1 with fail
  rw[<-hW];clear hW
  go_wp2_with fail
  refine Z (v:=(Pg.Ev.code 2).val) ?_ rfl ⟨rfl,?_⟩
  ·simp[results,Tryz.results13,go_sem,z0,z1,z2,z3,z4,z5,hWs,Pg.Ev.val,Pg.Ev.code]
  ·exact jj CW.out.bel _ (by omega) _ _ _ _ _ _
 ·have k4:decide (kd<1)=Q:=by simp;omega
  have k5:decide (7<kd)=kZ:=by simpa using hx
  go_enter Tryz.func13,Tryz.ntmps13
  go_upto_region 1 with fail
  rw[<-hW];clear hW
  go_wp2_with fail
  refine Z (v:=(Pg.Ev.code 2).val) ?_ rfl ⟨rfl,?_⟩
  ·simp[results,Tryz.results13,go_sem,z0,z1,z2,z3,z4,z5,hWs,Pg.Ev.val,Pg.Ev.code]
  ·exact jj CW.out.bel _ (by omega) _ _ _ _ _ _
theorem yc9 {b:Nat} {D:Rsd} {X:Pg.Spc} (x:Pg.Sx) (hx:4<=x.kind/\x.kind<=7) (hc:x.core<0\/(X.C.length:Int)<=x.core) (w:z) (h:Rsk w b D X):
 kV A 13 #[O (P ⟨b,0,B⟩),x.val] w fun e w'=>e=M (Pg.Ev.code 1).val/\Below w.heap.size w w':=by
 obtain⟨W,hW⟩:∃W,W=chW w x:=⟨_,rfl⟩
 have CW:H (ChW w W x):=by rw[hW];exact xt w x
 have hWs:w.heap.size+1<W.heap.size:=by rw[CW.out.size];omega
 have x0:=CW.out.x0;have x1:=CW.out.x1;have c2:=(h.grow CW.out.bel).c2;obtain⟨⟨z0,z1,z2,z3,z4,z5⟩,zf⟩:=zp CW.out.ev;clear h;obtain⟨kd,co,⟨p,s,f,r⟩,q,k,u⟩:=x;simp only[chW,Pg.Sx.val]at hW hx hc x0 x1 ⊢
 have k1:(kd==1)=Q:=by simp;omega
 have k2:(kd==2)=Q:=by simp;omega
 have k3:(kd==3)=Q:=by simp;omega
 have k4:decide (kd<1)=Q:=by simp;omega
 have k5:decide (7<kd)=Q:=by simp;omega
 by_cases hc0:co<0
 ·have k6:decide (co<0)=kZ:=by simpa using hc0
  go_enter Tryz.func13,Tryz.ntmps13
  go_upto_region 1 with fail
  rw[<-hW];clear hW
  go_wp2_with fail
  go_region
  go_wp2_with fail
  refine Z (v:=(Pg.Ev.code 1).val) ?_ rfl ⟨rfl,?_⟩
  ·simp[results,Tryz.results13,go_sem,z0,z1,z2,z3,z4,z5,hWs,Pg.Ev.val,Pg.Ev.code]
  ·exact(jj CW.out.bel _ (by omega) _ _ _ _ _ _).drew
 ·have k6:decide (co<0)=Q:=by simpa using hc0
  have hc1:(X.C.length:Int)<=co:=by omega
  have k7:decide ((X.C.length:Int)<=co)=kZ:=by simpa using hc1
  go_enter Tryz.func13,Tryz.ntmps13
  go_upto_region 1 with fail
  rw[<-hW];clear hW
  go_wp2_with fail
  go_region
  go_wp2_with fail
  refine Z (v:=(Pg.Ev.code 1).val) ?_ rfl ⟨rfl,?_⟩
  ·simp[results,Tryz.results13,go_sem,z0,z1,z2,z3,z4,z5,hWs,Pg.Ev.val,Pg.Ev.code]
  ·exact(jj CW.out.bel _ (by omega) _ _ _ _ _ _).drew
structure StW (w W:z) (b:Nat) (D:Rsd) (X:Pg.Spc) (x:Pg.Sx):Prop where
 bel:Below w.heap.size w W
 rs:Rsk W b D X
 size:w.heap.size+1<W.heap.size
 lt:∀y,rsF D b X.C.length X.G y->y<w.heap.size
 x0:W.cell? ⟨w.heap.size,0,B⟩=P (I J x.kind)
 x1:W.cell? ⟨w.heap.size,1,B⟩=P (I J x.core)
 x6:W.cell? ⟨w.heap.size,6,B⟩=P (I J x.q)
 x7:W.cell? ⟨w.heap.size,7,B⟩=P (I J x.k)
 x8:W.cell? ⟨w.heap.size,8,B⟩=P (kJ x.u)
 ev:W.heap[w.heap.size+1]?=P (kC #[I J 0,kJ Q,I J 0,I J 0,I J 0,kJ Q] 36 (0,0))
theorem StW.begun {w:z} {b:Nat} {D:Rsd} {X:Pg.Spc} (h:Rsk w b D X) (x:Pg.Sx):StW w (chW w x) b D X x:=by
 have c:=xt w x;exact⟨c.bel,h.grow c.bel,by rw[c.size];omega,fun y ⟨i,hy⟩=>h.lt hy,c.x0,c.x1,c.x6,c.x7,c.x8,c.ev⟩
theorem StW.grow {w W W':z} {b:Nat} {D:Rsd} {X:Pg.Spc} {x:Pg.Sx} (h:StW w W b D X x) (hb:Below W.heap.size W W'):StW w W' b D X x:=by
 have hs:=h.size
 have hx:w.heap.size<W.heap.size:=by omega
 exact⟨zT h.bel hb,h.rs.grow hb,kI hs hb.size,h.lt,(hb.cell (p:=⟨w.heap.size,0,B⟩) hx).trans h.x0,(hb.cell (p:=⟨w.heap.size,1,B⟩) hx).trans h.x1,(hb.cell (p:=⟨w.heap.size,6,B⟩) hx).trans h.x6,(hb.cell (p:=⟨w.heap.size,7,B⟩) hx).trans h.x7,(hb.cell (p:=⟨w.heap.size,8,B⟩) hx).trans h.x8,(hb.block _ hs).trans h.ev⟩
theorem yeO {b:Nat} {D:Rsd} {X:Pg.Spc} {c:Nat} (x:Pg.Sx) (hx:x.kind=6) (hc:x.core=(c:Int)) (hl:c<X.C.length) (w:z) (h:Rsk w b D X):
 kV A 13 #[O (P ⟨b,0,B⟩),x.val] w fun e w'=>e=M (X.akE c).val/\zo w b D X (X.akN c) w':=by
 obtain⟨W,hW⟩:∃W,W=chW w x:=⟨_,rfl⟩
 have SW:H (StW w W b D X x):=by rw[hW];exact .begun h x
 have x0:=SW.out.x0;have x1:=SW.out.x1;have c2:=SW.out.rs.c2;have HA:=fun w' (h:Rsk w' b D X)=>ydZ hl w' h;clear h;generalize X.akE c=E at*;generalize X.akN c=X' at*;obtain⟨kd,co,⟨p,s,f,r⟩,q,k,u⟩:=x;simp only at hx hc;subst hx hc;simp only[chW,Pg.Sx.val]at hW x0 x1 ⊢;obtain⟨ec,en,ea,ef,er,eb⟩:=E;simp only[Pg.Ev.val]at HA ⊢
 have i0:(0:Int)<=(c:Int):=by omega
 have i1:(c:Int)<(X.C.length:Int):=by omega
 have k6:decide ((c:Int)<0)=Q:=by simp
 have k7:decide ((X.C.length:Int)<=(c:Int))=Q:=by simp;omega
 go_enter Tryz.func13,Tryz.ntmps13
 go_upto_region 1 with fail
 rw[<-hW];clear hW
 go_wp2_with fail
 go_region
 go_upto_region 7 with fail
 have S5:H _:=SW.out.grow (zR W).drew;clear x0 x1 c2 SW;generalize W.drew=W5 at*;have g2:=N S5.out.rs.c2;have gc:=N (S5.out.rs.row c hl);have y1:=N S5.out.x1;simp only at y1;refine Loose.ygt 8 (by kernel_rfl) (by kernel_rfl) ?_;simp only[kP,kT,kS,kF]
 repeat (
  refine Loose.zS (fun k hk=> ?_)
  go_simp
  (refine hk _ ?_;clear hk k))
 refine Loose.ygs ?_;intro w3 hb3;have S3:H _:=S5.out.grow hb3;clear hb3 g2 gc y1 S5;have x0:=S3.out.x0;have x1:=S3.out.x1;simp only at x0 x1;have HA:=HA w3 S3.out.rs
 go_wp2_with fail
 refine HA.mono ?_;rintro e w4 ⟨rfl,hR⟩;have hR':=hR;obtain⟨D',hp,_,hb1,hF1⟩:=hR';have hs3:=S3.out.size
 have NE:¬rsF D b X.C.length X.G (w.heap.size+1):=fun e=>by have:=S3.out.lt _ e;omega
 have E1:w4.heap[w.heap.size+1]?=_:=(hb1.block _ hs3 NE).trans S3.out.ev;have hs1:w.heap.size+1<w4.heap.size:=kI hs3 hb1.size;obtain⟨⟨z0,z1,z2,z3,z4,z5⟩,zf⟩:=zp E1;have FIN:H (∀Wf,But (fun x=>x=w.heap.size+1) w4 Wf->zo w b D X X' Wf):=fun Wf hb=>hR.behind S3.out.bel S3.out.lt (fun x e=>⟨by omega,by omega⟩) hb;clear hR hp hb1 hF1 NE E1 HA x0 x1 S3
 go_wp2_with fail
 refine Z (v:=kO #[I J ec,kJ en,I J ea,I J ef,I J er,kJ eb]) ?_ rfl ⟨rfl,FIN.out _ ?_⟩
 ·simp[results,Tryz.results13,go_sem,z0,z1,z2,z3,z4,z5,hs1]
 ·exact qB (But.refl (fun x=>x=w.heap.size+1) w4) _ (.inr rfl) _ _ _ _ _ _
theorem yd1 {b:Nat} {D:Rsd} {X:Pg.Spc} {c:Nat} (x:Pg.Sx) (hx:x.kind=7) (hc:x.core=(c:Int)) (hl:c<X.C.length) (hL:(X.C.getD c Pg.Cr.new).L=[]) (w:z) (h:Rsk w b D X):
 kV A 13 #[O (P ⟨b,0,B⟩),x.val] w fun e w'=>e=M (Pg.Ev.code 9).val/\Below w.heap.size w w':=by
 obtain⟨W,hW⟩:∃W,W=chW w x:=⟨_,rfl⟩
 have SW:H (StW w W b D X x):=by rw[hW];exact .begun h x
 have x0:=SW.out.x0;have x1:=SW.out.x1;have c2:=SW.out.rs.c2;clear h;obtain⟨kd,co,⟨p,s,f,r⟩,q,k,u⟩:=x;simp only at hx hc;subst hx hc;simp only[chW,Pg.Sx.val]at hW x0 x1 ⊢
 have i0:(0:Int)<=(c:Int):=by omega
 have i1:(c:Int)<(X.C.length:Int):=by omega
 have k6:decide ((c:Int)<0)=Q:=by simp
 have k7:decide ((X.C.length:Int)<=(c:Int))=Q:=by simp;omega
 go_enter Tryz.func13,Tryz.ntmps13
 go_upto_region 1 with fail
 rw[<-hW];clear hW
 go_wp2_with fail
 go_region
 go_upto_region 7 with fail
 have S5:H _:=SW.out.grow (zR W).drew;clear x0 x1 c2 SW;generalize W.drew=W5 at*;have g2:=N S5.out.rs.c2;have gc:=N (S5.out.rs.row c hl);have y1:=N S5.out.x1;simp only at y1;refine Loose.ygt 8 (by kernel_rfl) (by kernel_rfl) ?_;simp only[kP,kT,kS,kF]
 repeat (
  refine Loose.zS (fun k hk=> ?_)
  go_simp
  (refine hk _ ?_;clear hk k))
 refine Loose.ygs ?_;intro w3 hb3;have S3:H _:=S5.out.grow hb3;clear hb3 g2 gc y1 S5;have x0:=S3.out.x0;have x1:=S3.out.x1;simp only at x0 x1;have hk:=(S3.out.rs.core c hl).co;rw[hL]at hk;obtain⟨ad,cap,hv⟩:=hk.row.form;have k0:=hk.c0;rw[hv]at k0;simp only[List.length_nil]at k0;have hs3:=S3.out.size;obtain⟨⟨z0,z1,z2,z3,z4,z5⟩,zf⟩:=zp S3.out.ev;have HB:H _:=S3.out.bel;clear hk hv S3
 go_wp2_with fail
 refine Z (v:=(Pg.Ev.code 9).val) ?_ rfl ⟨rfl,?_⟩
 ·simp[results,Tryz.results13,go_sem,z0,z1,z2,z3,z4,z5,hs3,Pg.Ev.val,Pg.Ev.code]
 ·exact jj HB.out _ (by omega) _ _ _ _ _ _
theorem yc8 {b:Nat} {D:Rsd} {X:Pg.Spc} {c:Nat} (x:Pg.Sx) (hx:x.kind=7) (hc:x.core=(c:Int)) (hl:c<X.C.length) (hL:0<(X.C.getD c Pg.Cr.new).L.length) (w:z) (h:Rsk w b D X):
 kV A 13 #[O (P ⟨b,0,B⟩),x.val] w fun e w'=>e=M (Pg.Ev.code 0).val/\zo w b D X {X with C:=X.C.set c (X.C.getD c Pg.Cr.new).yhc} w':=by
 obtain⟨W,hW⟩:∃W,W=chW w x:=⟨_,rfl⟩
 have SW:H (StW w W b D X x):=by rw[hW];exact .begun h x
 have x0:=SW.out.x0;have x1:=SW.out.x1;have c2:=SW.out.rs.c2;clear h;obtain⟨kd,co,⟨p,s,f,r⟩,q,k,u⟩:=x;simp only at hx hc;subst hx hc;simp only[chW,Pg.Sx.val]at hW x0 x1 ⊢
 have i0:(0:Int)<=(c:Int):=by omega
 have i1:(c:Int)<(X.C.length:Int):=by omega
 have k6:decide ((c:Int)<0)=Q:=by simp
 have k7:decide ((X.C.length:Int)<=(c:Int))=Q:=by simp;omega
 go_enter Tryz.func13,Tryz.ntmps13
 go_upto_region 1 with fail
 rw[<-hW];clear hW
 go_wp2_with fail
 go_region
 go_upto_region 7 with fail
 have S5:H _:=SW.out.grow (zR W).drew;clear x0 x1 c2 SW;generalize W.drew=W5 at*;have g2:=N S5.out.rs.c2;have gc:=N (S5.out.rs.row c hl);have y1:=N S5.out.x1;simp only at y1;refine Loose.ygt 8 (by kernel_rfl) (by kernel_rfl) ?_;simp only[kP,kT,kS,kF]
 repeat (
  refine Loose.zS (fun k hk=> ?_)
  go_simp
  (refine hk _ ?_;clear hk k))
 refine Loose.ygs ?_;intro w3 hb3;have S3:H _:=S5.out.grow hb3;clear hb3 g2 gc y1 S5;have x0:=S3.out.x0;have x1:=S3.out.x1;simp only at x0 x1;have hk:=S3.out.rs.core c hl;obtain⟨g,o,cap9,e,hg,hn1,hn2⟩:=hk.co.row.shape hL;have c0:=hk.co.c0;have cf:=hk.co.fb 0;have hlb:=hk.lb;rw[e]at c0;have hco:=hk.co;rw[e]at hco;have hlen:=hk.co.kept.le;have hs3:=S3.out.size
 have d0:((((X.C.getD c Pg.Cr.new).L.length:Nat):Int)==0)=Q:=by rw[beq_eq_false_iff_ne];omega
 have j1:(1:Int)<=((X.C.getD c Pg.Cr.new).L.length:Int):=by omega
 have j3:cap9<=9223372036854775807:=by unfold maxLen at hn2;omega
 have HCD:H (∀Wf o',o'=o+5\/(cap9=1/\o'=o)->But (fun x=>x=w.heap.size+1) (w3.setCell ⟨D.cb c,0,B⟩ (kQ (P ⟨g,o',B⟩) ((X.C.getD c Pg.Cr.new).L.length-1) (cap9-1))) Wf->zo w b D X {X with C:=X.C.set c (X.C.getD c Pg.Cr.new).yhc} Wf):=fun Wf o' ho hb=>by
  obtain⟨e1,e2,e3⟩:=hco.yhc hL ho;rw[<-e]at e2 e3;have P4:=S3.out.rs.asked hl (hk.yiG e1 e2) e2.but e3
  have hR:zo w3 b D X {X with C:=X.C.set c (X.C.getD c Pg.Cr.new).yhc} (w3.setCell ⟨D.cb c,0,B⟩ (kQ (P ⟨g,o',B⟩) ((X.C.getD c Pg.Cr.new).L.length-1) (cap9-1))):=by
   refine⟨_,P4,id,e2.but.mono (fun x _ hx=>⟨c+5,hl,hx⟩),fun x hx=> ?_⟩;have hn:(X.C.set c (X.C.getD c Pg.Cr.new).yhc).length=X.C.length:=U;simp only[hn]at hx;exact qE hl e3 x hx
  exact hR.behind S3.out.bel S3.out.lt (fun x e=>⟨by omega,by omega⟩) hb
 have hnb:D.cb c≠w.heap.size+1:=fun e=>by have:=S3.out.lt _ ⟨c+5,hl,.inl rfl⟩;omega
 have hnb':w.heap.size+1≠D.cb c:=fun e=>hnb e.symm;obtain⟨⟨z0,z1,z2,z3,z4,z5⟩,zf⟩:=zp S3.out.ev
 have hcase:(cap9=1/\∃o',o'=o)\/(¬cap9=1/\∃o',o'=o+5):=by
  by_cases hc:cap9=1
  ·exact .inl ⟨hc,_,rfl⟩
  ·exact .inr ⟨hc,_,rfl⟩
 clear hk hco S3 hg hn2 e;generalize (X.C.getD c Pg.Cr.new).L.length=n at*;rcases hcase with ⟨hc,o',ho'⟩|⟨hc,o',ho'⟩
 ·subst hc ho'
  have FIN:H (∀Wf,But (fun x=>x=w.heap.size+1) (w3.setCell ⟨D.cb c,0,B⟩ (kQ (P ⟨g,o',B⟩) 0 0)) Wf->zo w b D X {X with C:=X.C.set c (X.C.getD c Pg.Cr.new).yhc} Wf):=fun Wf hb=>HCD.out Wf o' (.inr ⟨rfl,rfl⟩) (by rw[show n-1=0 by omega];exact hb);clear HCD
  go_wp2_with fail
  refine Z (v:=(Pg.Ev.code 0).val) ?_ rfl ⟨rfl,FIN.out _ ?_⟩
  ·simp[results,Tryz.results13,go_sem,z0,z1,z2,z3,z4,z5,hs3,hnb,hnb',Pg.Ev.val,Pg.Ev.code]
  ·exact qB (But.refl (fun x=>x=w.heap.size+1) (w3.setCell ⟨D.cb c,0,B⟩ (kQ (P ⟨g,o',B⟩) 0 0))) _ (.inr rfl) _ _ _ _ _ _
 ·subst ho'
  have FIN:H (∀Wf,But (fun x=>x=w.heap.size+1) (w3.setCell ⟨D.cb c,0,B⟩ (kQ (P ⟨g,o+5,B⟩) (n-1) (cap9-1))) Wf->zo w b D X {X with C:=X.C.set c (X.C.getD c Pg.Cr.new).yhc} Wf):=fun Wf hb=>HCD.out Wf (o+5) (.inl rfl) hb;clear HCD
  go_wp2_with fail
  refine Z (v:=(Pg.Ev.code 0).val) ?_ rfl ⟨rfl,FIN.out _ ?_⟩
  ·simp[results,Tryz.results13,go_sem,z0,z1,z2,z3,z4,z5,hs3,hnb,hnb',Pg.Ev.val,Pg.Ev.code]
  ·exact qB (But.refl (fun x=>x=w.heap.size+1) (w3.setCell ⟨D.cb c,0,B⟩ (kQ (P ⟨g,o+5,B⟩) (n-1) (cap9-1)))) _ (.inr rfl) _ _ _ _ _ _
theorem yeK {w:z} {r:Nat} {v0 v1 v2:kX} {t:TypeId} (h:w.heap[r]?=P (kC #[v0,v1,v2] t (0,0))):
 (w.cell? ⟨r,0,B⟩=P v0/\w.cell? ⟨r,1,B⟩=P v1/\w.cell? ⟨r,2,B⟩=P v2)/\∀i,w.frozen? ⟨r,i,B⟩=Q:=
 ⟨by simp[kK,h],fun i=>by simp[kU,h]⟩
theorem yaY {w3 w4:z} {F:Nat->Prop} {ob:Obj} (hb:But F (w3.alloc ob).drew w4) (hn:¬F w3.heap.size):w4.heap[w3.heap.size]?=(w3.alloc ob).heap[w3.heap.size]?:=hb.block w3.heap.size (by simp) hn
theorem qM {w3 V w4:z} {F:Nat->Prop} {a:Addr} {v:kX} (hb:But F V w4) (hV:Below w3.heap.size w3 V) (hl:a.block<w3.heap.size) (hn:¬F a.block) (h:w3.cell? a=P v):w4.cell? a=P v:=(hb.cell (kI hl hV.size) hn).trans ((hV.cell hl).trans h)
theorem StW.asked {w w3 V w4 Wa:z} {b c:Nat} {D:Rsd} {X:Pg.Spc} {x:Pg.Sx} {C':Pg.Cr} {v':kX} {Y:Nat->Prop} (S:StW w w3 b D X x) (hl:c<X.C.length) (hV:Below w3.heap.size w3 V) (hc:qS w4 (D.cb c) v' C') (hb:But (bkF (D.cb c) (D.cv c)) V w4) (hF:∀x,bkF (D.cb c) v' x->bkF (D.cb c) (D.cv c) x\/V.heap.size<=x) (hWa:But Y w4 Wa) (hY:∀j,Y j->w3.heap.size<=j/\¬(V.heap.size<=j/\j<w4.heap.size)):
 (∀Wf,But (fun j=>j=w.heap.size+1) Wa Wf->zo w b D X {X with C:=X.C.set c C'} Wf)/\Wa.heap[w.heap.size+1]?=P (kC #[I J 0,kJ Q,I J 0,I J 0,I J 0,kJ Q] 36 (0,0))/\w.heap.size+1<Wa.heap.size:=by
 have hs:=S.size;have hsV:=hV.size;have hs4:=hb.size;have P4:=(S.rs.grow hV).asked hl hc hb hF;have hn:(X.C.set c C').length=X.C.length:=U;have own:∀x,rsF {D with cv:=fun j=>if j=c then v' else D.cv j} b X.C.length X.G x->rsF D b X.C.length X.G x\/V.heap.size<=x:=qE hl hF;refine⟨fun Wf hf=> ?_,?_,kI (by omega) hWa.size⟩
 ·have hW:But (fun j=>Y j\/j=w.heap.size+1) w4 Wf:=(hWa.mono (fun _ _ h=> .inl h)).trans hf (fun _ _ h=> .inr h)
  have hY':∀j,(Y j\/j=w.heap.size+1)->w.heap.size<=j/\¬(V.heap.size<=j/\j<w4.heap.size):=fun j hj=>by
   rcases hj with hj|hj
   ·have:=hY j hj
    omega
   ·omega
  refine⟨_,P4.keep hW (fun x hx hy=> ?_),id,((But.ygr (zT S.bel hV)).trans hb (fun x _ h=>⟨c+5,hl,h⟩)).trans hW (fun x hx hy=>by have:=hY' x hy;omega),fun x hx=> ?_⟩
  ·obtain⟨i,hi⟩:=hx
   have h4:=P4.lt hi;simp only[hn]at hi;have:=hY' x hy;rcases own x ⟨i,hi⟩with h|h
   ·have:=S.lt x h
    omega
   ·omega
  ·simp only[hn]at hx
   exact(own x hx).imp id (fun h=>by have:=S.bel.size;omega)
 ·refine(hWa.block _ (by omega) (fun hy=>by have:=hY _ hy;omega)).trans ((hb.block _ (by omega) (fun hy=> ?_)).trans ((hV.block _ hs).trans S.ev))
  have:=S.lt _ ⟨c+5,hl,hy⟩;omega
theorem yci {b:Nat} {D:Rsd} {X:Pg.Spc} {c:Nat} (x:Pg.Sx) (hx:x.kind=4) (hc:x.core=(c:Int)) (hl:c<X.C.length) (w:z) (h:Rsk w b D X):
 kV A 13 #[O (P ⟨b,0,B⟩),x.val] w fun e w'=>e=M ((X.C.getD c Pg.Cr.new).bgT x.q x.k x.u).ev.val/\zo w b D X {X with C:=X.C.set c ((X.C.getD c Pg.Cr.new).bgN 0 x.q x.k x.u)} w':=by
 obtain⟨W,hW⟩:∃W,W=chW w x:=⟨_,rfl⟩
 have SW:H (StW w W b D X x):=by rw[hW];exact .begun h x
 have x0:=SW.out.x0;have x1:=SW.out.x1;have c2:=SW.out.rs.c2;clear h;obtain⟨kd,co,⟨p,s,f,r⟩,q,k,u⟩:=x;simp only at hx hc;subst hx hc;have HBG:=fun w' (h:qS w' (D.cb c) (D.cv c) (X.C.getD c Pg.Cr.new))=>ybP (root:=0) q k u w' h;simp only[chW,Pg.Sx.val]at hW x0 x1 ⊢
 have i0:(0:Int)<=(c:Int):=by omega
 have i1:(c:Int)<(X.C.length:Int):=by omega
 have k6:decide ((c:Int)<0)=Q:=by simp
 have k7:decide ((X.C.length:Int)<=(c:Int))=Q:=by simp;omega
 generalize hT:(X.C.getD c Pg.Cr.new).bgT q k u=T at*;generalize hC':(X.C.getD c Pg.Cr.new).bgN 0 q k u=C' at*;clear hT hC';obtain⟨ta,tf,tr,te,tc⟩:=T;simp only[Pg.Tl.val,Pg.Tl.ev,Pg.Ev.val]at HBG ⊢
 go_enter Tryz.func13,Tryz.ntmps13
 go_upto_region 1 with fail
 rw[<-hW];clear hW
 go_wp2_with fail
 go_region
 go_upto_region 7 with fail
 have S5:H _:=SW.out.grow (zR W).drew;clear x0 x1 c2 SW;generalize W.drew=W5 at*;have g2:=N S5.out.rs.c2;have gc:=N (S5.out.rs.row c hl);have y1:=N S5.out.x1;simp only at y1;refine Loose.ygt 8 (by kernel_rfl) (by kernel_rfl) ?_;simp only[kP,kT,kS,kF]
 repeat (
  refine Loose.zS (fun k hk=> ?_)
  go_simp
  (refine hk _ ?_;clear hk k))
 refine Loose.ygs ?_;intro w3 hb3;have S3:H _:=S5.out.grow hb3;clear hb3 g2 gc y1 S5;have x0:=S3.out.x0;simp only at x0
 go_upto_region 10 with fail
 clear x0;have c1:=S3.out.rs.c1;have y6:=S3.out.x6;have y7:=S3.out.x7;have y8:=S3.out.x8;simp only at y6 y7 y8;have hs3:=S3.out.size;have hbl:b<w.heap.size:=S3.out.lt b ⟨0,rfl⟩
 have hb3:b<w3.heap.size:=by omega
 have hx3:w.heap.size<w3.heap.size:=by omega
 have hcb:D.cb c<w.heap.size:=S3.out.lt _ ⟨c+5,hl,.inl rfl⟩;have nb:b≠D.cb c:=S3.out.rs.ne (i:=0) (j:=c+5) rfl ⟨hl,.inl rfl⟩ (by omega)
 have n3:¬(w3.heap.size=D.cb c):=by omega
 have nx:¬(w.heap.size=D.cb c):=by omega
 have m3:b≠w3.heap.size:=by omega
 have m4:w.heap.size≠w3.heap.size:=by omega
 have m5:w3.heap.size≠b:=by omega
 have m6:w3.heap.size≠w.heap.size:=by omega
 go_region_held3 (fun w'=>w'.cell? ⟨b,1,B⟩=P (I J 0)/\w'.cell? ⟨w.heap.size,6,B⟩=P (I J q)/\w'.cell? ⟨w.heap.size,7,B⟩=P (I J k)/\w'.cell? ⟨w.heap.size,8,B⟩=P (kJ u)) (go_keep) (
  (go_at_call 56;refine(HBG _ ((S3.out.rs.core c hl).grow (by first|exact(zA (zR w3) _).drew|exact zA (zR w3) _|exact(zR w3).drew|exact zR w3))).mono ?_;rintro en w4 ⟨rfl,hc4,hb4⟩
   have HC4:H _:=hc4;have HB4:H _:=hb4;have u1:=qM hb4 (by first|exact(zA (zR w3) _).drew|exact zA (zR w3) _|exact(zR w3).drew|exact zR w3) hb3 nb c1;have u6:=qM hb4 (by first|exact(zA (zR w3) _).drew|exact zA (zR w3) _|exact(zR w3).drew|exact zR w3) hx3 nx y6;have u7:=qM hb4 (by first|exact(zA (zR w3) _).drew|exact zA (zR w3) _|exact(zR w3).drew|exact zR w3) hx3 nx y7;have u8:=qM hb4 (by first|exact(zA (zR w3) _).drew|exact zA (zR w3) _|exact(zR w3).drew|exact zR w3) hx3 nx y8;have ub:b<w4.heap.size:=kN _ _ u1;have ux:w.heap.size<w4.heap.size:=kN _ _ u6
   have ub':b≠w4.heap.size:=by omega
   have ux':w.heap.size≠w4.heap.size:=by omega
   first
    | (have hA:But (fun j=>j=D.cb c) w3.drew w4:=hb4;clear hA)
    | (have hblk:w4.heap[w3.heap.size]?=P (kC #[I J 0,I J 0,I J 0] 34 (0,0)):=(yaY hb4 n3).trans (kY w3 (kC #[I J 0,I J 0,I J 0] 34))
       have hs4:w3.heap.size<w4.heap.size:=(kR.1 hblk).1
       obtain⟨⟨a0,a1,a2⟩,af⟩:=yeK hblk)
   clear hc4 hb4))
 ·obtain⟨Wa,hWa⟩:∃Wa,Wa=w4.alloc (kC #[I J ta,I J tf,I J tr] 34):=⟨_,rfl⟩
  rw[<-hWa]
  have hbl:Wa.heap[w4.heap.size]?=P (kC #[I J ta,I J tf,I J tr] 34 (0,0)):=by rw[hWa];exact kY _ _
  have FA:H _:=S3.out.asked hl ((zR w3).drew) HC4.out (HB4.out.mono fun _ _ h=> .inl h) (fun x hx=> .inl hx) (Wa:=Wa) (Y:=fun j=>False) (by rw[hWa];exact But.ygr (zA (zR w4) _)) (fun j hj=>hj.elim)
  have hne:w4.heap.size≠w.heap.size+1:=by have:=HB4.out.size;simp at this;omega
  have hsa:w4.heap.size<Wa.heap.size:=by rw[hWa];simp
  generalize w4.heap.size=ab at*;obtain⟨⟨b0,b1,b2⟩,bf⟩:=yeK hbl;clear hbl;have hs1:=FA.out.2.2;obtain⟨⟨z0,z1,z2,z3,z4,z5⟩,zf⟩:=zp FA.out.2.1;have FIN:H _:=FA.out.1;clear hWa FA HC4 HB4 S3
  go_wp2_with fail
  refine Z (v:=kO #[I J tc,kJ te,I J ta,I J tf,I J tr,kJ Q]) ?_ rfl ⟨rfl,FIN.out _ ?_⟩
  ·simp[results,Tryz.results13,go_sem,z0,z1,z2,z3,z4,z5,hs1]
  ·exact qB (But.refl (fun x=>x=w.heap.size+1) Wa) _ (.inr rfl) _ _ _ _ _ _
 ·obtain⟨Wa,hWa⟩:∃Wa,Wa=((w4.setCell ⟨w3.heap.size,0,B⟩ (I J ta)).setCell ⟨w3.heap.size,1,B⟩ (I J tf)).setCell ⟨w3.heap.size,2,B⟩ (I J tr):=⟨_,rfl⟩
  rw[<-hWa]
  have hbl:Wa.cell? ⟨w3.heap.size,0,B⟩=P (I J ta)/\Wa.cell? ⟨w3.heap.size,1,B⟩=P (I J tf)/\Wa.cell? ⟨w3.heap.size,2,B⟩=P (I J tr):=by rw[hWa];simp[go_sem,a0,a1,a2]
  have FA:H _:=S3.out.asked hl ((zA (zR w3) (kC #[I J 0,I J 0,I J 0] 34)).drew) HC4.out (HB4.out.mono fun _ _ h=> .inl h) (fun x hx=> .inl hx) (Wa:=Wa) (Y:=fun j=>j=w3.heap.size) (by rw[hWa];exact(((But.refl (fun j=>j=w3.heap.size) w4).setCell (a:=⟨w3.heap.size,0,B⟩) (.inr rfl) _).setCell (a:=⟨w3.heap.size,1,B⟩) (.inr rfl) _).setCell (a:=⟨w3.heap.size,2,B⟩) (.inr rfl) _) (fun j hj=>⟨by omega,by simp;omega⟩)
  have hne:w3.heap.size≠w.heap.size+1:=by omega
  have hsa:w3.heap.size<Wa.heap.size:=by rw[hWa];simpa using hs4
  obtain⟨b0,b1,b2⟩:=hbl;clear a0 a1 a2 af;have hs1:=FA.out.2.2;obtain⟨⟨z0,z1,z2,z3,z4,z5⟩,zf⟩:=zp FA.out.2.1;have FIN:H _:=FA.out.1;clear hWa FA HC4 HB4 S3
  go_wp2_with fail
  refine Z (v:=kO #[I J tc,kJ te,I J ta,I J tf,I J tr,kJ Q]) ?_ rfl ⟨rfl,FIN.out _ ?_⟩
  ·simp[results,Tryz.results13,go_sem,z0,z1,z2,z3,z4,z5,hs1]
  ·exact qB (But.refl (fun x=>x=w.heap.size+1) Wa) _ (.inr rfl) _ _ _ _ _ _
theorem Rsk.stepped {w w':z} {b k:Nat} {D:Rsd} {X:Pg.Spc} {C':Pg.Cr} {S':Pg.Fs} {Y:Nat->Prop} (h:Rsk w b D X) (hk:k<X.C.length) (hC:qS w' (D.cb k) (D.cv k) C') (hm:zg w' D.bm D.g0 D.g1 D.vm S') (hb:But (fun j=>bkF (D.cb k) (D.cv k) j\/zN D.bm D.g0 D.g1 D.vm j\/Y j) w w') (hY:∀x,rsF D b X.C.length X.G x->¬Y x):Rsk w' b D {X with S:=S',C:=X.C.set k C'}:=by
 obtain⟨o0,o1,o2,o3,o4,o5⟩:=h.others hb
 have hF':∀i,i≠k+5->i≠1->∀x,D.own b X.C.length X.G i x->¬(bkF (D.cb k) (D.cv k) x\/zN D.bm D.g0 D.g1 D.vm x\/Y x):=fun i hi h1 x hx e=>by
  rcases e with e|e|e
  ·exact hi (h.part i (k+5) x hx ⟨hk,e⟩)
  ·exact h1 (h.part i 1 x hx e)
  ·exact hY x ⟨i,hx⟩ e
 obtain⟨e0,f0⟩:=o0 (hF' 0 (by omega) (by omega));obtain⟨e3,f3⟩:=o3 (hF' 3 (by omega) (by omega));have hl:(X.C.set k C').length=X.C.length:=U;refine⟨(e0 0).trans h.c0,(e0 1).trans h.c1,?_,(e0 3).trans h.c3,(e0 4).trans h.c4,(e0 5).trans h.c5,(e0 6).trans h.c6,(e0 7).trans h.c7,(e0 8).trans h.c8,?_,f0,hm,?_,?_,?_,f3,o4 (hF' 4 (by omega) (by omega)),?_,?_,?_,?_,h.told,h.few⟩
 ·simp only[hl]
  exact(e0 2).trans h.c2
 ·simp only[hl]
  exact(e0 9).trans h.c9
 ·simp only[hl]
  exact o2 (hF' 2 (by omega) (by omega))
 ·simp only[hl]
  intro j hj
  show qS w' (D.cb j) (D.cv j) ((X.C.set k C').getD j Pg.Cr.new)
  by_cases e:j=k
  ·subst e
   rw[show(X.C.set j C').getD j Pg.Cr.new=C' by simp[List.getD,hk]];exact hC
  ·rw[show(X.C.set k C').getD j Pg.Cr.new=X.C.getD j Pg.Cr.new by simp[List.getD,List.getElem?_set_ne (fun h=>e h.symm)]]
   exact o5 j hj (hF' _ (by omega) (by omega))
 ·simp only[hl]
  exact e3
 ·simp only[hl]
  exact h.part
 ·simp only[hl]
  exact h.len
 ·simp only[hl]
  exact h.pos
 ·simp only[hl]
  exact h.le
theorem lnz {w:z} {r:Nat} {t:TypeId} (h:w.heap[r]?=P (kC #[I J 0,I J 0,I J 0,I J 0,kJ Q] t (0,0))):qi w r 0 ⟨⟨0,0,0,0⟩,Q⟩/\∀p,w.frozen? ⟨r,p,B⟩=Q:=by
 refine⟨⟨?_,?_,?_,?_,?_⟩,fun p=> ?_⟩
 all_goals simp[kK,kU,h]
structure Wlk (w W:z) (b c lb ab:Nat) (D:Rsd) (X:Pg.Spc) (S':Pg.Fs) (C':Pg.Cr) (l:Pg.Ln) (ta tf tr:Int):Prop where
 rs:Rsk W b D {X with S:=S',C:=X.C.set c C'}
 but:But (rsF D b X.C.length X.G) w W
 ev:W.heap[w.heap.size+1]?=P (kC #[I J 0,kJ Q,I J 0,I J 0,I J 0,kJ Q] 36 (0,0))
 ln:qi W lb 0 l
 a0:W.cell? ⟨ab,0,B⟩=P (I J ta)
 a1:W.cell? ⟨ab,1,B⟩=P (I J tf)
 a2:W.cell? ⟨ab,2,B⟩=P (I J tr)
 lbw:w.heap.size+1<lb
 abw:w.heap.size+1<ab
theorem Wlk.made {w W4 V w5 Wa:z} {b c lb ab:Nat} {D:Rsd} {X:Pg.Spc} {x:Pg.Sx} {S':Pg.Fs} {K':Pg.Wk} {l:Pg.Ln} {ta tf tr:Int} {Y:Nat->Prop} (S:StW w W4 b D X x) (hl:c<X.C.length) (hV:Below W4.heap.size W4 V) (h1:w.heap.size+1<lb) (h2:lb<W4.heap.size) (hck:qA w5 (D.cb c) K') (ok:K'.Ok) (hm:zg w5 D.bm D.g0 D.g1 D.vm S') (hln:qi w5 lb 0 l) (hch:Ch8 (D.cb c) 1 (fun j=>j=D.cb c\/j=lb\/zN D.bm D.g0 D.g1 D.vm j) V w5) (hWa:But Y w5 Wa) (hY:∀j,Y j->W4.heap.size<=j)
 (a0:Wa.cell? ⟨ab,0,B⟩=P (I J ta)) (a1:Wa.cell? ⟨ab,1,B⟩=P (I J tf)) (a2:Wa.cell? ⟨ab,2,B⟩=P (I J tr)) (hab:w.heap.size+1<ab):Wlk w Wa b c lb ab D X S' ⟨(X.C.getD c Pg.Cr.new).L,K'⟩ l ta tf tr:=by
 have hs:=S.size;have hsV:=hV.size;have PV:=S.rs.grow hV;have hs5:=hch.but.size
 have hC:qS w5 (D.cb c) (D.cv c) ⟨(X.C.getD c Pg.Cr.new).L,K'⟩:=(PV.core c hl).yhX hck ok hch (fun j hj e=>by
  have hjo:D.own b X.C.length X.G (c+5) j:=⟨hl,.inr hj⟩;rcases e with e|e|e
  ·exact(PV.core c hl).co.nb (e▸hj)
  ·have:=S.lt j ⟨_,hjo⟩
   omega
  ·exact absurd (PV.part _ 1 j hjo e) (by omega))
 have P5:=PV.stepped hl hC hm (Y:=fun j=>j=lb) (hch.but.mono (fun j _ e=>by
  rcases e with e|e|e
  ·exact .inl (.inl e)
  ·exact .inr (.inr e)
  ·exact .inr (.inl e))) (fun j hj e=>by have:=S.lt j hj;omega)
 have hn:(X.C.set c ⟨(X.C.getD c Pg.Cr.new).L,K'⟩).length=X.C.length:=U;refine⟨P5.keep hWa (fun j hj hy=> ?_),((But.ygr (zT S.bel hV)).trans hch.but (fun j hj e=> ?_)).trans hWa (fun j hj e=>by have:=hY j e;omega),?_,hln.of (fun q=>hWa.cell (a:=⟨lb,q,B⟩) (by show lb<_;omega) (fun e=>by have:=hY lb e;omega)),a0,a1,a2,h1,hab⟩
 ·simp only[hn]at hj
  have:=S.lt j hj;have:=hY j hy;omega
 ·rcases e with e|e|e
  ·exact⟨c+5,hl,.inl e⟩
  ·omega
  ·exact⟨1,e⟩
 ·refine(hWa.block _ (by omega) (fun e=>by have:=hY _ e;omega)).trans ((hch.but.block _ (by omega) (fun e=> ?_)).trans ((hV.block _ hs).trans S.ev))
  rcases e with e|e|e
  ·have:=S.lt _ ⟨c+5,hl,.inl rfl⟩
   omega
  ·omega
  ·have:=S.lt _ ⟨1,e⟩
   omega
theorem rsDo_walk {b:Nat} {D:Rsd} {X:Pg.Spc} {c:Nat} (x:Pg.Sx) (hx:x.kind=5) (hc:x.core=(c:Int)) (hl:c<X.C.length) (w:z) (h:Rsk w b D X):
 kV A 13 #[O (P ⟨b,0,B⟩),x.val] w fun e w'=>e=M ((X.C.getD c Pg.Cr.new).stT X.S 0).ev.val/\zo w b D X {X with S:=(X.C.getD c Pg.Cr.new).stS X.S 0,C:=X.C.set c ((X.C.getD c Pg.Cr.new).stN X.S 0)} w':=by
 obtain⟨W,hW⟩:∃W,W=chW w x:=⟨_,rfl⟩
 have SW:H (StW w W b D X x):=by rw[hW];exact .begun h x
 have x0:=SW.out.x0;have x1:=SW.out.x1;have c2:=SW.out.rs.c2;clear h;obtain⟨kd,co,⟨p,s,f,r⟩,q,k,u⟩:=x;simp only at hx hc;subst hx hc;simp only[chW,Pg.Sx.val]at hW x0 x1 ⊢
 have i0:(0:Int)<=(c:Int):=by omega
 have i1:(c:Int)<(X.C.length:Int):=by omega
 have k6:decide ((c:Int)<0)=Q:=by simp
 have k7:decide ((X.C.length:Int)<=(c:Int))=Q:=by simp;omega
 generalize hK:(X.C.getD c Pg.Cr.new).K=K at*
 have HST:∀(w':z) (lb:Nat),Rsk w' b D X->qi w' lb 0 ⟨⟨0,0,0,0⟩,Q⟩->(∀p,w'.frozen? ⟨lb,p,B⟩=Q)->¬zN D.bm D.g0 D.g1 D.vm lb->D.cb c≠lb->
  kV A 57 #[O (P ⟨D.cb c,0,B⟩),O (P ⟨D.bm,0,B⟩),I J 0,O (P ⟨lb,0,B⟩)] w' fun e w''=>e=M (.tuple #[kO #[I J ((Pg.kOut X.S 0 K).res K).a,I J ((Pg.kOut X.S 0 K).res K).f,I J ((Pg.kOut X.S 0 K).res K).r],kJ ((Pg.kOut X.S 0 K).res K).ended,I J (Pg.kOut X.S 0 K).cd])/\qA w'' (D.cb c) ((Pg.kOut X.S 0 K).next K)/\zg w'' D.bm D.g0 D.g1 D.vm ((Pg.kOut X.S 0 K).fs X.S K)/\qi w'' lb 0 ⟨((Pg.kOut X.S 0 K).res K).m,((Pg.kOut X.S 0 K).res K).d⟩/\Ch8 (D.cb c) 1 (fun j=>j=D.cb c\/j=lb\/zN D.bm D.g0 D.g1 D.vm j) w' w'':=fun w' lb h hL hLf hlm hbl=>by
  have hck:=(h.core c hl).ck;have hok:=(h.core c hl).ok;rw[hK]at hck hok;refine(ydp (root:=0) hok w' hck h.mem hL hLf (fun e=>absurd (h.part (c+5) 1 _ ⟨hl,.inl rfl⟩ e) (by omega)) hlm hbl).mono ?_;rintro e w'' ⟨h1,h2,h3,h4,h5⟩;exact⟨h1,h2,h3,h4,h5⟩
 have HOK:H (∀(w':z),Rsk w' b D X->((Pg.kOut X.S 0 K).next K).Ok):=fun w' h=>by
  have hok:=(h.core c hl).ok;rw[hK]at hok;exact Pg.yip h.mem.ok hok 0
 have HFT:H _:=Pg.yij K (Pg.kOut X.S 0 K);simp only[Pg.Cr.stT,Pg.Cr.stN,Pg.Cr.stS,Pg.Wo.tl,Pg.Tl.ev,Pg.Ev.val,hK];generalize (Pg.kOut X.S 0 K).res K=R at*;generalize (Pg.kOut X.S 0 K).next K=K' at*;generalize (Pg.kOut X.S 0 K).fs X.S K=S' at*;generalize (Pg.kOut X.S 0 K).cd=cd at*;clear hK;obtain⟨en,ra,rf,rr,⟨mp,ms,mf,mr⟩,rd⟩:=R;simp only at HST HFT ⊢
 go_enter Tryz.func13,Tryz.ntmps13
 go_upto_region 1 with fail
 rw[<-hW];clear hW
 go_wp2_with fail
 go_region
 go_upto_region 7 with fail
 have S5:H _:=SW.out.grow (zR W).drew;clear x0 x1 c2 SW;generalize W.drew=W5 at*;have g2:=N S5.out.rs.c2;have gc:=N (S5.out.rs.row c hl);have y1:=N S5.out.x1;simp only at y1;refine Loose.ygt 8 (by kernel_rfl) (by kernel_rfl) ?_;simp only[kP,kT,kS,kF]
 repeat (
  refine Loose.zS (fun k hk=> ?_)
  go_simp
  (refine hk _ ?_;clear hk k))
 refine Loose.ygs ?_;intro w3 hb3;have S3:H _:=S5.out.grow hb3;clear hb3 g2 gc y1 S5;have x0:=S3.out.x0;simp only at x0;obtain⟨W4,hW4⟩:∃W4,W4=w3.alloc (kC #[I J 0,I J 0,I J 0,I J 0,kJ Q] 121):=⟨_,rfl⟩
 have hb4:Below w3.heap.size w3 W4:=by rw[hW4];exact zA (zR _) _
 have hln:W4.heap[w3.heap.size]?=P (kC #[I J 0,I J 0,I J 0,I J 0,kJ Q] 121 (0,0)):=by rw[hW4];exact kY _ _
 have hs4:w3.heap.size<W4.heap.size:=by rw[hW4];simp
 have hs3:=S3.out.size;have S4:H _:=S3.out.grow hb4;have hcb:D.cb c<w.heap.size:=S3.out.lt _ ⟨c+5,hl,.inl rfl⟩;have hbl:b<w.heap.size:=S3.out.lt b ⟨0,rfl⟩
 have nlm:∀j,w.heap.size<=j->¬zN D.bm D.g0 D.g1 D.vm j:=fun j hj e=>by have:=S3.out.lt j ⟨1,e⟩;omega
 have HSV:H _:=fun(V:z) (hV:Below W4.heap.size W4 V)=>HST V w3.heap.size (S4.out.rs.grow hV) (lnz ((hV.block _ hs4).trans hln)).1 (lnz ((hV.block _ hs4).trans hln)).2 (nlm _ (by omega)) (by omega);have c0:=S4.out.rs.c0;have c1:=S4.out.rs.c1
 have hb4':b<W4.heap.size:=by omega
 have NF:∀j,w.heap.size<=j->¬j=w3.heap.size->¬(j=D.cb c\/j=w3.heap.size\/zN D.bm D.g0 D.g1 D.vm j):=fun j hj h1 e=>by
  rcases e with e|e|e
  ·omega
  ·exact h1 e
  ·exact nlm j hj e
 have NB:¬(b=D.cb c\/b=w3.heap.size\/zN D.bm D.g0 D.g1 D.vm b):=fun e=>by
  rcases e with e|e|e
  ·exact absurd (S4.out.rs.part 0 (c+5) b rfl ⟨hl,.inl e⟩) (by omega)
  ·omega
  ·exact absurd (S4.out.rs.part 0 1 b rfl e) (by omega)
 have N4:=NF W4.heap.size (by omega) (by omega)
 have m1:b≠W4.heap.size:=by omega
 have m2:W4.heap.size≠b:=by omega
 have NBH:H _:=NB;have N4H:H _:=N4;have NFH:H _:=NF;have NLH:H _:=nlm;clear hb4 hln S3 HST NB N4 NF nlm
 go_upto_region 14 with fail
 rw[<-hW4];clear hW4 x0
 go_region_held3 (fun w'=>w'.cell? ⟨b,0,B⟩=P (O (P ⟨D.bm,0,B⟩))/\w'.cell? ⟨b,1,B⟩=P (I J 0)) (go_keep) (
  (go_at_call 57;refine(HSV.out _ (by first|exact(zA (zR W4) _).drew|exact zA (zR W4) _|exact(zR W4).drew|exact zR W4)).mono ?_;rintro en' w5 ⟨he,hck,hm5,hl5,hch⟩
   subst he;have HCK:H _:=hck;have HM5:H _:=hm5;have HL5:H (qi w5 w3.heap.size 0 ⟨⟨mp,ms,mf,mr⟩,rd⟩):=hl5;have HCH:H _:=hch;have u0:=qM hch.but (by first|exact(zA (zR W4) _).drew|exact zA (zR W4) _|exact(zR W4).drew|exact zR W4) hb4' NBH.out c0;have u1:=qM hch.but (by first|exact(zA (zR W4) _).drew|exact zA (zR W4) _|exact(zR W4).drew|exact zR W4) hb4' NBH.out c1;have ub:b<w5.heap.size:=kN _ _ u1
   have ub':b≠w5.heap.size:=by omega
   first
    | (have hA:Ch8 (D.cb c) 1 (fun j=>j=D.cb c\/j=w3.heap.size\/zN D.bm D.g0 D.g1 D.vm j) W4.drew w5:=hch;clear hA)
    | (have hblk:w5.heap[W4.heap.size]?=P (kC #[I J 0,I J 0,I J 0] 34 (0,0)):=(yaY hch.but N4H.out).trans (kY W4 (kC #[I J 0,I J 0,I J 0] 34))
       have hs5:W4.heap.size<w5.heap.size:=(kR.1 hblk).1
       obtain⟨⟨a0,a1,a2⟩,af⟩:=yeK hblk)
   clear hck hm5 hl5 hch))
 focus
  obtain⟨Wa,hWa⟩:∃Wa,Wa=w5.alloc (kC #[I J ra,I J rf,I J rr] 34):=⟨_,rfl⟩;rw[<-hWa]
  have hbk:Wa.heap[w5.heap.size]?=P (kC #[I J ra,I J rf,I J rr] 34 (0,0)):=by rw[hWa];exact kY _ _
  obtain⟨⟨b0,b1,b2⟩,bf⟩:=yeK hbk
  have hs5:W4.heap.size<=w5.heap.size:=by have:=HCH.out.but.size;simpa using this
  have WK:H _:=Wlk.made S4.out hl ((zR W4).drew) hs3 hs4 HCK.out (HOK.out _ S4.out.rs) HM5.out HL5.out HCH.out (Wa:=Wa) (Y:=fun j=>False) (by rw[hWa];exact But.ygr (zA (zR w5) _)) (fun j hj=>hj.elim) b0 b1 b2 (by omega)
  have hsa:w5.heap.size<Wa.heap.size:=by rw[hWa];simp
  have HLT:H (∀y,rsF D b X.C.length X.G y->y<w.heap.size):=S4.out.lt;generalize w5.heap.size=ab at*;clear hbk hWa u0 u1 ub ub' bf b0 b1 b2;clear HCK HM5 HL5 HCH HSV HOK NBH N4H NFH NLH S4 c0 c1
 rotate_left
 focus
  obtain⟨Wa,hWa⟩:∃Wa,Wa=((w5.setCell ⟨W4.heap.size,0,B⟩ (I J ra)).setCell ⟨W4.heap.size,1,B⟩ (I J rf)).setCell ⟨W4.heap.size,2,B⟩ (I J rr):=⟨_,rfl⟩;rw[<-hWa]
  have hbk:Wa.cell? ⟨W4.heap.size,0,B⟩=P (I J ra)/\Wa.cell? ⟨W4.heap.size,1,B⟩=P (I J rf)/\Wa.cell? ⟨W4.heap.size,2,B⟩=P (I J rr):=by rw[hWa];simp[go_sem,a0,a1,a2]
  have WK:H _:=Wlk.made S4.out hl ((zA (zR W4) (kC #[I J 0,I J 0,I J 0] 34)).drew) hs3 hs4 HCK.out (HOK.out _ S4.out.rs) HM5.out HL5.out HCH.out (Wa:=Wa) (Y:=fun j=>j=W4.heap.size) (by rw[hWa];exact(((But.refl (fun j=>j=W4.heap.size) w5).setCell (a:=⟨W4.heap.size,0,B⟩) (.inr rfl) _).setCell (a:=⟨W4.heap.size,1,B⟩) (.inr rfl) _).setCell (a:=⟨W4.heap.size,2,B⟩) (.inr rfl) _) (fun j hj=>by omega) hbk.1 hbk.2.1 hbk.2.2 (by omega)
  have hsa:W4.heap.size<Wa.heap.size:=by rw[hWa];simpa using hs5
  have HLT:H (∀y,rsF D b X.C.length X.G y->y<w.heap.size):=S4.out.lt;clear hbk hWa u0 u1 ub ub' a0 a1 a2 af;generalize W4.heap.size=ab at*;clear HCK HM5 HL5 HCH HSV HOK NBH N4H NFH NLH S4 c0 c1
 rotate_left
 all_goals
  have hw1:=WK.out.abw;have b0:=WK.out.a0;have b1:=WK.out.a1;have b2:=WK.out.a2;have hs1:w.heap.size+1<Wa.heap.size:=(kR.1 WK.out.ev).1;cases hp:(en&&ra==0)
  ·have HPU:H (Pg.rPut (X.C.getD c Pg.Cr.new).L ⟨en,ra,rf,rr,⟨mp,ms,mf,mr⟩,rd⟩=(X.C.getD c Pg.Cr.new).L):=by
    rw[H];unfold Pg.rPut;rw[if_neg (by simp only;rw[hp];decide)]
   obtain⟨⟨z0,z1,z2,z3,z4,z5⟩,zf⟩:=zp WK.out.ev
   have FIN:H (∀Wf,But (fun x=>x=w.heap.size+1) Wa Wf->zo w b D X {X with S:=S',C:=X.C.set c ⟨Pg.rPut (X.C.getD c Pg.Cr.new).L ⟨en,ra,rf,rr,⟨mp,ms,mf,mr⟩,rd⟩,K'⟩} Wf):=fun Wf hb=>by
    rw[HPU.out];refine⟨D,WK.out.rs.keep hb (fun x hx e=> ?_),id,WK.out.but.trans hb (fun x hx e=>by omega),fun x hx=> .inl ?_⟩
    ·simp only[U]at hx
     have:=HLT.out x hx;omega
    ·simp only[U]at hx
     exact hx
   clear WK
   have hp:en=Q\/(en=kZ/\(ra==0)=Q):=by revert hp;cases en<;>simp
   clear HFT;rcases hp with rfl|⟨rfl,hgo⟩
   all_goals
    go_wp2_with fail
    refine Z (v:=kO #[I J cd,kJ _,I J ra,I J rf,I J rr,kJ Q]) ?_ rfl ⟨rfl,FIN.out _ ?_⟩
    ·simp[results,Tryz.results13,go_sem,z0,z1,z2,z3,z4,z5,hs1]
    ·exact qB (But.refl (fun x=>x=w.heap.size+1) Wa) _ (.inr rfl) _ _ _ _ _ _
  ·obtain⟨rfl,h0⟩:en=kZ/\ra=0:=by simpa using hp
   subst h0;have HPU:H (Pg.rPut (X.C.getD c Pg.Cr.new).L ⟨kZ,0,rf,rr,⟨mp,ms,mf,mr⟩,rd⟩=Pg.kPut (X.C.getD c Pg.Cr.new).L ⟨⟨mp,ms,mf,mr⟩,rd⟩):=rfl;clear hp;have hn:(X.C.set c ⟨(X.C.getD c Pg.Cr.new).L,K'⟩).length=X.C.length:=U
   have hlc:c<({X with S:=S',C:=X.C.set c ⟨(X.C.getD c Pg.Cr.new).L,K'⟩}:Pg.Spc).C.length:=by simp only[hn];exact hl
   have hcc:qS Wa (D.cb c) (D.cv c) ⟨(X.C.getD c Pg.Cr.new).L,K'⟩:=by
    have:=WK.out.rs.core c hlc;rw[show({X with S:=S',C:=X.C.set c ⟨(X.C.getD c Pg.Cr.new).L,K'⟩}:Pg.Spc).C.getD c Pg.Cr.new=⟨(X.C.getD c Pg.Cr.new).L,K'⟩ by simp[List.getD,hl]]at this;exact this
   have HCC:H _:=hcc;have HP:=ydq ⟨⟨mp,ms,mf,mr⟩,rd⟩ HFT.out Wa hcc.co;simp only[Pg.Ln.val]at HP;obtain⟨l0,l1,l2,l3,l4⟩:=WK.out.ln;simp only[Nat.zero_add]at l1 l2 l3 l4;clear hcc
   go_wp2_with fail
   refine HP.mono ?_;rintro e w7 ⟨rfl,v7,hc7,hg7,hF7⟩;have P7:=WK.out.rs.asked hlc (HCC.out.yiG hc7 hg7) hg7.but hF7;simp only[List.set_set]at P7
   have NK:∀j,w.heap.size<=j->¬bkF (D.cb c) (D.cv c) j:=fun j hj e=>by have:=HLT.out j ⟨c+5,hl,e⟩;omega
   have c0':=(hg7.but.cell (a:=⟨ab,0,B⟩) hsa (NK _ (by show w.heap.size<=ab;omega))).trans b0;have c1':=(hg7.but.cell (a:=⟨ab,1,B⟩) hsa (NK _ (by show w.heap.size<=ab;omega))).trans b1;have c2':=(hg7.but.cell (a:=⟨ab,2,B⟩) hsa (NK _ (by show w.heap.size<=ab;omega))).trans b2;have E7:w7.heap[w.heap.size+1]?=_:=(hg7.but.block _ hs1 (NK _ (by omega))).trans WK.out.ev;have hs7:w.heap.size+1<w7.heap.size:=kI hs1 hg7.but.size;obtain⟨⟨z0,z1,z2,z3,z4,z5⟩,zf⟩:=zp E7;have own:=qE (b:=b) (G:=X.G) hl hF7
   have FIN:H (∀Wf,But (fun x=>x=w.heap.size+1) w7 Wf->zo w b D X {X with S:=S',C:=X.C.set c ⟨Pg.rPut (X.C.getD c Pg.Cr.new).L ⟨kZ,0,rf,rr,⟨mp,ms,mf,mr⟩,rd⟩,K'⟩} Wf):=fun Wf hb=>by
    rw[HPU.out];refine⟨_,P7.keep hb (fun x hx e=> ?_),id,(WK.out.but.trans hg7.but (fun x hx e=>⟨c+5,hl,e⟩)).trans hb (fun x hx e=>by omega),fun x hx=> ?_⟩
    ·simp only[U]at hx
     rcases own x hx with h|h
     ·have:=HLT.out x h
      omega
     ·omega
    ·simp only[U]at hx
     exact(own x hx).imp id (fun h=>by omega)
   clear WK P7 hc7 hg7 hF7 HP HCC E7 NK own b0 b1 b2 l0 l1 l2 l3 l4
   go_wp2_with fail
   refine Z (v:=kO #[I J cd,kJ kZ,I J 0,I J rf,I J rr,kJ Q]) ?_ rfl ⟨rfl,FIN.out _ ?_⟩
   ·simp[results,Tryz.results13,go_sem,z0,z1,z2,z3,z4,z5,hs7]
   ·exact qB (But.refl (fun x=>x=w.heap.size+1) w7) _ (.inr rfl) _ _ _ _ _ _
theorem yeQ {b:Nat} {D:Rsd} {X:Pg.Spc} (x:Pg.Sx) (w:z) (h:Rsk w b D X) (hz:D.bz=X.busy):
 kV A 13 #[O (P ⟨b,0,B⟩),x.val] w fun e w'=>e=M (X.goE x).val/\zo w b D X (X.goN x) w':=by
 have still:∀{v:kX},kV A 13 #[O (P ⟨b,0,B⟩),x.val] w (fun e w'=>e=M v/\Below w.heap.size w w')->kV A 13 #[O (P ⟨b,0,B⟩),x.val] w fun e w'=>e=M v/\zo w b D X X w':=fun hc=>by
  refine hc.mono ?_;rintro e w' ⟨rfl,hb⟩;exact⟨rfl,.same h hb⟩
 unfold Pg.Spc.goE Pg.Spc.goN
 by_cases hk:1<=x.kind/\x.kind<=3
 ·rw[if_pos hk,if_pos hk]
  exact ycj x (by omega) w h hz
 ·rw[if_neg hk,if_neg hk]
  by_cases hk2:x.kind<1\/7<x.kind
  ·rw[if_pos hk2,if_pos hk2]
   exact still (yd0 x hk2 w h)
  ·rw[if_neg hk2,if_neg hk2]
   by_cases hr:x.core<0\/(X.C.length:Int)<=x.core
   ·rw[if_pos hr,if_pos hr]
    exact still (yc9 x (by omega) hr w h)
   ·rw[if_neg hr,if_neg hr]
    obtain⟨c,hc⟩:=Int.eq_ofNat_of_zero_le (show 0<=x.core by omega)
    have hl:c<X.C.length:=by omega
    have ea:X.at' x.core=X.C.getD c Pg.Cr.new:=by unfold Pg.Spc.at';rw[hc,Int.toNat_natCast]
    have et:x.core.toNat=c:=by rw[hc,Int.toNat_natCast]
    rw[ea,et]
    by_cases h4:x.kind=4
    ·rw[if_pos h4,if_pos h4]
     exact yci x h4 hc hl w h
    ·rw[if_neg h4,if_neg h4]
     by_cases h5:x.kind=5
     ·rw[if_pos h5,if_pos h5]
      exact rsDo_walk x h5 hc hl w h
     ·rw[if_neg h5,if_neg h5]
      by_cases h6:x.kind=6
      ·rw[if_pos h6,if_pos h6,hc]
       exact yeO x h6 hc hl w h
      ·rw[if_neg h6,if_neg h6]
       by_cases hL:(X.C.getD c Pg.Cr.new).L=[]
       ·rw[if_pos hL]
        have ev:(X.C.getD c Pg.Cr.new).yhc=X.C.getD c Pg.Cr.new:=by
         unfold Pg.Cr.yhc;rw[hL]
         show(⟨[],(X.C.getD c Pg.Cr.new).K⟩:Pg.Cr)=_
         rw[<-hL]
        rw[ev,Pg.set_same hl];exact still (yd1 x (by omega) hc hl hL w h)
       ·rw[if_neg hL]
        exact yc8 x (by omega) hc hl (List.length_pos_iff.2 hL) w h
theorem yeP {b:Nat} {X:Pg.Spc} {F:Nat->Prop} (x:Pg.Sx) (w:z) (h:ybH w b X F):
 kV A 13 #[O (P ⟨b,0,B⟩),x.val] w fun e w'=>e=M (X.goE x).val/\∃F',ybH w' b (X.goN x) F'/\But F w w'/\∀k,F' k->F k\/w.heap.size<=k:=by
 obtain⟨D,h,hz,rfl⟩:=h;refine(yeQ x w h hz).mono ?_;rintro e w' ⟨rfl,D',h1,h2,h3,h4⟩;exact⟨rfl,_,⟨D',h1,h2 hz,rfl⟩,h3,h4⟩
end
end Go.Proofs.YtdphiompijbelaaGreat
