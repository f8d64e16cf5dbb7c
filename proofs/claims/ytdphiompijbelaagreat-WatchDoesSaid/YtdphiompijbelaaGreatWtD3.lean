import Derived.Test.YtdphiompijbelaaGreatSpRefD
import Derived.Test.YtdphiompijbelaaGreatWtN
set_option linter.all false
set_option maxRecDepth 100000
open Int renaming toNat_natCast->yI
open Array renaming getElem?_eq_some_iff->uv
open Nat renaming lt_of_lt_of_le->kh,le_trans->yB
open List renaming length_set->kp,take_succ_cons->un,drop_succ_cons->ur,take_zero->ud,drop_zero->uc,getLast?_nil->yS
open Go.Ending renaming returned->ki
open Go.Proofs.Tryz renaming prog->z
open Go renaming World->A
open Go.World renaming frozen?_of_block->M,block_lt_of_cell?->H,cell?_of_block->ks,frozen?->ua,cell?->ue,ownsRow_nil->yP
open Go.Obj renaming cells->O
open Bool renaming false->P,true->yC
open Go.IntKind renaming i64->B,u64->yJ
open Go.Value renaming int->J,bool->Q,slice->Z,pointer->U,ownBlock->kO,agg->yR
open Option renaming none->I,some->N
set_option maxHeartbeats 2000000
namespace Go.Proofs.YtdphiompijbelaaGreat
open Go.RowKit Go.Sort
attribute [local go_sem] Loose.gent
theorem ycf {b:Nat} {D:Rsd} {X:Pg.Spc} (x:Pg.Sx) (hx:1<=x.kind/\x.kind<=3) (w:A) (h:Rsk w b D X) (hz:D.bz=X.busy):
 Calls z 55 #[U (N ⟨b,0,I⟩),x.val] w fun e w'=>e=ki (X.chE x).val/\zy w b D X (X.chN x) w':=by
 unfold Pg.Spc.chE Pg.Spc.chN;cases hb:X.busy
 ·simp only[Bool.false_eq_true,if_false]
  rw[hb]at hz
  by_cases h1:x.kind=1
  ·rw[if_pos h1,if_pos h1]
   exact ycg x h1 w h hz
  ·rw[if_neg h1,if_neg h1]
   by_cases h2:x.kind=2
   ·rw[if_pos h2,if_pos h2]
    exact yaC x h2 w h hz (fun e=>if_pos e) (fun e=>if_neg e)
   ·rw[if_neg h2,if_neg h2]
    exact vr x (by omega) w h hz (fun e=>if_pos e) (fun e=>if_neg e)
 ·simp only[if_true]
  refine(yby x w h (hz.trans hb)).mono ?_;rintro e w' ⟨rfl,rR⟩;exact⟨rfl,.same h rR⟩
theorem zy.behind {w W W' Wf:A} {b:Nat} {D:Rsd} {X X':Pg.Spc} {Y:Nat->Prop} (hB:Below w.heap.size w W) (h:zy W b D X X' W') (lt:∀x,rsF D b X.C.length X.G x->x<w.heap.size) (hY:∀x,Y x->w.heap.size<=x/\x<W.heap.size) (hb:But Y W' Wf):zy w b D X X' Wf:=by
 obtain⟨D',h1,h2,h3,h4⟩:=h;refine⟨D',h1.keep hb (fun x hx hy=> ?_),h2,((But.yhp hB).trans h3 (fun _ _ h=>h)).trans hb (fun x hx hy=>by have:=hY x hy;omega),fun x hx=>(h4 x hx).imp id (fun h=>by have:=hB.size;omega)⟩;have:=hY x hy;rcases h4 x hx with h|h
 ·have:=lt x h
  omega
 ·omega
theorem yc5 {b:Nat} {D:Rsd} {X:Pg.Spc} (x:Pg.Sx) (hx:x.kind=1\/x.kind=2\/x.kind=3) (w:A) (h:Rsk w b D X) (hz:D.bz=X.busy):
 Calls z 13 #[U (N ⟨b,0,I⟩),x.val] w fun e w'=>e=ki (X.chE x).val/\zy w b D X (X.chN x) w':=by
 obtain⟨W,hW⟩:∃W,W=chW w x:=⟨_,rfl⟩
 have CW:Hid (ChW w W x):=by rw[hW];exact xM w x
 have LT:Hid (∀x,rsF D b X.C.length X.G x->x<w.heap.size):=fun x ⟨i,hx⟩=>h.lt hx;have HC:=ycf x (by omega) W (h.grow CW.out.bel) hz
 have rU:w.heap.size+1<W.heap.size:=by rw[CW.out.size];omega
 obtain⟨x0,x1,x2,x3,x4,x5,x6,x7,x8⟩:=(⟨CW.out.x0,CW.out.x1,CW.out.x2,CW.out.x3,CW.out.x4,CW.out.x5,CW.out.x6,CW.out.x7,CW.out.x8⟩:_/\_/\_/\_/\_/\_/\_/\_/\_);clear h hz;generalize hE:X.chE x=E at*;generalize hN:X.chN x=X' at*;clear hE hN;obtain⟨kd,co,⟨p,s,f,r⟩,q,k,u⟩:=x;simp only[chW,Pg.Sx.val]at hW HC hx x0 x1 x2 x3 x4 x5 x6 x7 x8 ⊢;obtain⟨ec,en,ea,ef,er,eb⟩:=E;simp only[Pg.Ev.val]at HC ⊢;rcases hx with rfl|rfl|rfl
 all_goals
  go_enter Tryz.func13,Tryz.ntmps13
  go_upto_region 1 with fail
  rw[<-hW];clear hW
  go_wp2_with fail
  refine HC.mono ?_;rintro e w1 ⟨rfl,hR⟩;have Ni:=hR;obtain⟨D',hp,_,Ha,tO⟩:=Ni
  have NE:¬rsF D b X.C.length X.G (w.heap.size+1):=fun e=>by have:=LT.out _ e;omega
  have E1:w1.heap[w.heap.size+1]?=_:=(Ha.block _ rU NE).trans CW.out.ev;have rQ:w.heap.size+1<w1.heap.size:=kh rU Ha.size;obtain⟨⟨z0,z1,z2,z3,z4,z5⟩,zf⟩:=zG E1;have FIN:Hid (∀Wf,But (fun x=>x=w.heap.size+1) w1 Wf->zy w b D X X' Wf):=fun Wf hb=>hR.behind CW.out.bel LT.out (fun x e=>⟨by omega,by omega⟩) hb;clear hR hp Ha tO NE E1 HC x0 x1 x2 x3 x4 x5 x6 x7 x8 CW
  go_wp2_with fail
  refine bodyPost_ret (v:=yR #[J B ec,Q en,J B ea,J B ef,J B er,Q eb]) ?_ rfl ⟨rfl,FIN.out _ ?_⟩
  ·simp[results,Tryz.results13,go_sem,z0,z1,z2,z3,z4,z5,rQ]
  ·exact qJ (But.refl (fun x=>x=w.heap.size+1) w1) _ (.inr rfl) _ _ _ _ _ _
theorem ye0 {b:Nat} {D:Rsd} {X:Pg.Spc} (x:Pg.Sx) (hx:x.kind<1\/7<x.kind) (w:A) (h:Rsk w b D X):
 Calls z 13 #[U (N ⟨b,0,I⟩),x.val] w fun e w'=>e=ki (Pg.Ev.code 2).val/\Below w.heap.size w w':=by
 obtain⟨W,hW⟩:∃W,W=chW w x:=⟨_,rfl⟩
 have CW:Hid (ChW w W x):=by rw[hW];exact xM w x
 have rU:w.heap.size+1<W.heap.size:=by rw[CW.out.size];omega
 have x0:=CW.out.x0;obtain⟨⟨z0,z1,z2,z3,z4,z5⟩,zf⟩:=zG CW.out.ev;clear h;obtain⟨kd,co,⟨p,s,f,r⟩,q,k,u⟩:=x;simp only[chW,Pg.Sx.val]at hW hx x0 ⊢
 have k1:(kd==1)=P:=by simp;omega
 have k2:(kd==2)=P:=by simp;omega
 have k3:(kd==3)=P:=by simp;omega
 rcases hx with hx|hx
 ·have k4:decide (kd<1)=yC:=by simpa using hx
  go_enter Tryz.func13,Tryz.ntmps13
  go_upto_region 1 with fail
  rw[<-hW];clear hW
  go_wp2_with fail
  refine bodyPost_ret (v:=(Pg.Ev.code 2).val) ?_ rfl ⟨rfl,?_⟩
  ·simp[results,Tryz.results13,go_sem,z0,z1,z2,z3,z4,z5,rU,Pg.Ev.val,Pg.Ev.code]
  ·exact vo CW.out.bel _ (by omega) _ _ _ _ _ _
 ·have k4:decide (kd<1)=P:=by simp;omega
  have k5:decide (7<kd)=yC:=by simpa using hx
  go_enter Tryz.func13,Tryz.ntmps13
  go_upto_region 1 with fail
  rw[<-hW];clear hW
  go_wp2_with fail
  refine bodyPost_ret (v:=(Pg.Ev.code 2).val) ?_ rfl ⟨rfl,?_⟩
  ·simp[results,Tryz.results13,go_sem,z0,z1,z2,z3,z4,z5,rU,Pg.Ev.val,Pg.Ev.code]
  ·exact vo CW.out.bel _ (by omega) _ _ _ _ _ _
theorem yd9 {b:Nat} {D:Rsd} {X:Pg.Spc} (x:Pg.Sx) (hx:4<=x.kind/\x.kind<=7) (hc:x.core<0\/(X.C.length:Int)<=x.core) (w:A) (h:Rsk w b D X):
 Calls z 13 #[U (N ⟨b,0,I⟩),x.val] w fun e w'=>e=ki (Pg.Ev.code 1).val/\Below w.heap.size w w':=by
 obtain⟨W,hW⟩:∃W,W=chW w x:=⟨_,rfl⟩
 have CW:Hid (ChW w W x):=by rw[hW];exact xM w x
 have rU:w.heap.size+1<W.heap.size:=by rw[CW.out.size];omega
 have x0:=CW.out.x0;have x1:=CW.out.x1;have c2:=(h.grow CW.out.bel).c2;obtain⟨⟨z0,z1,z2,z3,z4,z5⟩,zf⟩:=zG CW.out.ev;clear h;obtain⟨kd,co,⟨p,s,f,r⟩,q,k,u⟩:=x;simp only[chW,Pg.Sx.val]at hW hx hc x0 x1 ⊢
 have k1:(kd==1)=P:=by simp;omega
 have k2:(kd==2)=P:=by simp;omega
 have k3:(kd==3)=P:=by simp;omega
 have k4:decide (kd<1)=P:=by simp;omega
 have k5:decide (7<kd)=P:=by simp;omega
 by_cases rT:co<0
 ·have k6:decide (co<0)=yC:=by simpa using rT
  go_enter Tryz.func13,Tryz.ntmps13
  go_upto_region 1 with fail
  rw[<-hW];clear hW
  go_wp2_with fail
  go_region
  go_wp2_with fail
  refine bodyPost_ret (v:=(Pg.Ev.code 1).val) ?_ rfl ⟨rfl,?_⟩
  ·simp[results,Tryz.results13,go_sem,z0,z1,z2,z3,z4,z5,rU,Pg.Ev.val,Pg.Ev.code]
  ·exact(vo CW.out.bel _ (by omega) _ _ _ _ _ _).drew
 ·have k6:decide (co<0)=P:=by simpa using rT
  have rO:(X.C.length:Int)<=co:=by omega
  have k7:decide ((X.C.length:Int)<=co)=yC:=by simpa using rO
  go_enter Tryz.func13,Tryz.ntmps13
  go_upto_region 1 with fail
  rw[<-hW];clear hW
  go_wp2_with fail
  go_region
  go_wp2_with fail
  refine bodyPost_ret (v:=(Pg.Ev.code 1).val) ?_ rfl ⟨rfl,?_⟩
  ·simp[results,Tryz.results13,go_sem,z0,z1,z2,z3,z4,z5,rU,Pg.Ev.val,Pg.Ev.code]
  ·exact(vo CW.out.bel _ (by omega) _ _ _ _ _ _).drew
structure StW (w W:A) (b:Nat) (D:Rsd) (X:Pg.Spc) (x:Pg.Sx):Prop where
 bel:Below w.heap.size w W
 rs:Rsk W b D X
 size:w.heap.size+1<W.heap.size
 lt:∀y,rsF D b X.C.length X.G y->y<w.heap.size
 x0:W.cell? ⟨w.heap.size,0,I⟩=N (J B x.kind)
 x1:W.cell? ⟨w.heap.size,1,I⟩=N (J B x.core)
 x6:W.cell? ⟨w.heap.size,6,I⟩=N (J B x.q)
 x7:W.cell? ⟨w.heap.size,7,I⟩=N (J B x.k)
 x8:W.cell? ⟨w.heap.size,8,I⟩=N (Q x.u)
 ev:W.heap[w.heap.size+1]?=N (O #[J B 0,Q P,J B 0,J B 0,J B 0,Q P] 36 (0,0))
theorem StW.begun {w:A} {b:Nat} {D:Rsd} {X:Pg.Spc} (h:Rsk w b D X) (x:Pg.Sx):StW w (chW w x) b D X x:=by
 have c:=xM w x;exact⟨c.bel,h.grow c.bel,by rw[c.size];omega,fun y ⟨i,hy⟩=>h.lt hy,c.x0,c.x1,c.x6,c.x7,c.x8,c.ev⟩
theorem StW.grow {w W W':A} {b:Nat} {D:Rsd} {X:Pg.Spc} {x:Pg.Sx} (h:StW w W b D X x) (hb:Below W.heap.size W W'):StW w W' b D X x:=by
 have hs:=h.size
 have hx:w.heap.size<W.heap.size:=by omega
 exact⟨zT h.bel hb,h.rs.grow hb,kh hs hb.size,h.lt,(hb.cell (p:=⟨w.heap.size,0,I⟩) hx).trans h.x0,(hb.cell (p:=⟨w.heap.size,1,I⟩) hx).trans h.x1,(hb.cell (p:=⟨w.heap.size,6,I⟩) hx).trans h.x6,(hb.cell (p:=⟨w.heap.size,7,I⟩) hx).trans h.x7,(hb.cell (p:=⟨w.heap.size,8,I⟩) hx).trans h.x8,(hb.block _ hs).trans h.ev⟩
theorem yfL {b:Nat} {D:Rsd} {X:Pg.Spc} {c:Nat} (x:Pg.Sx) (hx:x.kind=6) (hc:x.core=(c:Int)) (hl:c<X.C.length) (w:A) (h:Rsk w b D X):
 Calls z 13 #[U (N ⟨b,0,I⟩),x.val] w fun e w'=>e=ki (X.akE c).val/\zy w b D X (X.akN c) w':=by
 obtain⟨W,hW⟩:∃W,W=chW w x:=⟨_,rfl⟩
 have SW:Hid (StW w W b D X x):=by rw[hW];exact .begun h x
 have x0:=SW.out.x0;have x1:=SW.out.x1;have c2:=SW.out.rs.c2;have HA:=fun w' (h:Rsk w' b D X)=>yeZ hl w' h;clear h;generalize X.akE c=E at*;generalize X.akN c=X' at*;obtain⟨kd,co,⟨p,s,f,r⟩,q,k,u⟩:=x;simp only at hx hc;subst hx hc;simp only[chW,Pg.Sx.val]at hW x0 x1 ⊢;obtain⟨ec,en,ea,ef,er,eb⟩:=E;simp only[Pg.Ev.val]at HA ⊢
 have i0:(0:Int)<=(c:Int):=by omega
 have i1:(c:Int)<(X.C.length:Int):=by omega
 have k6:decide ((c:Int)<0)=P:=by simp
 have k7:decide ((X.C.length:Int)<=(c:Int))=P:=by simp;omega
 go_enter Tryz.func13,Tryz.ntmps13
 go_upto_region 1 with fail
 rw[<-hW];clear hW
 go_wp2_with fail
 go_region
 go_upto_region 7 with fail
 have S5:Hid _:=SW.out.grow (zR W).drew;clear x0 x1 c2 SW;generalize W.drew=W5 at*;have g2:=cell_regrown S5.out.rs.c2;have gc:=cell_regrown (S5.out.rs.row c hl);have y1:=cell_regrown S5.out.x1;simp only at y1;refine Loose.yhr 8 (by kernel_rfl) (by kernel_rfl) ?_;simp only[un,ud,ur,uc]
 repeat (
  refine Loose.zS (fun k hk=> ?_)
  go_simp
  (refine hk _ ?_;clear hk k))
 refine Loose.yhs ?_;intro w3 He;have S3:Hid _:=S5.out.grow He;clear He g2 gc y1 S5;have x0:=S3.out.x0;have x1:=S3.out.x1;simp only at x0 x1;have HA:=HA w3 S3.out.rs
 go_wp2_with fail
 refine HA.mono ?_;rintro e w4 ⟨rfl,hR⟩;have Ni:=hR;obtain⟨D',hp,_,Ha,tO⟩:=Ni;have dW:=S3.out.size
 have NE:¬rsF D b X.C.length X.G (w.heap.size+1):=fun e=>by have:=S3.out.lt _ e;omega
 have E1:w4.heap[w.heap.size+1]?=_:=(Ha.block _ dW NE).trans S3.out.ev;have rQ:w.heap.size+1<w4.heap.size:=kh dW Ha.size;obtain⟨⟨z0,z1,z2,z3,z4,z5⟩,zf⟩:=zG E1;have FIN:Hid (∀Wf,But (fun x=>x=w.heap.size+1) w4 Wf->zy w b D X X' Wf):=fun Wf hb=>hR.behind S3.out.bel S3.out.lt (fun x e=>⟨by omega,by omega⟩) hb;clear hR hp Ha tO NE E1 HA x0 x1 S3
 go_wp2_with fail
 refine bodyPost_ret (v:=yR #[J B ec,Q en,J B ea,J B ef,J B er,Q eb]) ?_ rfl ⟨rfl,FIN.out _ ?_⟩
 ·simp[results,Tryz.results13,go_sem,z0,z1,z2,z3,z4,z5,rQ]
 ·exact qJ (But.refl (fun x=>x=w.heap.size+1) w4) _ (.inr rfl) _ _ _ _ _ _
theorem ye1 {b:Nat} {D:Rsd} {X:Pg.Spc} {c:Nat} (x:Pg.Sx) (hx:x.kind=7) (hc:x.core=(c:Int)) (hl:c<X.C.length) (hL:(X.C.getD c Pg.Cr.new).L=[]) (w:A) (h:Rsk w b D X):
 Calls z 13 #[U (N ⟨b,0,I⟩),x.val] w fun e w'=>e=ki (Pg.Ev.code 9).val/\Below w.heap.size w w':=by
 obtain⟨W,hW⟩:∃W,W=chW w x:=⟨_,rfl⟩
 have SW:Hid (StW w W b D X x):=by rw[hW];exact .begun h x
 have x0:=SW.out.x0;have x1:=SW.out.x1;have c2:=SW.out.rs.c2;clear h;obtain⟨kd,co,⟨p,s,f,r⟩,q,k,u⟩:=x;simp only at hx hc;subst hx hc;simp only[chW,Pg.Sx.val]at hW x0 x1 ⊢
 have i0:(0:Int)<=(c:Int):=by omega
 have i1:(c:Int)<(X.C.length:Int):=by omega
 have k6:decide ((c:Int)<0)=P:=by simp
 have k7:decide ((X.C.length:Int)<=(c:Int))=P:=by simp;omega
 go_enter Tryz.func13,Tryz.ntmps13
 go_upto_region 1 with fail
 rw[<-hW];clear hW
 go_wp2_with fail
 go_region
 go_upto_region 7 with fail
 have S5:Hid _:=SW.out.grow (zR W).drew;clear x0 x1 c2 SW;generalize W.drew=W5 at*;have g2:=cell_regrown S5.out.rs.c2;have gc:=cell_regrown (S5.out.rs.row c hl);have y1:=cell_regrown S5.out.x1;simp only at y1;refine Loose.yhr 8 (by kernel_rfl) (by kernel_rfl) ?_;simp only[un,ud,ur,uc]
 repeat (
  refine Loose.zS (fun k hk=> ?_)
  go_simp
  (refine hk _ ?_;clear hk k))
 refine Loose.yhs ?_;intro w3 He;have S3:Hid _:=S5.out.grow He;clear He g2 gc y1 S5;have x0:=S3.out.x0;have x1:=S3.out.x1;simp only at x0 x1;have hk:=(S3.out.rs.core c hl).co;rw[hL]at hk;obtain⟨ad,cap,hv⟩:=hk.row.form;have k0:=hk.c0;rw[hv]at k0;simp only[List.length_nil]at k0;have dW:=S3.out.size;obtain⟨⟨z0,z1,z2,z3,z4,z5⟩,zf⟩:=zG S3.out.ev;have HB:Hid _:=S3.out.bel;clear hk hv S3
 go_wp2_with fail
 refine bodyPost_ret (v:=(Pg.Ev.code 9).val) ?_ rfl ⟨rfl,?_⟩
 ·simp[results,Tryz.results13,go_sem,z0,z1,z2,z3,z4,z5,dW,Pg.Ev.val,Pg.Ev.code]
 ·exact vo HB.out _ (by omega) _ _ _ _ _ _
theorem yd8 {b:Nat} {D:Rsd} {X:Pg.Spc} {c:Nat} (x:Pg.Sx) (hx:x.kind=7) (hc:x.core=(c:Int)) (hl:c<X.C.length) (hL:0<(X.C.getD c Pg.Cr.new).L.length) (w:A) (h:Rsk w b D X):
 Calls z 13 #[U (N ⟨b,0,I⟩),x.val] w fun e w'=>e=ki (Pg.Ev.code 0).val/\zy w b D X {X with C:=X.C.set c (X.C.getD c Pg.Cr.new).yig} w':=by
 obtain⟨W,hW⟩:∃W,W=chW w x:=⟨_,rfl⟩
 have SW:Hid (StW w W b D X x):=by rw[hW];exact .begun h x
 have x0:=SW.out.x0;have x1:=SW.out.x1;have c2:=SW.out.rs.c2;clear h;obtain⟨kd,co,⟨p,s,f,r⟩,q,k,u⟩:=x;simp only at hx hc;subst hx hc;simp only[chW,Pg.Sx.val]at hW x0 x1 ⊢
 have i0:(0:Int)<=(c:Int):=by omega
 have i1:(c:Int)<(X.C.length:Int):=by omega
 have k6:decide ((c:Int)<0)=P:=by simp
 have k7:decide ((X.C.length:Int)<=(c:Int))=P:=by simp;omega
 go_enter Tryz.func13,Tryz.ntmps13
 go_upto_region 1 with fail
 rw[<-hW];clear hW
 go_wp2_with fail
 go_region
 go_upto_region 7 with fail
 have S5:Hid _:=SW.out.grow (zR W).drew;clear x0 x1 c2 SW;generalize W.drew=W5 at*;have g2:=cell_regrown S5.out.rs.c2;have gc:=cell_regrown (S5.out.rs.row c hl);have y1:=cell_regrown S5.out.x1;simp only at y1;refine Loose.yhr 8 (by kernel_rfl) (by kernel_rfl) ?_;simp only[un,ud,ur,uc]
 repeat (
  refine Loose.zS (fun k hk=> ?_)
  go_simp
  (refine hk _ ?_;clear hk k))
 refine Loose.yhs ?_;intro w3 He;have S3:Hid _:=S5.out.grow He;clear He g2 gc y1 S5;have x0:=S3.out.x0;have x1:=S3.out.x1;simp only at x0 x1;have hk:=S3.out.rs.core c hl;obtain⟨g,o,dN,e,hg,lW,RA⟩:=hk.co.row.shape hL;have c0:=hk.co.c0;have cf:=hk.co.fb 0;have rY:=hk.lb;rw[e]at c0;have TP:=hk.co;rw[e]at TP;have Hg:=hk.co.kept.le;have dW:=S3.out.size
 have d0:((((X.C.getD c Pg.Cr.new).L.length:Nat):Int)==0)=P:=by rw[beq_eq_false_iff_ne];omega
 have j1:(1:Int)<=((X.C.getD c Pg.Cr.new).L.length:Int):=by omega
 have j3:dN<=9223372036854775807:=by unfold maxLen at RA;omega
 have Bb:Hid (∀Wf o',o'=o+5\/(dN=1/\o'=o)->But (fun x=>x=w.heap.size+1) (w3.setCell ⟨D.cb c,0,I⟩ (Z (N ⟨g,o',I⟩) ((X.C.getD c Pg.Cr.new).L.length-1) (dN-1))) Wf->zy w b D X {X with C:=X.C.set c (X.C.getD c Pg.Cr.new).yig} Wf):=fun Wf o' ho hb=>by
  obtain⟨e1,e2,e3⟩:=TP.yig hL ho;rw[<-e]at e2 e3;have P4:=S3.out.rs.asked hl (hk.ylI e1 e2) e2.but e3
  have hR:zy w3 b D X {X with C:=X.C.set c (X.C.getD c Pg.Cr.new).yig} (w3.setCell ⟨D.cb c,0,I⟩ (Z (N ⟨g,o',I⟩) ((X.C.getD c Pg.Cr.new).L.length-1) (dN-1))):=by
   refine⟨_,P4,id,e2.but.mono (fun x _ hx=>⟨c+5,hl,hx⟩),fun x hx=> ?_⟩;have hn:(X.C.set c (X.C.getD c Pg.Cr.new).yig).length=X.C.length:=kp;simp only[hn]at hx;exact qS hl e3 x hx
  exact hR.behind S3.out.bel S3.out.lt (fun x e=>⟨by omega,by omega⟩) hb
 have gm:D.cb c≠w.heap.size+1:=fun e=>by have:=S3.out.lt _ ⟨c+5,hl,.inl rfl⟩;omega
 have FW:w.heap.size+1≠D.cb c:=fun e=>gm e.symm;obtain⟨⟨z0,z1,z2,z3,z4,z5⟩,zf⟩:=zG S3.out.ev
 have dH:(dN=1/\∃o',o'=o)\/(¬dN=1/\∃o',o'=o+5):=by
  by_cases hc:dN=1
  ·exact .inl ⟨hc,_,rfl⟩
  ·exact .inr ⟨hc,_,rfl⟩
 clear hk TP S3 hg RA e;generalize (X.C.getD c Pg.Cr.new).L.length=n at*;rcases dH with ⟨hc,o',tZ⟩|⟨hc,o',tZ⟩
 ·subst hc tZ
  have FIN:Hid (∀Wf,But (fun x=>x=w.heap.size+1) (w3.setCell ⟨D.cb c,0,I⟩ (Z (N ⟨g,o',I⟩) 0 0)) Wf->zy w b D X {X with C:=X.C.set c (X.C.getD c Pg.Cr.new).yig} Wf):=fun Wf hb=>Bb.out Wf o' (.inr ⟨rfl,rfl⟩) (by rw[show n-1=0 by omega];exact hb);clear Bb
  go_wp2_with fail
  refine bodyPost_ret (v:=(Pg.Ev.code 0).val) ?_ rfl ⟨rfl,FIN.out _ ?_⟩
  ·simp[results,Tryz.results13,go_sem,z0,z1,z2,z3,z4,z5,dW,gm,FW,Pg.Ev.val,Pg.Ev.code]
  ·exact qJ (But.refl (fun x=>x=w.heap.size+1) (w3.setCell ⟨D.cb c,0,I⟩ (Z (N ⟨g,o',I⟩) 0 0))) _ (.inr rfl) _ _ _ _ _ _
 ·subst tZ
  have FIN:Hid (∀Wf,But (fun x=>x=w.heap.size+1) (w3.setCell ⟨D.cb c,0,I⟩ (Z (N ⟨g,o+5,I⟩) (n-1) (dN-1))) Wf->zy w b D X {X with C:=X.C.set c (X.C.getD c Pg.Cr.new).yig} Wf):=fun Wf hb=>Bb.out Wf (o+5) (.inl rfl) hb;clear Bb
  go_wp2_with fail
  refine bodyPost_ret (v:=(Pg.Ev.code 0).val) ?_ rfl ⟨rfl,FIN.out _ ?_⟩
  ·simp[results,Tryz.results13,go_sem,z0,z1,z2,z3,z4,z5,dW,gm,FW,Pg.Ev.val,Pg.Ev.code]
  ·exact qJ (But.refl (fun x=>x=w.heap.size+1) (w3.setCell ⟨D.cb c,0,I⟩ (Z (N ⟨g,o+5,I⟩) (n-1) (dN-1)))) _ (.inr rfl) _ _ _ _ _ _
theorem yfJ {w:A} {r:Nat} {v0 v1 v2:Value} {t:TypeId} (h:w.heap[r]?=N (O #[v0,v1,v2] t (0,0))):
 (w.cell? ⟨r,0,I⟩=N v0/\w.cell? ⟨r,1,I⟩=N v1/\w.cell? ⟨r,2,I⟩=N v2)/\∀i,w.frozen? ⟨r,i,I⟩=P:=
 ⟨by simp[ue,h],fun i=>by simp[ua,h]⟩
theorem ybH {w3 w4:A} {F:Nat->Prop} {ob:Obj} (hb:But F (w3.alloc ob).drew w4) (hn:¬F w3.heap.size):w4.heap[w3.heap.size]?=(w3.alloc ob).heap[w3.heap.size]?:=hb.block w3.heap.size (by simp) hn
theorem jf {w3 V w4:A} {F:Nat->Prop} {a:Addr} {v:Value} (hb:But F V w4) (hV:Below w3.heap.size w3 V) (hl:a.block<w3.heap.size) (hn:¬F a.block) (h:w3.cell? a=N v):w4.cell? a=N v:=(hb.cell (kh hl hV.size) hn).trans ((hV.cell hl).trans h)
theorem StW.asked {w w3 V w4 Wa:A} {b c:Nat} {D:Rsd} {X:Pg.Spc} {x:Pg.Sx} {C':Pg.Cr} {v':Value} {Y:Nat->Prop} (S:StW w w3 b D X x) (hl:c<X.C.length) (hV:Below w3.heap.size w3 V) (hc:jp w4 (D.cb c) v' C') (hb:But (bkF (D.cb c) (D.cv c)) V w4) (hF:∀x,bkF (D.cb c) v' x->bkF (D.cb c) (D.cv c) x\/V.heap.size<=x) (rJ:But Y w4 Wa) (hY:∀j,Y j->w3.heap.size<=j/\¬(V.heap.size<=j/\j<w4.heap.size)):
 (∀Wf,But (fun j=>j=w.heap.size+1) Wa Wf->zy w b D X {X with C:=X.C.set c C'} Wf)/\Wa.heap[w.heap.size+1]?=N (O #[J B 0,Q P,J B 0,J B 0,J B 0,Q P] 36 (0,0))/\w.heap.size+1<Wa.heap.size:=by
 have hs:=S.size;have Kh:=hV.size;have pF:=hb.size;have P4:=(S.rs.grow hV).asked hl hc hb hF;have hn:(X.C.set c C').length=X.C.length:=kp;have own:∀x,rsF {D with cv:=fun j=>if j=c then v' else D.cv j} b X.C.length X.G x->rsF D b X.C.length X.G x\/V.heap.size<=x:=qS hl hF;refine⟨fun Wf hf=> ?_,?_,kh (by omega) rJ.size⟩
 ·have hW:But (fun j=>Y j\/j=w.heap.size+1) w4 Wf:=(rJ.mono (fun _ _ h=> .inl h)).trans hf (fun _ _ h=> .inr h)
  have Oa:∀j,(Y j\/j=w.heap.size+1)->w.heap.size<=j/\¬(V.heap.size<=j/\j<w4.heap.size):=fun j hj=>by
   rcases hj with hj|hj
   ·have:=hY j hj
    omega
   ·omega
  refine⟨_,P4.keep hW (fun x hx hy=> ?_),id,((But.yhp (zT S.bel hV)).trans hb (fun x _ h=>⟨c+5,hl,h⟩)).trans hW (fun x hx hy=>by have:=Oa x hy;omega),fun x hx=> ?_⟩
  ·obtain⟨i,hi⟩:=hx
   have h4:=P4.lt hi;simp only[hn]at hi;have:=Oa x hy;rcases own x ⟨i,hi⟩with h|h
   ·have:=S.lt x h
    omega
   ·omega
  ·simp only[hn]at hx
   exact(own x hx).imp id (fun h=>by have:=S.bel.size;omega)
 ·refine(rJ.block _ (by omega) (fun hy=>by have:=hY _ hy;omega)).trans ((hb.block _ (by omega) (fun hy=> ?_)).trans ((hV.block _ hs).trans S.ev))
  have:=S.lt _ ⟨c+5,hl,hy⟩;omega
theorem yc4 {b:Nat} {D:Rsd} {X:Pg.Spc} {c:Nat} (x:Pg.Sx) (hx:x.kind=4) (hc:x.core=(c:Int)) (hl:c<X.C.length) (w:A) (h:Rsk w b D X):
 Calls z 13 #[U (N ⟨b,0,I⟩),x.val] w fun e w'=>e=ki ((X.C.getD c Pg.Cr.new).bgT x.q x.k x.u).ev.val/\zy w b D X {X with C:=X.C.set c ((X.C.getD c Pg.Cr.new).bgN 0 x.q x.k x.u)} w':=by
 obtain⟨W,hW⟩:∃W,W=chW w x:=⟨_,rfl⟩
 have SW:Hid (StW w W b D X x):=by rw[hW];exact .begun h x
 have x0:=SW.out.x0;have x1:=SW.out.x1;have c2:=SW.out.rs.c2;clear h;obtain⟨kd,co,⟨p,s,f,r⟩,q,k,u⟩:=x;simp only at hx hc;subst hx hc;have gG:=fun w' (h:jp w' (D.cb c) (D.cv c) (X.C.getD c Pg.Cr.new))=>ycA (root:=0) q k u w' h;simp only[chW,Pg.Sx.val]at hW x0 x1 ⊢
 have i0:(0:Int)<=(c:Int):=by omega
 have i1:(c:Int)<(X.C.length:Int):=by omega
 have k6:decide ((c:Int)<0)=P:=by simp
 have k7:decide ((X.C.length:Int)<=(c:Int))=P:=by simp;omega
 generalize hT:(X.C.getD c Pg.Cr.new).bgT q k u=T at*;generalize aW:(X.C.getD c Pg.Cr.new).bgN 0 q k u=C' at*;clear hT aW;obtain⟨ta,tf,tr,te,tc⟩:=T;simp only[Pg.Tl.val,Pg.Tl.ev,Pg.Ev.val]at gG ⊢
 go_enter Tryz.func13,Tryz.ntmps13
 go_upto_region 1 with fail
 rw[<-hW];clear hW
 go_wp2_with fail
 go_region
 go_upto_region 7 with fail
 have S5:Hid _:=SW.out.grow (zR W).drew;clear x0 x1 c2 SW;generalize W.drew=W5 at*;have g2:=cell_regrown S5.out.rs.c2;have gc:=cell_regrown (S5.out.rs.row c hl);have y1:=cell_regrown S5.out.x1;simp only at y1;refine Loose.yhr 8 (by kernel_rfl) (by kernel_rfl) ?_;simp only[un,ud,ur,uc]
 repeat (
  refine Loose.zS (fun k hk=> ?_)
  go_simp
  (refine hk _ ?_;clear hk k))
 refine Loose.yhs ?_;intro w3 He;have S3:Hid _:=S5.out.grow He;clear He g2 gc y1 S5;have x0:=S3.out.x0;simp only at x0
 go_upto_region 10 with fail
 clear x0;have c1:=S3.out.rs.c1;have y6:=S3.out.x6;have y7:=S3.out.x7;have y8:=S3.out.x8;simp only at y6 y7 y8;have dW:=S3.out.size;have rR:b<w.heap.size:=S3.out.lt b ⟨0,rfl⟩
 have He:b<w3.heap.size:=by omega
 have nY:w.heap.size<w3.heap.size:=by omega
 have gW:D.cb c<w.heap.size:=S3.out.lt _ ⟨c+5,hl,.inl rfl⟩;have nb:b≠D.cb c:=S3.out.rs.ne (i:=0) (j:=c+5) rfl ⟨hl,.inl rfl⟩ (by omega)
 have n3:¬(w3.heap.size=D.cb c):=by omega
 have nx:¬(w.heap.size=D.cb c):=by omega
 have m3:b≠w3.heap.size:=by omega
 have m4:w.heap.size≠w3.heap.size:=by omega
 have m5:w3.heap.size≠b:=by omega
 have m6:w3.heap.size≠w.heap.size:=by omega
 go_region_held3 (fun w'=>w'.cell? ⟨b,1,I⟩=N (J B 0)/\w'.cell? ⟨w.heap.size,6,I⟩=N (J B q)/\w'.cell? ⟨w.heap.size,7,I⟩=N (J B k)/\w'.cell? ⟨w.heap.size,8,I⟩=N (Q u)) (go_keep) (
  (go_at_call 56;refine(gG _ ((S3.out.rs.core c hl).grow (by first|exact(zA (zR w3) _).drew|exact zA (zR w3) _|exact(zR w3).drew|exact zR w3))).mono ?_;rintro en w4 ⟨rfl,dD,Hl⟩
   have Rc:Hid _:=dD;have rM:Hid _:=Hl;have u1:=jf Hl (by first|exact(zA (zR w3) _).drew|exact zA (zR w3) _|exact(zR w3).drew|exact zR w3) He nb c1;have u6:=jf Hl (by first|exact(zA (zR w3) _).drew|exact zA (zR w3) _|exact(zR w3).drew|exact zR w3) nY nx y6;have u7:=jf Hl (by first|exact(zA (zR w3) _).drew|exact zA (zR w3) _|exact(zR w3).drew|exact zR w3) nY nx y7;have u8:=jf Hl (by first|exact(zA (zR w3) _).drew|exact zA (zR w3) _|exact(zR w3).drew|exact zR w3) nY nx y8;have ub:b<w4.heap.size:=H _ _ u1;have ux:w.heap.size<w4.heap.size:=H _ _ u6
   have oD:b≠w4.heap.size:=by omega
   have wZ:w.heap.size≠w4.heap.size:=by omega
   first
    | (have hA:But (fun j=>j=D.cb c) w3.drew w4:=Hl;clear hA)
    | (have tK:w4.heap[w3.heap.size]?=N (O #[J B 0,J B 0,J B 0] 34 (0,0)):=(ybH Hl n3).trans (heap_alloc_new w3 (O #[J B 0,J B 0,J B 0] 34))
       have pF:w3.heap.size<w4.heap.size:=(uv.1 tK).1
       obtain⟨⟨a0,a1,a2⟩,af⟩:=yfJ tK)
   clear dD Hl))
 ·obtain⟨Wa,rJ⟩:∃Wa,Wa=w4.alloc (O #[J B ta,J B tf,J B tr] 34):=⟨_,rfl⟩
  rw[<-rJ]
  have rR:Wa.heap[w4.heap.size]?=N (O #[J B ta,J B tf,J B tr] 34 (0,0)):=by rw[rJ];exact heap_alloc_new _ _
  have FA:Hid _:=S3.out.asked hl ((zR w3).drew) Rc.out (rM.out.mono fun _ _ h=> .inl h) (fun x hx=> .inl hx) (Wa:=Wa) (Y:=fun j=>False) (by rw[rJ];exact But.yhp (zA (zR w4) _)) (fun j hj=>hj.elim)
  have Ho:w4.heap.size≠w.heap.size+1:=by have:=rM.out.size;simp at this;omega
  have RG:w4.heap.size<Wa.heap.size:=by rw[rJ];simp
  generalize w4.heap.size=ab at*;obtain⟨⟨b0,b1,b2⟩,bf⟩:=yfJ rR;clear rR;have rQ:=FA.out.2.2;obtain⟨⟨z0,z1,z2,z3,z4,z5⟩,zf⟩:=zG FA.out.2.1;have FIN:Hid _:=FA.out.1;clear rJ FA Rc rM S3
  go_wp2_with fail
  refine bodyPost_ret (v:=yR #[J B tc,Q te,J B ta,J B tf,J B tr,Q P]) ?_ rfl ⟨rfl,FIN.out _ ?_⟩
  ·simp[results,Tryz.results13,go_sem,z0,z1,z2,z3,z4,z5,rQ]
  ·exact qJ (But.refl (fun x=>x=w.heap.size+1) Wa) _ (.inr rfl) _ _ _ _ _ _
 ·obtain⟨Wa,rJ⟩:∃Wa,Wa=((w4.setCell ⟨w3.heap.size,0,I⟩ (J B ta)).setCell ⟨w3.heap.size,1,I⟩ (J B tf)).setCell ⟨w3.heap.size,2,I⟩ (J B tr):=⟨_,rfl⟩
  rw[<-rJ]
  have rR:Wa.cell? ⟨w3.heap.size,0,I⟩=N (J B ta)/\Wa.cell? ⟨w3.heap.size,1,I⟩=N (J B tf)/\Wa.cell? ⟨w3.heap.size,2,I⟩=N (J B tr):=by rw[rJ];simp[go_sem,a0,a1,a2]
  have FA:Hid _:=S3.out.asked hl ((zA (zR w3) (O #[J B 0,J B 0,J B 0] 34)).drew) Rc.out (rM.out.mono fun _ _ h=> .inl h) (fun x hx=> .inl hx) (Wa:=Wa) (Y:=fun j=>j=w3.heap.size) (by rw[rJ];exact(((But.refl (fun j=>j=w3.heap.size) w4).setCell (a:=⟨w3.heap.size,0,I⟩) (.inr rfl) _).setCell (a:=⟨w3.heap.size,1,I⟩) (.inr rfl) _).setCell (a:=⟨w3.heap.size,2,I⟩) (.inr rfl) _) (fun j hj=>⟨by omega,by simp;omega⟩)
  have Ho:w3.heap.size≠w.heap.size+1:=by omega
  have RG:w3.heap.size<Wa.heap.size:=by rw[rJ];simpa using pF
  obtain⟨b0,b1,b2⟩:=rR;clear a0 a1 a2 af;have rQ:=FA.out.2.2;obtain⟨⟨z0,z1,z2,z3,z4,z5⟩,zf⟩:=zG FA.out.2.1;have FIN:Hid _:=FA.out.1;clear rJ FA Rc rM S3
  go_wp2_with fail
  refine bodyPost_ret (v:=yR #[J B tc,Q te,J B ta,J B tf,J B tr,Q P]) ?_ rfl ⟨rfl,FIN.out _ ?_⟩
  ·simp[results,Tryz.results13,go_sem,z0,z1,z2,z3,z4,z5,rQ]
  ·exact qJ (But.refl (fun x=>x=w.heap.size+1) Wa) _ (.inr rfl) _ _ _ _ _ _
theorem Rsk.stepped {w w':A} {b k:Nat} {D:Rsd} {X:Pg.Spc} {C':Pg.Cr} {S':Pg.Fs} {Y:Nat->Prop} (h:Rsk w b D X) (hk:k<X.C.length) (hC:jp w' (D.cb k) (D.cv k) C') (hm:zj w' D.bm D.g0 D.g1 D.vm S') (hb:But (fun j=>bkF (D.cb k) (D.cv k) j\/xc D.bm D.g0 D.g1 D.vm j\/Y j) w w') (hY:∀x,rsF D b X.C.length X.G x->¬Y x):Rsk w' b D {X with S:=S',C:=X.C.set k C'}:=by
 obtain⟨o0,o1,o2,o3,o4,o5⟩:=h.others hb
 have tX:∀i,i≠k+5->i≠1->∀x,D.own b X.C.length X.G i x->¬(bkF (D.cb k) (D.cv k) x\/xc D.bm D.g0 D.g1 D.vm x\/Y x):=fun i hi h1 x hx e=>by
  rcases e with e|e|e
  ·exact hi (h.part i (k+5) x hx ⟨hk,e⟩)
  ·exact h1 (h.part i 1 x hx e)
  ·exact hY x ⟨i,hx⟩ e
 obtain⟨e0,f0⟩:=o0 (tX 0 (by omega) (by omega));obtain⟨e3,f3⟩:=o3 (tX 3 (by omega) (by omega));have hl:(X.C.set k C').length=X.C.length:=kp;refine⟨(e0 0).trans h.c0,(e0 1).trans h.c1,?_,(e0 3).trans h.c3,(e0 4).trans h.c4,(e0 5).trans h.c5,(e0 6).trans h.c6,(e0 7).trans h.c7,(e0 8).trans h.c8,?_,f0,hm,?_,?_,?_,f3,o4 (tX 4 (by omega) (by omega)),?_,?_,?_,?_,h.told,h.few⟩
 ·simp only[hl]
  exact(e0 2).trans h.c2
 ·simp only[hl]
  exact(e0 9).trans h.c9
 ·simp only[hl]
  exact o2 (tX 2 (by omega) (by omega))
 ·simp only[hl]
  intro j hj
  show jp w' (D.cb j) (D.cv j) ((X.C.set k C').getD j Pg.Cr.new)
  by_cases e:j=k
  ·subst e
   rw[show(X.C.set j C').getD j Pg.Cr.new=C' by simp[List.getD,hk]];exact hC
  ·rw[show(X.C.set k C').getD j Pg.Cr.new=X.C.getD j Pg.Cr.new by simp[List.getD,List.getElem?_set_ne (fun h=>e h.symm)]]
   exact o5 j hj (tX _ (by omega) (by omega))
 ·simp only[hl]
  exact e3
 ·simp only[hl]
  exact h.part
 ·simp only[hl]
  exact h.len
 ·simp only[hl]
  exact h.pos
 ·simp only[hl]
  exact h.le
theorem lnz {w:A} {r:Nat} {t:TypeId} (h:w.heap[r]?=N (O #[J B 0,J B 0,J B 0,J B 0,Q P] t (0,0))):qt w r 0 ⟨⟨0,0,0,0⟩,P⟩/\∀p,w.frozen? ⟨r,p,I⟩=P:=by
 refine⟨⟨?_,?_,?_,?_,?_⟩,fun p=> ?_⟩
 all_goals simp[ue,ua,h]
structure Wlk (w W:A) (b c lb ab:Nat) (D:Rsd) (X:Pg.Spc) (S':Pg.Fs) (C':Pg.Cr) (l:Pg.Ln) (ta tf tr:Int):Prop where
 rs:Rsk W b D {X with S:=S',C:=X.C.set c C'}
 but:But (rsF D b X.C.length X.G) w W
 ev:W.heap[w.heap.size+1]?=N (O #[J B 0,Q P,J B 0,J B 0,J B 0,Q P] 36 (0,0))
 ln:qt W lb 0 l
 a0:W.cell? ⟨ab,0,I⟩=N (J B ta)
 a1:W.cell? ⟨ab,1,I⟩=N (J B tf)
 a2:W.cell? ⟨ab,2,I⟩=N (J B tr)
 lbw:w.heap.size+1<lb
 abw:w.heap.size+1<ab
theorem Wlk.made {w W4 V w5 Wa:A} {b c lb ab:Nat} {D:Rsd} {X:Pg.Spc} {x:Pg.Sx} {S':Pg.Fs} {K':Pg.Wk} {l:Pg.Ln} {ta tf tr:Int} {Y:Nat->Prop} (S:StW w W4 b D X x) (hl:c<X.C.length) (hV:Below W4.heap.size W4 V) (h1:w.heap.size+1<lb) (h2:lb<W4.heap.size) (sH:qP w5 (D.cb c) K') (ok:K'.Ok) (hm:zj w5 D.bm D.g0 D.g1 D.vm S') (FN:qt w5 lb 0 l) (uY:Ch8 (D.cb c) 1 (fun j=>j=D.cb c\/j=lb\/xc D.bm D.g0 D.g1 D.vm j) V w5) (rJ:But Y w5 Wa) (hY:∀j,Y j->W4.heap.size<=j)
 (a0:Wa.cell? ⟨ab,0,I⟩=N (J B ta)) (a1:Wa.cell? ⟨ab,1,I⟩=N (J B tf)) (a2:Wa.cell? ⟨ab,2,I⟩=N (J B tr)) (Au:w.heap.size+1<ab):Wlk w Wa b c lb ab D X S' ⟨(X.C.getD c Pg.Cr.new).L,K'⟩ l ta tf tr:=by
 have hs:=S.size;have Kh:=hV.size;have PV:=S.rs.grow hV;have uf:=uY.but.size
 have hC:jp w5 (D.cb c) (D.cv c) ⟨(X.C.getD c Pg.Cr.new).L,K'⟩:=(PV.core c hl).ykl sH ok uY (fun j hj e=>by
  have Ow:D.own b X.C.length X.G (c+5) j:=⟨hl,.inr hj⟩;rcases e with e|e|e
  ·exact(PV.core c hl).co.nb (e▸hj)
  ·have:=S.lt j ⟨_,Ow⟩
   omega
  ·exact absurd (PV.part _ 1 j Ow e) (by omega))
 have P5:=PV.stepped hl hC hm (Y:=fun j=>j=lb) (uY.but.mono (fun j _ e=>by
  rcases e with e|e|e
  ·exact .inl (.inl e)
  ·exact .inr (.inr e)
  ·exact .inr (.inl e))) (fun j hj e=>by have:=S.lt j hj;omega)
 have hn:(X.C.set c ⟨(X.C.getD c Pg.Cr.new).L,K'⟩).length=X.C.length:=kp;refine⟨P5.keep rJ (fun j hj hy=> ?_),((But.yhp (zT S.bel hV)).trans uY.but (fun j hj e=> ?_)).trans rJ (fun j hj e=>by have:=hY j e;omega),?_,FN.of (fun q=>rJ.cell (a:=⟨lb,q,I⟩) (by show lb<_;omega) (fun e=>by have:=hY lb e;omega)),a0,a1,a2,h1,Au⟩
 ·simp only[hn]at hj
  have:=S.lt j hj;have:=hY j hy;omega
 ·rcases e with e|e|e
  ·exact⟨c+5,hl,.inl e⟩
  ·omega
  ·exact⟨1,e⟩
 ·refine(rJ.block _ (by omega) (fun e=>by have:=hY _ e;omega)).trans ((uY.but.block _ (by omega) (fun e=> ?_)).trans ((hV.block _ hs).trans S.ev))
  rcases e with e|e|e
  ·have:=S.lt _ ⟨c+5,hl,.inl rfl⟩
   omega
  ·omega
  ·have:=S.lt _ ⟨1,e⟩
   omega
theorem rsDo_walk {b:Nat} {D:Rsd} {X:Pg.Spc} {c:Nat} (x:Pg.Sx) (hx:x.kind=5) (hc:x.core=(c:Int)) (hl:c<X.C.length) (w:A) (h:Rsk w b D X):
 Calls z 13 #[U (N ⟨b,0,I⟩),x.val] w fun e w'=>e=ki ((X.C.getD c Pg.Cr.new).stT X.S 0).ev.val/\zy w b D X {X with S:=(X.C.getD c Pg.Cr.new).stS X.S 0,C:=X.C.set c ((X.C.getD c Pg.Cr.new).stN X.S 0)} w':=by
 obtain⟨W,hW⟩:∃W,W=chW w x:=⟨_,rfl⟩
 have SW:Hid (StW w W b D X x):=by rw[hW];exact .begun h x
 have x0:=SW.out.x0;have x1:=SW.out.x1;have c2:=SW.out.rs.c2;clear h;obtain⟨kd,co,⟨p,s,f,r⟩,q,k,u⟩:=x;simp only at hx hc;subst hx hc;simp only[chW,Pg.Sx.val]at hW x0 x1 ⊢
 have i0:(0:Int)<=(c:Int):=by omega
 have i1:(c:Int)<(X.C.length:Int):=by omega
 have k6:decide ((c:Int)<0)=P:=by simp
 have k7:decide ((X.C.length:Int)<=(c:Int))=P:=by simp;omega
 generalize hK:(X.C.getD c Pg.Cr.new).K=K at*
 have oP:∀(w':A) (lb:Nat),Rsk w' b D X->qt w' lb 0 ⟨⟨0,0,0,0⟩,P⟩->(∀p,w'.frozen? ⟨lb,p,I⟩=P)->¬xc D.bm D.g0 D.g1 D.vm lb->D.cb c≠lb->
  Calls z 57 #[U (N ⟨D.cb c,0,I⟩),U (N ⟨D.bm,0,I⟩),J B 0,U (N ⟨lb,0,I⟩)] w' fun e w''=>e=ki (.tuple #[yR #[J B ((Pg.kOut X.S 0 K).res K).a,J B ((Pg.kOut X.S 0 K).res K).f,J B ((Pg.kOut X.S 0 K).res K).r],Q ((Pg.kOut X.S 0 K).res K).ended,J B (Pg.kOut X.S 0 K).cd])/\qP w'' (D.cb c) ((Pg.kOut X.S 0 K).next K)/\zj w'' D.bm D.g0 D.g1 D.vm ((Pg.kOut X.S 0 K).fs X.S K)/\qt w'' lb 0 ⟨((Pg.kOut X.S 0 K).res K).m,((Pg.kOut X.S 0 K).res K).d⟩/\Ch8 (D.cb c) 1 (fun j=>j=D.cb c\/j=lb\/xc D.bm D.g0 D.g1 D.vm j) w' w'':=fun w' lb h hL TB kV rR=>by
  have sH:=(h.core c hl).ck;have dF:=(h.core c hl).ok;rw[hK]at sH dF;refine(yep (root:=0) dF w' sH h.mem hL TB (fun e=>absurd (h.part (c+5) 1 _ ⟨hl,.inl rfl⟩ e) (by omega)) kV rR).mono ?_;rintro e w'' ⟨h1,h2,h3,h4,h5⟩;exact⟨h1,h2,h3,h4,h5⟩
 have lh:Hid (∀(w':A),Rsk w' b D X->((Pg.kOut X.S 0 K).next K).Ok):=fun w' h=>by
  have dF:=(h.core c hl).ok;rw[hK]at dF;exact Pg.yku h.mem.ok dF 0
 have oI:Hid _:=Pg.ykZ K (Pg.kOut X.S 0 K);simp only[Pg.Cr.stT,Pg.Cr.stN,Pg.Cr.stS,Pg.Wo.tl,Pg.Tl.ev,Pg.Ev.val,hK];generalize (Pg.kOut X.S 0 K).res K=R at*;generalize (Pg.kOut X.S 0 K).next K=K' at*;generalize (Pg.kOut X.S 0 K).fs X.S K=S' at*;generalize (Pg.kOut X.S 0 K).cd=cd at*;clear hK;obtain⟨en,ra,rf,rr,⟨mp,ms,mf,mr⟩,rd⟩:=R;simp only at oP oI ⊢
 go_enter Tryz.func13,Tryz.ntmps13
 go_upto_region 1 with fail
 rw[<-hW];clear hW
 go_wp2_with fail
 go_region
 go_upto_region 7 with fail
 have S5:Hid _:=SW.out.grow (zR W).drew;clear x0 x1 c2 SW;generalize W.drew=W5 at*;have g2:=cell_regrown S5.out.rs.c2;have gc:=cell_regrown (S5.out.rs.row c hl);have y1:=cell_regrown S5.out.x1;simp only at y1;refine Loose.yhr 8 (by kernel_rfl) (by kernel_rfl) ?_;simp only[un,ud,ur,uc]
 repeat (
  refine Loose.zS (fun k hk=> ?_)
  go_simp
  (refine hk _ ?_;clear hk k))
 refine Loose.yhs ?_;intro w3 He;have S3:Hid _:=S5.out.grow He;clear He g2 gc y1 S5;have x0:=S3.out.x0;simp only at x0;obtain⟨W4,rF⟩:∃W4,W4=w3.alloc (O #[J B 0,J B 0,J B 0,J B 0,Q P] 121):=⟨_,rfl⟩
 have Hl:Below w3.heap.size w3 W4:=by rw[rF];exact zA (zR _) _
 have FN:W4.heap[w3.heap.size]?=N (O #[J B 0,J B 0,J B 0,J B 0,Q P] 121 (0,0)):=by rw[rF];exact heap_alloc_new _ _
 have pF:w3.heap.size<W4.heap.size:=by rw[rF];simp
 have dW:=S3.out.size;have S4:Hid _:=S3.out.grow Hl;have gW:D.cb c<w.heap.size:=S3.out.lt _ ⟨c+5,hl,.inl rfl⟩;have rR:b<w.heap.size:=S3.out.lt b ⟨0,rfl⟩
 have Cv:∀j,w.heap.size<=j->¬xc D.bm D.g0 D.g1 D.vm j:=fun j hj e=>by have:=S3.out.lt j ⟨1,e⟩;omega
 have Mt:Hid _:=fun(V:A) (hV:Below W4.heap.size W4 V)=>oP V w3.heap.size (S4.out.rs.grow hV) (lnz ((hV.block _ pF).trans FN)).1 (lnz ((hV.block _ pF).trans FN)).2 (Cv _ (by omega)) (by omega);have c0:=S4.out.rs.c0;have c1:=S4.out.rs.c1
 have TG:b<W4.heap.size:=by omega
 have NF:∀j,w.heap.size<=j->¬j=w3.heap.size->¬(j=D.cb c\/j=w3.heap.size\/xc D.bm D.g0 D.g1 D.vm j):=fun j hj h1 e=>by
  rcases e with e|e|e
  ·omega
  ·exact h1 e
  ·exact Cv j hj e
 have NB:¬(b=D.cb c\/b=w3.heap.size\/xc D.bm D.g0 D.g1 D.vm b):=fun e=>by
  rcases e with e|e|e
  ·exact absurd (S4.out.rs.part 0 (c+5) b rfl ⟨hl,.inl e⟩) (by omega)
  ·omega
  ·exact absurd (S4.out.rs.part 0 1 b rfl e) (by omega)
 have N4:=NF W4.heap.size (by omega) (by omega)
 have m1:b≠W4.heap.size:=by omega
 have m2:W4.heap.size≠b:=by omega
 have Bt:Hid _:=NB;have MH:Hid _:=N4;have UB:Hid _:=NF;have UD:Hid _:=Cv;clear Hl FN S3 oP NB N4 NF Cv
 go_upto_region 14 with fail
 rw[<-rF];clear rF x0
 go_region_held3 (fun w'=>w'.cell? ⟨b,0,I⟩=N (U (N ⟨D.bm,0,I⟩))/\w'.cell? ⟨b,1,I⟩=N (J B 0)) (go_keep) (
  (go_at_call 57;refine(Mt.out _ (by first|exact(zA (zR W4) _).drew|exact zA (zR W4) _|exact(zR W4).drew|exact zR W4)).mono ?_;rintro en' w5 ⟨he,sH,OC,wI,uY⟩
   subst he;have sN:Hid _:=sH;have lG:Hid _:=OC;have Bi:Hid (qt w5 w3.heap.size 0 ⟨⟨mp,ms,mf,mr⟩,rd⟩):=wI;have aH:Hid _:=uY;have u0:=jf uY.but (by first|exact(zA (zR W4) _).drew|exact zA (zR W4) _|exact(zR W4).drew|exact zR W4) TG Bt.out c0;have u1:=jf uY.but (by first|exact(zA (zR W4) _).drew|exact zA (zR W4) _|exact(zR W4).drew|exact zR W4) TG Bt.out c1;have ub:b<w5.heap.size:=H _ _ u1
   have oD:b≠w5.heap.size:=by omega
   first
    | (have hA:Ch8 (D.cb c) 1 (fun j=>j=D.cb c\/j=w3.heap.size\/xc D.bm D.g0 D.g1 D.vm j) W4.drew w5:=uY;clear hA)
    | (have tK:w5.heap[W4.heap.size]?=N (O #[J B 0,J B 0,J B 0] 34 (0,0)):=(ybH uY.but MH.out).trans (heap_alloc_new W4 (O #[J B 0,J B 0,J B 0] 34))
       have uf:W4.heap.size<w5.heap.size:=(uv.1 tK).1
       obtain⟨⟨a0,a1,a2⟩,af⟩:=yfJ tK)
   clear sH OC wI uY))
 focus
  obtain⟨Wa,rJ⟩:∃Wa,Wa=w5.alloc (O #[J B ra,J B rf,J B rr] 34):=⟨_,rfl⟩;rw[<-rJ]
  have gz:Wa.heap[w5.heap.size]?=N (O #[J B ra,J B rf,J B rr] 34 (0,0)):=by rw[rJ];exact heap_alloc_new _ _
  obtain⟨⟨b0,b1,b2⟩,bf⟩:=yfJ gz
  have uf:W4.heap.size<=w5.heap.size:=by have:=aH.out.but.size;simpa using this
  have WK:Hid _:=Wlk.made S4.out hl ((zR W4).drew) dW pF sN.out (lh.out _ S4.out.rs) lG.out Bi.out aH.out (Wa:=Wa) (Y:=fun j=>False) (by rw[rJ];exact But.yhp (zA (zR w5) _)) (fun j hj=>hj.elim) b0 b1 b2 (by omega)
  have RG:w5.heap.size<Wa.heap.size:=by rw[rJ];simp
  have gy:Hid (∀y,rsF D b X.C.length X.G y->y<w.heap.size):=S4.out.lt;generalize w5.heap.size=ab at*;clear gz rJ u0 u1 ub oD bf b0 b1 b2;clear sN lG Bi aH Mt lh Bt MH UB UD S4 c0 c1
 rotate_left
 focus
  obtain⟨Wa,rJ⟩:∃Wa,Wa=((w5.setCell ⟨W4.heap.size,0,I⟩ (J B ra)).setCell ⟨W4.heap.size,1,I⟩ (J B rf)).setCell ⟨W4.heap.size,2,I⟩ (J B rr):=⟨_,rfl⟩;rw[<-rJ]
  have gz:Wa.cell? ⟨W4.heap.size,0,I⟩=N (J B ra)/\Wa.cell? ⟨W4.heap.size,1,I⟩=N (J B rf)/\Wa.cell? ⟨W4.heap.size,2,I⟩=N (J B rr):=by rw[rJ];simp[go_sem,a0,a1,a2]
  have WK:Hid _:=Wlk.made S4.out hl ((zA (zR W4) (O #[J B 0,J B 0,J B 0] 34)).drew) dW pF sN.out (lh.out _ S4.out.rs) lG.out Bi.out aH.out (Wa:=Wa) (Y:=fun j=>j=W4.heap.size) (by rw[rJ];exact(((But.refl (fun j=>j=W4.heap.size) w5).setCell (a:=⟨W4.heap.size,0,I⟩) (.inr rfl) _).setCell (a:=⟨W4.heap.size,1,I⟩) (.inr rfl) _).setCell (a:=⟨W4.heap.size,2,I⟩) (.inr rfl) _) (fun j hj=>by omega) gz.1 gz.2.1 gz.2.2 (by omega)
  have RG:W4.heap.size<Wa.heap.size:=by rw[rJ];simpa using uf
  have gy:Hid (∀y,rsF D b X.C.length X.G y->y<w.heap.size):=S4.out.lt;clear gz rJ u0 u1 ub oD a0 a1 a2 af;generalize W4.heap.size=ab at*;clear sN lG Bi aH Mt lh Bt MH UB UD S4 c0 c1
 rotate_left
 all_goals
  have uN:=WK.out.abw;have b0:=WK.out.a0;have b1:=WK.out.a1;have b2:=WK.out.a2;have rQ:w.heap.size+1<Wa.heap.size:=(uv.1 WK.out.ev).1;cases hp:(en&&ra==0)
  ·have Mm:Hid (Pg.rPut (X.C.getD c Pg.Cr.new).L ⟨en,ra,rf,rr,⟨mp,ms,mf,mr⟩,rd⟩=(X.C.getD c Pg.Cr.new).L):=by
    rw[Hid];unfold Pg.rPut;rw[if_neg (by simp only;rw[hp];decide)]
   obtain⟨⟨z0,z1,z2,z3,z4,z5⟩,zf⟩:=zG WK.out.ev
   have FIN:Hid (∀Wf,But (fun x=>x=w.heap.size+1) Wa Wf->zy w b D X {X with S:=S',C:=X.C.set c ⟨Pg.rPut (X.C.getD c Pg.Cr.new).L ⟨en,ra,rf,rr,⟨mp,ms,mf,mr⟩,rd⟩,K'⟩} Wf):=fun Wf hb=>by
    rw[Mm.out];refine⟨D,WK.out.rs.keep hb (fun x hx e=> ?_),id,WK.out.but.trans hb (fun x hx e=>by omega),fun x hx=> .inl ?_⟩
    ·simp only[kp]at hx
     have:=gy.out x hx;omega
    ·simp only[kp]at hx
     exact hx
   clear WK
   have hp:en=P\/(en=yC/\(ra==0)=P):=by revert hp;cases en<;>simp
   clear oI;rcases hp with rfl|⟨rfl,PU⟩
   all_goals
    go_wp2_with fail
    refine bodyPost_ret (v:=yR #[J B cd,Q _,J B ra,J B rf,J B rr,Q P]) ?_ rfl ⟨rfl,FIN.out _ ?_⟩
    ·simp[results,Tryz.results13,go_sem,z0,z1,z2,z3,z4,z5,rQ]
    ·exact qJ (But.refl (fun x=>x=w.heap.size+1) Wa) _ (.inr rfl) _ _ _ _ _ _
  ·obtain⟨rfl,h0⟩:en=yC/\ra=0:=by simpa using hp
   subst h0;have Mm:Hid (Pg.rPut (X.C.getD c Pg.Cr.new).L ⟨yC,0,rf,rr,⟨mp,ms,mf,mr⟩,rd⟩=Pg.kPut (X.C.getD c Pg.Cr.new).L ⟨⟨mp,ms,mf,mr⟩,rd⟩):=rfl;clear hp;have hn:(X.C.set c ⟨(X.C.getD c Pg.Cr.new).L,K'⟩).length=X.C.length:=kp
   have Ce:c<({X with S:=S',C:=X.C.set c ⟨(X.C.getD c Pg.Cr.new).L,K'⟩}:Pg.Spc).C.length:=by simp only[hn];exact hl
   have TL:jp Wa (D.cb c) (D.cv c) ⟨(X.C.getD c Pg.Cr.new).L,K'⟩:=by
    have:=WK.out.rs.core c Ce;rw[show({X with S:=S',C:=X.C.set c ⟨(X.C.getD c Pg.Cr.new).L,K'⟩}:Pg.Spc).C.getD c Pg.Cr.new=⟨(X.C.getD c Pg.Cr.new).L,K'⟩ by simp[List.getD,hl]]at this;exact this
   have SA:Hid _:=TL;have HP:=yer ⟨⟨mp,ms,mf,mr⟩,rd⟩ oI.out Wa TL.co;simp only[Pg.Ln.val]at HP;obtain⟨l0,l1,l2,l3,l4⟩:=WK.out.ln;simp only[Nat.zero_add]at l1 l2 l3 l4;clear TL
   go_wp2_with fail
   refine HP.mono ?_;rintro e w7 ⟨rfl,v7,Od,wD,Nb⟩;have P7:=WK.out.rs.asked Ce (SA.out.ylI Od wD) wD.but Nb;simp only[List.set_set]at P7
   have NK:∀j,w.heap.size<=j->¬bkF (D.cb c) (D.cv c) j:=fun j hj e=>by have:=gy.out j ⟨c+5,hl,e⟩;omega
   have c0':=(wD.but.cell (a:=⟨ab,0,I⟩) RG (NK _ (by show w.heap.size<=ab;omega))).trans b0;have c1':=(wD.but.cell (a:=⟨ab,1,I⟩) RG (NK _ (by show w.heap.size<=ab;omega))).trans b1;have c2':=(wD.but.cell (a:=⟨ab,2,I⟩) RG (NK _ (by show w.heap.size<=ab;omega))).trans b2;have E7:w7.heap[w.heap.size+1]?=_:=(wD.but.block _ rQ (NK _ (by omega))).trans WK.out.ev;have Pp:w.heap.size+1<w7.heap.size:=kh rQ wD.but.size;obtain⟨⟨z0,z1,z2,z3,z4,z5⟩,zf⟩:=zG E7;have own:=qS (b:=b) (G:=X.G) hl Nb
   have FIN:Hid (∀Wf,But (fun x=>x=w.heap.size+1) w7 Wf->zy w b D X {X with S:=S',C:=X.C.set c ⟨Pg.rPut (X.C.getD c Pg.Cr.new).L ⟨yC,0,rf,rr,⟨mp,ms,mf,mr⟩,rd⟩,K'⟩} Wf):=fun Wf hb=>by
    rw[Mm.out];refine⟨_,P7.keep hb (fun x hx e=> ?_),id,(WK.out.but.trans wD.but (fun x hx e=>⟨c+5,hl,e⟩)).trans hb (fun x hx e=>by omega),fun x hx=> ?_⟩
    ·simp only[kp]at hx
     rcases own x hx with h|h
     ·have:=gy.out x h
      omega
     ·omega
    ·simp only[kp]at hx
     exact(own x hx).imp id (fun h=>by omega)
   clear WK P7 Od wD Nb HP SA E7 NK own b0 b1 b2 l0 l1 l2 l3 l4
   go_wp2_with fail
   refine bodyPost_ret (v:=yR #[J B cd,Q yC,J B 0,J B rf,J B rr,Q P]) ?_ rfl ⟨rfl,FIN.out _ ?_⟩
   ·simp[results,Tryz.results13,go_sem,z0,z1,z2,z3,z4,z5,Pp]
   ·exact qJ (But.refl (fun x=>x=w.heap.size+1) w7) _ (.inr rfl) _ _ _ _ _ _
theorem yfN {b:Nat} {D:Rsd} {X:Pg.Spc} (x:Pg.Sx) (w:A) (h:Rsk w b D X) (hz:D.bz=X.busy):
 Calls z 13 #[U (N ⟨b,0,I⟩),x.val] w fun e w'=>e=ki (X.goE x).val/\zy w b D X (X.goN x) w':=by
 have still:∀{v:Value},Calls z 13 #[U (N ⟨b,0,I⟩),x.val] w (fun e w'=>e=ki v/\Below w.heap.size w w')->Calls z 13 #[U (N ⟨b,0,I⟩),x.val] w fun e w'=>e=ki v/\zy w b D X X w':=fun hc=>by
  refine hc.mono ?_;rintro e w' ⟨rfl,hb⟩;exact⟨rfl,.same h hb⟩
 unfold Pg.Spc.goE Pg.Spc.goN
 by_cases hk:1<=x.kind/\x.kind<=3
 ·rw[if_pos hk,if_pos hk]
  exact yc5 x (by omega) w h hz
 ·rw[if_neg hk,if_neg hk]
  by_cases tC:x.kind<1\/7<x.kind
  ·rw[if_pos tC,if_pos tC]
   exact still (ye0 x tC w h)
  ·rw[if_neg tC,if_neg tC]
   by_cases hr:x.core<0\/(X.C.length:Int)<=x.core
   ·rw[if_pos hr,if_pos hr]
    exact still (yd9 x (by omega) hr w h)
   ·rw[if_neg hr,if_neg hr]
    obtain⟨c,hc⟩:=Int.eq_ofNat_of_zero_le (show 0<=x.core by omega)
    have hl:c<X.C.length:=by omega
    have ea:X.at' x.core=X.C.getD c Pg.Cr.new:=by unfold Pg.Spc.at';rw[hc,yI]
    have et:x.core.toNat=c:=by rw[hc,yI]
    rw[ea,et]
    by_cases h4:x.kind=4
    ·rw[if_pos h4,if_pos h4]
     exact yc4 x h4 hc hl w h
    ·rw[if_neg h4,if_neg h4]
     by_cases h5:x.kind=5
     ·rw[if_pos h5,if_pos h5]
      exact rsDo_walk x h5 hc hl w h
     ·rw[if_neg h5,if_neg h5]
      by_cases h6:x.kind=6
      ·rw[if_pos h6,if_pos h6,hc]
       exact yfL x h6 hc hl w h
      ·rw[if_neg h6,if_neg h6]
       by_cases hL:(X.C.getD c Pg.Cr.new).L=[]
       ·rw[if_pos hL]
        have ev:(X.C.getD c Pg.Cr.new).yig=X.C.getD c Pg.Cr.new:=by
         unfold Pg.Cr.yig;rw[hL]
         show(⟨[],(X.C.getD c Pg.Cr.new).K⟩:Pg.Cr)=_
         rw[<-hL]
        rw[ev,Pg.yi8 hl];exact still (ye1 x (by omega) hc hl hL w h)
       ·rw[if_neg hL]
        exact yd8 x (by omega) hc hl (List.length_pos_iff.2 hL) w h
theorem yfM {b:Nat} {X:Pg.Spc} {F:Nat->Prop} (x:Pg.Sx) (w:A) (h:yak w b X F):
 Calls z 13 #[U (N ⟨b,0,I⟩),x.val] w fun e w'=>e=ki (X.goE x).val/\∃F',yak w' b (X.goN x) F'/\But F w w'/\∀k,F' k->F k\/w.heap.size<=k:=by
 obtain⟨D,h,hz,rfl⟩:=h;refine(yfN x w h hz).mono ?_;rintro e w' ⟨rfl,D',h1,h2,h3,h4⟩;exact⟨rfl,_,⟨D',h1,h2 hz,rfl⟩,h3,h4⟩
end Go.Proofs.YtdphiompijbelaaGreat
namespace Go.Proofs.YtdphiompijbelaaGreat
open Go.RowKit Go.Sort
theorem yeJ:(Tryz.prog.info? 67).map (fun i=>(i.zero,i.size,i.bytes))=N (N (U I),1,8):=by kernel_rfl
structure Nsp (w wr:A) (b bm g0 g1 gw:Nat) (vm vC:Value) (S:Pg.Fs) (co k:Nat) (cb:Nat->Nat):Prop where
 bel:Below w.heap.size w wr
 c0:wr.cell? ⟨b,0,I⟩=N (U (N ⟨bm,0,I⟩))
 c1:wr.cell? ⟨b,1,I⟩=N (J B 0)
 c2:wr.cell? ⟨b,2,I⟩=N vC
 c3:wr.cell? ⟨b,3,I⟩=N (Q P)
 c4:wr.cell? ⟨b,4,I⟩=N (Z I 0 0)
 c5:wr.cell? ⟨b,5,I⟩=N (J B 0)
 c6:wr.cell? ⟨b,6,I⟩=N (J B 0)
 c7:wr.cell? ⟨b,7,I⟩=N (J B 0)
 c8:wr.cell? ⟨b,8,I⟩=N (J B 0)
 c9:wr.cell? ⟨b,9,I⟩=N (Z (N ⟨gw,0,I⟩) co co)
 fb:∀p,wr.frozen? ⟨b,p,I⟩=P
 mem:zj wr bm g0 g1 vm S
 vmN:vm.ownBlock=I
 lo:w.heap.size<=bm/\w.heap.size<=g0/\w.heap.size<=g1/\w.heap.size<=gw
 hi:bm<b/\g0<b/\g1<b/\gw<b
 gwm:gw≠bm/\gw≠g0/\gw≠g1
 wt:∀j,j<co->wr.cell? ⟨gw,j,I⟩=N (Q P)
 wf:∀p,wr.frozen? ⟨gw,p,I⟩=P
 own:wr.ownsRow (b+1) 67 1 vC k (j7 cb k)
 core:∀j,j<k->jp wr (cb j) (Z I 0 0) Pg.Cr.new/\b<cb j/\vC.ownBlock≠N (cb j)
 inj:∀i j,i<k->j<k->cb i=cb j->i=j
theorem Nsp.done {w wr:A} {b bm g0 g1 gw:Nat} {vm vC:Value} {n co:Nat} {cb:Nat->Nat} (h:Nsp w wr b bm g0 g1 gw vm vC (Pg.Fs.new n).take co co cb) (h1:1<=co) (h4:co<=4):∃F,yak wr b (Pg.Spc.new co n) F/\∀k,F k->w.heap.size<=k:=by
 obtain⟨gc,cc,rfl,fU,hgl⟩:=h.own.form (by omega)
 have Ay:∀j x,bkF (cb j) (Z I 0 0) x->x=cb j:=fun j x hx=>by
  rcases hx with hx|hx
  ·exact hx
  ·simp[kO]at hx
 have ae:∀x,xc bm g0 g1 vm x->x<b/\w.heap.size<=x/\x≠gw:=fun x hx=>by
  have a1:=h.hi;have a2:=h.lo;have a3:=h.gwm;rcases hx with rfl|rfl|rfl|hx
  ·exact⟨a1.1,a2.1,fun e=>a3.1 e.symm⟩
  ·exact⟨a1.2.1,a2.2.1,fun e=>a3.2.1 e.symm⟩
  ·exact⟨a1.2.2.1,a2.2.2.1,fun e=>a3.2.2 e.symm⟩
  ·rw[h.vmN]at hx
   cases hx
 have Fz:=h.hi.2.2.2;have gW:∀j,j<co->b<cb j/\cb j≠gc:=fun j hj=>⟨(h.core j hj).2.1,fun e=>(h.core j hj).2.2 (by simp[kO,e])⟩
 have lV:w.heap.size<=b:=by have:=h.hi;have:=h.lo;omega
 obtain⟨D,hD⟩:∃D:Rsd,D=⟨bm,g0,g1,vm,gc,cc,cb,fun _=>Z I 0 0,gw,I,0,P⟩:=⟨_,rfl⟩
 have dQ:∀i x,D.own b co [] i x->(i=0/\x=b)\/(i=1/\x<b/\w.heap.size<=x/\x≠gw)\/(i=2/\x=gc)\/(i=3/\x=gw)\/(∃j,i=j+5/\j<co/\x=cb j):=fun i x hx=>by
  rw[hD]at hx
  match i with
  | 0=>exact .inl ⟨rfl,hx⟩
  | 1=>exact .inr (.inl ⟨rfl,ae x hx⟩)
  | 2=>exact .inr (.inr (.inl ⟨rfl,hx⟩))
  | 3=>exact .inr (.inr (.inr (.inl ⟨rfl,hx⟩)))
  | 4=>exact absurd rfl hx.1
  | j+5=>exact .inr (.inr (.inr (.inr ⟨j,rfl,hx.1,Ay j x hx.2⟩)))
 have hC:(Pg.Spc.new co n).C.length=co:=by simp[Pg.Spc.new]
 have hG:(Pg.Spc.new co n).G=[]:=rfl;refine⟨_,⟨D,?_,by rw[hD];simp[Pg.Spc.busy,Pg.Spc.new],rfl⟩,fun x hx=> ?_⟩
 ·have Tv:∀j,j<co->(Pg.Spc.new co n).C.getD j Pg.Cr.new=Pg.Cr.new:=fun j hj=>by simp[Pg.Spc.new,List.getD,hj]
  have Tw:∀j,j<co->(Pg.Spc.new co n).W.getD j P=P:=fun j hj=>by simp[Pg.Spc.new,List.getD,hj]
  refine⟨?_,h.c1,?_,?_,?_,h.c5,h.c6,h.c7,h.c8,?_,h.fb,?_,fun j hj=> ?_,fun j hj=> ?_,fun j hj=> ?_,?_,fun j hj=> ?_,fun i j x hi hj=> ?_,by simp[Pg.Spc.new],by rw[hC];exact h1,by rw[hC];exact h4,?_,by simp[Pg.Spc.new]⟩
  ·rw[hD];exact h.c0
  ·rw[hD,hC];exact h.c2
  ·rw[hD];exact h.c3
  ·rw[hD];exact h.c4
  ·rw[hD,hC];exact h.c9
  ·rw[hD];exact h.mem
  ·rw[hC]at hj
   rw[hD]
   show wr.cell? ⟨gc,j,I⟩=_
   rw[h.own.cellAt j (by omega),ycZ cb hj]
  ·rw[hC]at hj
   rw[hD,Tv j hj];exact(h.core j hj).1
  ·rw[hC]at hj
   rw[hD,Tw j hj];exact h.wt j hj
  ·rw[hD];exact h.wf
  ·rw[hG]at hj
   simp at hj
  ·rw[hC,hG]at hi hj
   rcases dQ i x hi with ⟨ei,e1⟩|⟨ei,e1,e2,e3⟩|⟨ei,e1⟩|⟨ei,e1⟩|⟨p,ei,e1,e2⟩<;>rcases dQ j x hj with ⟨ej,f1⟩|⟨ej,f1,f2,f3⟩|⟨ej,f1⟩|⟨ej,f1⟩|⟨q,ej,f1,f2⟩
   all_goals first
    | (subst ei ej;rfl)
    | (exfalso;omega)
    | (exfalso;have:=gW p e1;omega)
    | (exfalso;have:=gW q f1;omega)
    | (have:=h.inj p q e1 f1 (e2.symm.trans f2);omega)
  ·show Pg.fits 0
   unfold Pg.fits;omega
 ·rw[hC,hG]at hx
  obtain⟨i,hi⟩:=hx;rcases dQ i x hi with ⟨ei,e1⟩|⟨ei,e1,e2,e3⟩|⟨ei,e1⟩|⟨ei,e1⟩|⟨p,ei,e1,e2⟩
  ·omega
  ·exact e2
  ·omega
  ·have:=h.lo;omega
  ·have:=gW p e1;omega
theorem ygJ {w:A} {r:Nat} {v0 v1 v2 v3 v4 v5 v6 v7 v8 v9:Value} {t:TypeId} (h:w.heap[r]?=N (O #[v0,v1,v2,v3,v4,v5,v6,v7,v8,v9] t (0,0))):
 (w.cell? ⟨r,0,I⟩=N v0/\w.cell? ⟨r,1,I⟩=N v1/\w.cell? ⟨r,2,I⟩=N v2/\w.cell? ⟨r,3,I⟩=N v3/\w.cell? ⟨r,4,I⟩=N v4)/\(w.cell? ⟨r,5,I⟩=N v5/\w.cell? ⟨r,6,I⟩=N v6/\w.cell? ⟨r,7,I⟩=N v7/\w.cell? ⟨r,8,I⟩=N v8/\w.cell? ⟨r,9,I⟩=N v9)/\∀i,w.frozen? ⟨r,i,I⟩=P:=
 ⟨by simp[ue,h],by simp[ue,h],fun i=>by simp[ua,h]⟩
theorem yfC {w:A} {g co:Nat} {t:TypeId} (h:w.heap[g]?=N (O (madeCells #[Q P] co) t (0,0))):(∀j,j<co->w.cell? ⟨g,j,I⟩=N (Q P))/\∀p,w.frozen? ⟨g,p,I⟩=P:=by
 refine⟨fun j hj=> ?_,fun p=>by simp[ua,h]⟩;simp[ue,h,madeCells,hj,Nat.mod_one]
theorem Nsp.begun {w WB:A} {b bm g0 g1 gw co:Nat} {S:Pg.Fs} {t t':TypeId} (hb:Below w.heap.size w WB) (hs:WB.heap[b]?=N (O #[U (N ⟨bm,0,I⟩),J B 0,Z I 0 0,Q P,Z I 0 0,J B 0,J B 0,J B 0,J B 0,Z (N ⟨gw,0,I⟩) co co] t (0,0))) (hw:WB.heap[gw]?=N (O (madeCells #[Q P] co) t' (0,0))) (hm:zj WB bm g0 g1 (Z I 0 0) S) (lo:w.heap.size<=bm/\w.heap.size<=g0/\w.heap.size<=g1/\w.heap.size<=gw) (hi:bm<b/\g0<b/\g1<b/\gw<b) (gwm:gw≠bm/\gw≠g0/\gw≠g1):Nsp w WB b bm g0 g1 gw (Z I 0 0) (Z I 0 0) S co 0 (fun _=>0):=by
 obtain⟨⟨z0,z1,z2,z3,z4⟩,⟨z5,z6,z7,z8,z9⟩,zf⟩:=ygJ hs;obtain⟨y0,y1⟩:=yfC hw;exact⟨hb,z0,z1,z2,z3,z4,z5,z6,z7,z8,z9,zf,hm,rfl,lo,hi,gwm,y0,y1,yP _ _ _ _,fun j hj=>by omega,fun i j hi=>by omega⟩
theorem Nsp.root {w WB w2:A} {b bm g0 g1 gw co:Nat} {vm:Value} {S S':Pg.Fs} (h:Nsp w WB b bm g0 g1 gw (Z I 0 0) (Z I 0 0) S co 0 (fun _=>0)) (hm:zj w2 bm g0 g1 vm S') (hv:vm.ownBlock=I) (hb:But (xc bm g0 g1 (Z I 0 0)) WB w2):Nsp w (w2.setCell ⟨b,1,I⟩ (J B 0)) b bm g0 g1 gw vm (Z I 0 0) S' co 0 (fun _=>0)/\(∀p,w2.cell? ⟨b,p,I⟩=WB.cell? ⟨b,p,I⟩)/\∀p,w2.frozen? ⟨b,p,I⟩=P:=by
 have ae:∀x,xc bm g0 g1 (Z I 0 0) x->x<b/\w.heap.size<=x/\x≠gw:=fun x hx=>by
  have a1:=h.hi;have a2:=h.lo;have a3:=h.gwm;rcases hx with rfl|rfl|rfl|hx
  ·exact⟨a1.1,a2.1,fun e=>a3.1 e.symm⟩
  ·exact⟨a1.2.1,a2.2.1,fun e=>a3.2.1 e.symm⟩
  ·exact⟨a1.2.2.1,a2.2.2.1,fun e=>a3.2.2 e.symm⟩
  ·simp[kO]at hx
 have rY:b<WB.heap.size:=H _ _ h.c0;have kb:=hb.block b rY (fun e=>by have:=ae b e;omega)
 have hgl:gw<WB.heap.size:=by have:=h.hi;omega
 have kw:=hb.block gw hgl (fun e=>absurd rfl (ae gw e).2.2);have e0:∀p,w2.cell? ⟨b,p,I⟩=WB.cell? ⟨b,p,I⟩:=fun p=>ks (a:=⟨b,p,I⟩) kb;have f0:∀p,w2.frozen? ⟨b,p,I⟩=P:=fun p=>(M (a:=⟨b,p,I⟩) kb).trans (h.fb p);have bJ:But (fun x=>x=b) w2 (w2.setCell ⟨b,1,I⟩ (J B 0)):=(But.refl (fun x=>x=b) w2).setCell (a:=⟨b,1,I⟩) (.inr rfl) _
 have lV:w.heap.size<=b:=by have:=h.hi;have:=h.lo;omega
 have k0:=(e0 0).trans h.c0;have k1:=(e0 1).trans h.c1;have k2:=(e0 2).trans h.c2;have k3:=(e0 3).trans h.c3;have k4:=(e0 4).trans h.c4;have k5:=(e0 5).trans h.c5;have k6:=(e0 6).trans h.c6;have k7:=(e0 7).trans h.c7;have k8:=(e0 8).trans h.c8;have k9:=(e0 9).trans h.c9;refine⟨⟨?_,by simp[go_sem,k0],by simp[go_sem,k1],by simp[go_sem,k2],by simp[go_sem,k3],by simp[go_sem,k4],by simp[go_sem,k5],by simp[go_sem,k6],by simp[go_sem,k7],by simp[go_sem,k8],by simp[go_sem,k9],fun p=>by simp[go_sem,f0],hm.keep bJ (fun x hx e=> ?_),hv,h.lo,h.hi,h.gwm,fun j hj=> ?_,fun p=> ?_,yP _ _ _ _,fun j hj=>by omega,fun i j hi=>by omega⟩,e0,f0⟩
 ·have Gy:Below w.heap.size w w2:=h.bel.trans (hb.below h.bel.size (fun x hx=>(ae x hx).2.1))
  exact Gy.setCell (p:=⟨b,1,I⟩) lV _
 ·have:xc bm g0 g1 (Z I 0 0) x:=by
   rcases hx with hx|hx|hx|hx
   ·exact .inl hx
   ·exact .inr (.inl hx)
   ·exact .inr (.inr (.inl hx))
   ·rw[hv]at hx;cases hx
  have:=ae x this;omega
 ·have Ho:gw≠b:=by have:=h.hi;omega
  exact(bJ.cell (a:=⟨gw,j,I⟩) (show gw<_ by have:=hb.size;omega) Ho).trans ((ks (a:=⟨gw,j,I⟩) kw).trans (h.wt j hj))
 ·have Ho:gw≠b:=by have:=h.hi;omega
  exact(M (a:=⟨gw,p,I⟩) (bJ.block gw (by have:=hb.size;omega) Ho)).trans ((M (a:=⟨gw,p,I⟩) kw).trans (h.wf p))
theorem ygG (w:A):jp (w.alloc (O #[Z I 0 0,Q P,J B 0,J B 0,Q P,J B 0,J B 0,Q P,J yJ 0] 66)) w.heap.size (Z I 0 0) Pg.Cr.new:=by
 have hn:=heap_alloc_new w (O #[Z I 0 0,Q P,J B 0,J B 0,Q P,J B 0,J B 0,Q P,J yJ 0] 66)
 have TP:vl (w.alloc (O #[Z I 0 0,Q P,J B 0,J B 0,Q P,J B 0,J B 0,Q P,J yJ 0] 66)) w.heap.size (Z I 0 0) []:=
  ⟨cell_of_row _ _ 0 _ _ _ hn,fun o=>by unfold ua;simp only[hn];simp,zm.nil _ _ _,fun e=>by simp[kO]at e,Pg.Kept.nil⟩
 refine⟨TP,⟨0,0,0,?_,?_,?_,?_,?_,?_,?_,?_,fun p=> ?_,fun h=>(by cases h),fun h=>absurd rfl h⟩,Pg.Wk.yi5⟩
 all_goals (simp[go_sem,Pg.Cr.new,Pg.Wk.off];done)
theorem Nsp.push {w wr w6:A} {b bm g0 g1 gw co k g cap:Nat} {vm vC:Value} {S:Pg.Fs} {cb:Nat->Nat} (h:Nsp w wr b bm g0 g1 gw vm vC S co k cb) (G:ygE b vC (wr.alloc (O #[Z I 0 0,Q P,J B 0,J B 0,Q P,J B 0,J B 0,Q P,J yJ 0] 66)) w6 g) (hg:vC.ownBlock=N g\/wr.heap.size+1<g)
 (ho:w6.ownsRow (b+1) 67 1 (Z (N ⟨g,0,I⟩) (k+1) cap) (k+1) (j7 cb k++[U (N ⟨wr.heap.size,0,I⟩)])):
 Nsp w (w6.setCell ⟨b,2,I⟩ (Z (N ⟨g,0,I⟩) (k+1) cap)) b bm g0 g1 gw vm (Z (N ⟨g,0,I⟩) (k+1) cap) S co (k+1) (fun j=>if j=k then wr.heap.size else cb j):=by
 have kI:=zA (zR wr) (O #[Z I 0 0,Q P,J B 0,J B 0,Q P,J B 0,J B 0,Q P,J yJ 0] 66);have rY:b<wr.heap.size:=H _ _ h.c0
 have pU:(wr.alloc (O #[Z I 0 0,Q P,J B 0,J B 0,Q P,J B 0,J B 0,Q P,J yJ 0] 66)).heap.size=wr.heap.size+1:=by simp
 have lV:w.heap.size<=b:=by have:=h.hi;have:=h.lo;omega
 have H7:But (fun x=>vC.ownBlock=N x) wr w6:=(But.yhp kI).trans G.but (fun _ _ h=>h);have tq:But (fun x=>vC.ownBlock=N x\/x=b) wr (w6.setCell ⟨b,2,I⟩ (Z (N ⟨g,0,I⟩) (k+1) cap)):=(H7.mono (fun _ _ h=> .inl h)).setCell (a:=⟨b,2,I⟩) (.inr (.inr rfl)) _;have lM:∀x,vC.ownBlock=N x->b<x:=G.far;have kb:=H7.block b rY (fun e=>by have:=lM b e;omega);have e0:∀p,w6.cell? ⟨b,p,I⟩=wr.cell? ⟨b,p,I⟩:=fun p=>ks (a:=⟨b,p,I⟩) kb;have f0:∀p,w6.frozen? ⟨b,p,I⟩=P:=fun p=>(M (a:=⟨b,p,I⟩) kb).trans (h.fb p);have k0:=(e0 0).trans h.c0;have k1:=(e0 1).trans h.c1;have k2:=(e0 2).trans h.c2;have k3:=(e0 3).trans h.c3;have k4:=(e0 4).trans h.c4;have k5:=(e0 5).trans h.c5;have k6:=(e0 6).trans h.c6;have k7:=(e0 7).trans h.c7;have k8:=(e0 8).trans h.c8;have k9:=(e0 9).trans h.c9;have low:∀x,x<b->¬(vC.ownBlock=N x\/x=b):=fun x hx e=>e.elim (fun e=>by have:=lM x e;omega) (fun e=>by omega);have Rx:=h.hi.2.2.2;have kw:=tq.block gw (by omega) (low gw Rx);have bJ:But (fun x=>x=b) w6 (w6.setCell ⟨b,2,I⟩ (Z (N ⟨g,0,I⟩) (k+1) cap)):=(But.refl (fun x=>x=b) w6).setCell (a:=⟨b,2,I⟩) (.inr rfl) _;have Fz:b<g:=G.gc;have Px:∀x,vC.ownBlock=N x->x<wr.heap.size:=fun x hx=>(h.own.lt x hx).2;have FC:g≠wr.heap.size:=fun e=>hg.elim (fun h'=>by have:=Px g h';omega) (fun h'=>by omega);refine⟨?_,by simp[go_sem,k0],by simp[go_sem,k1],by simp[go_sem,k2],by simp[go_sem,k3],by simp[go_sem,k4],by simp[go_sem,k5],by simp[go_sem,k6],by simp[go_sem,k7],by simp[go_sem,k8],by simp[go_sem,k9],fun p=>by simp[go_sem,f0],h.mem.keep tq (fun x hx=>low x ?_),h.vmN,h.lo,h.hi,h.gwm,fun j hj=>(ks (a:=⟨gw,j,I⟩) kw).trans (h.wt j hj),fun p=>(M (a:=⟨gw,p,I⟩) kw).trans (h.wf p),?_,fun j hj=> ?_,fun i j hi hj e=> ?_⟩
 ·exact h.bel.trans (tq.below h.bel.size (fun x hx=>hx.elim (fun e=>by have:=lM x e;omega) (fun e=>by omega)))
 ·have a1:=h.hi
  rcases hx with hx|hx|hx|hx
  ·omega
  ·omega
  ·omega
  ·rw[h.vmN]at hx;cases hx
 ·have hp:j7 (fun j=>if j=k then wr.heap.size else cb j) (k+1)=j7 cb k++[U (N ⟨wr.heap.size,0,I⟩)]:=by
   rw[vW,if_pos rfl,vX (cb':=cb) (fun j hj=>by rw[if_neg (by omega)])]
  rw[hp]
  exact zb ho (fun x hx=>by
   have:x=g:=by simpa[kO]using hx.symm
   subst this
   exact bJ.block x G.gl (by omega))
 ·by_cases e:j=k
  ·subst e
   simp only[if_true];refine⟨?_,rY,by simpa[kO]using FC⟩;refine((ygG wr).keep G.but (fun x hx e=> ?_)).keep bJ (fun x hx e=> ?_)
   ·rcases hx with hx|hx
    ·have:=Px x e
     omega
    ·simp[kO]at hx
   ·rcases hx with hx|hx
    ·omega
    ·simp[kO]at hx
  ·have mU:j<k:=by omega
   obtain⟨c1,c2,c3⟩:=h.core j mU;simp only[if_neg e];have Wj:=c1.lb;refine⟨c1.keep tq (fun x hx e=> ?_),c2,?_⟩
   ·rcases hx with hx|hx
    ·subst hx
     exact e.elim c3 (fun e=>by omega)
    ·simp[kO]at hx
   ·intro e'
    have:g=cb j:=by simpa[kO]using e'
    rcases hg with hg|hg
    ·exact c3 (this▸hg)
    ·omega
 ·by_cases ei:i=k
  ·by_cases ej:j=k
   ·omega
   ·have mU:j<k:=by omega
    have:=(h.core j mU).1.lb;simp only[ei,if_true,if_neg ej]at e;omega
  ·by_cases ej:j=k
   ·have Wd:i<k:=by omega
    have:=(h.core i Wd).1.lb;simp only[ej,if_true,if_neg ei]at e;omega
   ·simp only[if_neg ei,if_neg ej]at e
    exact h.inj i j (by omega) (by omega) e
theorem yca (co n:Nat) (h1:1<=co) (h4:co<=4) (hn:1<=n) (FV:n<=128) (w:A):
 Calls z 11 #[J B (co:Int),J B (n:Int)] w fun e w'=>∃b F,e=ki (U (N ⟨b,0,I⟩))/\yak w' b (Pg.Spc.new co n) F/\Below w.heap.size w w'/\∀k,F k->w.heap.size<=k:=by
 obtain⟨q1,Ci,GI,KF,Sj⟩:=info_parts ydn
 have m1:∀w:A,(Instr.makeSlice 50 (J B (co:Int)) (J B (co:Int))).run z w=_:=fun w=>
  run_make w 50 4 q1 _ Tryz.underlying50 Ci GI B B co co (by omega) (Int.le_refl _) (by rw[Sj];omega) (by omega)
 rw[KF]at m1;simp only[yI]at m1;have HM:=fun w'=>yd2 n FV w';obtain⟨p0,uM,ow,Sa,Sb⟩:=info_parts yeJ
 go_enter Tryz.func11,Tryz.ntmps11
 go_wp2_with fail
 go_region_held3 (fun _=>True) (trivial) (
  (go_at_call 50;refine(HM _).mono ?_;rintro en w1 ⟨bm,g0,g1,rfl,hm,Ha,n0,n1,n2⟩
   have oM:Hid _:=hm;have H9:Hid _:=Ha;have oN:Hid _:=(⟨n0,n1,n2⟩:_/\_/\_)
   clear hm Ha n0 n1 n2))
 all_goals
  have gL:=fun x (hx:xc bm g0 g1 (Z I 0 0) x)=>oM.out.raw.lt hx;have s1:=gL bm (.inl rfl);have s2:=gL g0 (.inr (.inl rfl));have s3:=gL g1 (.inr (.inr (.inl rfl)));have s0:=H9.out.size;have s4:=oN.out;simp at s0 s4
 ·have NB:Hid _:=Nsp.begun (w:=w) (WB:=(w1.alloc (O (madeCells #[Q P] co) 4)).alloc (O #[U (N ⟨bm,0,I⟩),J B 0,Z I 0 0,Q P,Z I 0 0,J B 0,J B 0,J B 0,J B 0,Z (N ⟨w1.heap.size,0,I⟩) co co] 52)) (b:=w1.heap.size+1) (gw:=w1.heap.size) (g0:=g0) (g1:=g1) (zT (zT (zR w).drew H9.out) (zA (zA (zR w1) _) _)) (by simpa using heap_alloc_new (w1.alloc (O (madeCells #[Q P] co) 4)) (O #[U (N ⟨bm,0,I⟩),J B 0,Z I 0 0,Q P,Z I 0 0,J B 0,J B 0,J B 0,J B 0,Z (N ⟨w1.heap.size,0,I⟩) co co] 52)) (((zA (zR _) _).block _ (by simp)).trans (heap_alloc_new w1 (O (madeCells #[Q P] co) 4))) (oM.out.grow (zA (zA (zR w1) _) _)) (by omega) (by omega) (by omega)
  generalize (w1.alloc (O (madeCells #[Q P] co) 4)).alloc (O #[U (N ⟨bm,0,I⟩),J B 0,Z I 0 0,Q P,Z I 0 0,J B 0,J B 0,J B 0,J B 0,Z (N ⟨w1.heap.size,0,I⟩) co co] 52)=WB at*;generalize w1.heap.size+1=b at*;generalize w1.heap.size=gw at*;clear oM H9 oN gL s0 s1 s2 s3 s4 m1 HM;have c0:=NB.out.c0;have HT:=jC WB NB.out.mem;rw[show(Pg.Fs.new n).takeN=0 by unfold Pg.Fs.takeN Pg.Fs.pick Pg.Fs.new;simp only[yS];rw[if_pos (by omega)];rfl]at HT
  go_wp2_with fail
  refine HT.mono ?_;rintro e w2 ⟨rfl,v2,si,Hd,Gw⟩;obtain⟨N2,e2,f2⟩:=NB.out.root si Gw Hd;have N2:Hid _:=N2;have k1:=(e2 1).trans NB.out.c1;clear c0 HT si Hd Gw e2 NB
  go_upto_region 3 with fail
  generalize w2.setCell ⟨b,1,I⟩ (J B 0)=W3 at*;clear k1 f2
  go_wp2_with fail
  go_loopw [6] (fun i wr=>∃k:Nat,k<=co/\i=J B k/\Hid (∃vC cb,Nsp w wr b bm g0 g1 gw v2 vC (Pg.Fs.new n).take co k cb)) (fun i _=>co-(intOf i).toNat)
  case atStart=>exact⟨0,by omega,rfl,⟨_,_,N2.out⟩⟩
  case round=>
   obtain⟨k,hk,rfl,HR⟩:=hrel;obtain⟨vC,cb,HN⟩:=HR.out;have HN:Hid _:=HN;clear HR N2
   have j0:(0:Int)<=(k:Int):=by omega
   by_cases Hf:k<co
   ·have j1:(k:Int)<(co:Int):=by omega
    have k2:=HN.out.c2;have kf:=HN.out.fb;have rY:b<wr.heap.size:=H _ _ HN.out.c0
    have gm:b≠wr.heap.size:=by omega
    have Hr:=HN.out.own.alloc (O #[Z I 0 0,Q P,J B 0,J B 0,Q P,J B 0,J B 0,Q P,J yJ 0] 66)
    go_wp2_with (first
     | (at_builtin;refine wpList_append_lies _ rfl _ _ 49 rfl (b+1) 67 p0 (U I) 1 8 Tryz.underlying49 uM ow Sa Sb rfl (by decide) _ _ _ rfl (Hr.alloc _) ⟨wr.heap.size+1,0,I⟩ 1 1 [U (N ⟨wr.heap.size,0,I⟩)] rfl rfl ?c1 ?c2 (by decide) ?c3 ?c4 ?c5 (wr.heap.size+1+1) (by simp) ?_))
    case c1=>
     intro j u hj
     match j,hj with
     | 0,hj=>simp at hj;subst hj;simp[Addr.add,go_sem]
    case c2=>intro u hu;simp at hu;subst hu;rfl
    case c3=>unfold maxLen;omega
    case c4=>omega
    case c5=>simp;omega
    intro g cap w6 rV ry pq dh;have G6:=ygs Hr ry (pq.imp id (fun h=>by simp;omega)) (by simp;omega) dh;have N6:Hid _:=HN.out.push G6 (pq.imp id (fun h=>by omega)) rV;have kb:=G6.but.block b (by simp;omega) (fun e=>by have:=G6.far b e;omega);have k2':w6.cell? ⟨b,2,I⟩=N vC:=(ks (a:=⟨b,2,I⟩) kb).trans (((zA (zR wr) (O #[Z I 0 0,Q P,J B 0,J B 0,Q P,J B 0,J B 0,Q P,J yJ 0] 66)).cell (p:=⟨b,2,I⟩) rY).trans k2);have kf':∀q,w6.frozen? ⟨b,q,I⟩=P:=fun q=>(M (a:=⟨b,q,I⟩) kb).trans ((M (a:=⟨b,q,I⟩) ((zA (zR wr) (O #[Z I 0 0,Q P,J B 0,J B 0,Q P,J B 0,J B 0,Q P,J yJ 0] 66)).block b rY)).trans (kf q));clear Hr rV ry pq dh G6 HN k2 kf kb
    go_wp2_with fail
    go_roundw
    case rel=>exact⟨k+1,by omega,by go_num,⟨_,_,N6.out⟩⟩
    case measure=>simp[intOf];omega
   ·have j1:¬(k:Int)<(co:Int):=by omega
    have ek:k=co:=by omega
    subst ek;have FIN:Hid _:=HN.out.done h1 h4;have HB:Hid _:=HN.out.bel;clear HN
    go_wp2_with fail
    go_ret
    obtain⟨F,hR,hF⟩:=FIN.out;exact⟨b,rfl,F,hR,HB.out,hF⟩
 ·have kI:=zA (zR w) (O (madeCells #[Q P] co) 4)
  have NB:Hid _:=Nsp.begun (w:=w) (WB:=w1.alloc (O #[U (N ⟨bm,0,I⟩),J B 0,Z I 0 0,Q P,Z I 0 0,J B 0,J B 0,J B 0,J B 0,Z (N ⟨w.heap.size,0,I⟩) co co] 52)) (b:=w1.heap.size) (gw:=w.heap.size) (g0:=g0) (g1:=g1) (zT (zT kI.drew H9.out) (zA (zR w1) _)) (heap_alloc_new w1 (O #[U (N ⟨bm,0,I⟩),J B 0,Z I 0 0,Q P,Z I 0 0,J B 0,J B 0,J B 0,J B 0,Z (N ⟨w.heap.size,0,I⟩) co co] 52)) (((zA (zR w1) _).block _ (by omega)).trans ((H9.out.block _ (by simp)).trans (heap_alloc_new w (O (madeCells #[Q P] co) 4)))) (oM.out.grow (zA (zR w1) _)) (by omega) (by omega) (by omega);generalize w1.alloc (O #[U (N ⟨bm,0,I⟩),J B 0,Z I 0 0,Q P,Z I 0 0,J B 0,J B 0,J B 0,J B 0,Z (N ⟨w.heap.size,0,I⟩) co co] 52)=WB at*;clear kI;generalize w1.heap.size=b at*;obtain⟨gw,Rx⟩:∃gw,gw=w.heap.size:=⟨_,rfl⟩;rw[<-Rx]at NB ⊢;clear Rx;clear oM H9 oN gL s0 s1 s2 s3 s4 m1 HM;have c0:=NB.out.c0;have HT:=jC WB NB.out.mem;rw[show(Pg.Fs.new n).takeN=0 by unfold Pg.Fs.takeN Pg.Fs.pick Pg.Fs.new;simp only[yS];rw[if_pos (by omega)];rfl]at HT
  go_wp2_with fail
  refine HT.mono ?_;rintro e w2 ⟨rfl,v2,si,Hd,Gw⟩;obtain⟨N2,e2,f2⟩:=NB.out.root si Gw Hd;have N2:Hid _:=N2;have k1:=(e2 1).trans NB.out.c1;clear c0 HT si Hd Gw e2 NB
  go_upto_region 3 with fail
  generalize w2.setCell ⟨b,1,I⟩ (J B 0)=W3 at*;clear k1 f2
  go_wp2_with fail
  go_loopw [6] (fun i wr=>∃k:Nat,k<=co/\i=J B k/\Hid (∃vC cb,Nsp w wr b bm g0 g1 gw v2 vC (Pg.Fs.new n).take co k cb)) (fun i _=>co-(intOf i).toNat)
  case atStart=>exact⟨0,by omega,rfl,⟨_,_,N2.out⟩⟩
  case round=>
   obtain⟨k,hk,rfl,HR⟩:=hrel;obtain⟨vC,cb,HN⟩:=HR.out;have HN:Hid _:=HN;clear HR N2
   have j0:(0:Int)<=(k:Int):=by omega
   by_cases Hf:k<co
   ·have j1:(k:Int)<(co:Int):=by omega
    have k2:=HN.out.c2;have kf:=HN.out.fb;have rY:b<wr.heap.size:=H _ _ HN.out.c0
    have gm:b≠wr.heap.size:=by omega
    have Hr:=HN.out.own.alloc (O #[Z I 0 0,Q P,J B 0,J B 0,Q P,J B 0,J B 0,Q P,J yJ 0] 66)
    go_wp2_with (first
     | (at_builtin;refine wpList_append_lies _ rfl _ _ 49 rfl (b+1) 67 p0 (U I) 1 8 Tryz.underlying49 uM ow Sa Sb rfl (by decide) _ _ _ rfl (Hr.alloc _) ⟨wr.heap.size+1,0,I⟩ 1 1 [U (N ⟨wr.heap.size,0,I⟩)] rfl rfl ?c1 ?c2 (by decide) ?c3 ?c4 ?c5 (wr.heap.size+1+1) (by simp) ?_))
    case c1=>
     intro j u hj
     match j,hj with
     | 0,hj=>simp at hj;subst hj;simp[Addr.add,go_sem]
    case c2=>intro u hu;simp at hu;subst hu;rfl
    case c3=>unfold maxLen;omega
    case c4=>omega
    case c5=>simp;omega
    intro g cap w6 rV ry pq dh;have G6:=ygs Hr ry (pq.imp id (fun h=>by simp;omega)) (by simp;omega) dh;have N6:Hid _:=HN.out.push G6 (pq.imp id (fun h=>by omega)) rV;have kb:=G6.but.block b (by simp;omega) (fun e=>by have:=G6.far b e;omega);have k2':w6.cell? ⟨b,2,I⟩=N vC:=(ks (a:=⟨b,2,I⟩) kb).trans (((zA (zR wr) (O #[Z I 0 0,Q P,J B 0,J B 0,Q P,J B 0,J B 0,Q P,J yJ 0] 66)).cell (p:=⟨b,2,I⟩) rY).trans k2);have kf':∀q,w6.frozen? ⟨b,q,I⟩=P:=fun q=>(M (a:=⟨b,q,I⟩) kb).trans ((M (a:=⟨b,q,I⟩) ((zA (zR wr) (O #[Z I 0 0,Q P,J B 0,J B 0,Q P,J B 0,J B 0,Q P,J yJ 0] 66)).block b rY)).trans (kf q));clear Hr rV ry pq dh G6 HN k2 kf kb
    go_wp2_with fail
    go_roundw
    case rel=>exact⟨k+1,by omega,by go_num,⟨_,_,N6.out⟩⟩
    case measure=>simp[intOf];omega
   ·have j1:¬(k:Int)<(co:Int):=by omega
    have ek:k=co:=by omega
    subst ek;have FIN:Hid _:=HN.out.done h1 h4;have HB:Hid _:=HN.out.bel;clear HN
    go_wp2_with fail
    go_ret
    obtain⟨F,hR,hF⟩:=FIN.out;exact⟨b,rfl,F,hR,HB.out,hF⟩
structure Wdt (w0 w:A) (b r t:Nat) (X X':Pg.Spc) (L L0:List Pg.Mp) (ti:Int) (F R:Nat->Prop) (T:Pg.Tms) (G:Nat->Prop):Prop where
 wt:jr w b X L L0 ti F
 rs:yak w r X' R
 tm:ybE w t T G
 ap:∀k,(F k->¬R k/\¬G k)/\(R k->¬G k)
 bel:Below w0.heap.size w0 w
 hi:∀k,F k\/R k\/G k->w0.heap.size<=k
namespace Wdt
variable {w0 w w':A} {b r t:Nat} {X X' Y:Pg.Spc} {L L0 L' L0':List Pg.Mp} {ti KV:Int} {F F' R R' G G':Nat->Prop} {T T':Pg.Tms}
theorem grow (h:Wdt w0 w b r t X Y L L0 ti F R T G) (hb:Below w.heap.size w w'):Wdt w0 w' b r t X Y L L0 ti F R T G:=⟨h.wt.grow hb,h.rs.grow hb,h.tm.grow hb,h.ap,zT h.bel hb,h.hi⟩
theorem stepW (h:Wdt w0 w b r t X Y L L0 ti F R T G) (hw:jr w' b X' L' L0' KV F') (hb:But F w w') (hF:∀k,F' k->F k\/w.heap.size<=k):Wdt w0 w' b r t X' Y L' L0' KV F' R T G:=
 ⟨hw,h.rs.keep hb fun k hk hf=>((h.ap k).1 hf).1 hk,h.tm.keep hb fun k hk hf=>((h.ap k).1 hf).2 hk,fun k=>⟨fun hk=>(hF k hk).elim (h.ap k).1 fun e=>⟨fun hr=>by have:=h.rs.lt hr;omega,fun hg=>by have:=h.tm.lt hg;omega⟩,(h.ap k).2⟩,
  h.bel.trans (hb.below h.bel.size fun k hk=>h.hi k (.inl hk)),fun k hk=>hk.elim (fun hk=>(hF k hk).elim (fun e=>h.hi k (.inl e)) fun e=>yB h.bel.size e) fun hk=>h.hi k (.inr hk)⟩
theorem stepR (h:Wdt w0 w b r t X Y L L0 ti F R T G) (hw:yak w' r X' R') (hb:But R w w') (hF:∀k,R' k->R k\/w.heap.size<=k):Wdt w0 w' b r t X X' L L0 ti F R' T G:=
 ⟨h.wt.keep hb fun k hk hf=>((h.ap k).1 hk).1 hf,hw,h.tm.keep hb fun k hk hf=>(h.ap k).2 hf hk,fun k=>⟨fun hk=>⟨fun hr=>(hF k hr).elim ((h.ap k).1 hk).1 fun e=>by have:=h.wt.lt hk;omega,((h.ap k).1 hk).2⟩,fun hk=>(hF k hk).elim (h.ap k).2 fun e hg=>by have:=h.tm.lt hg;omega⟩,
  h.bel.trans (hb.below h.bel.size fun k hk=>h.hi k (.inr (.inl hk))),fun k hk=>by
   rcases hk with hk|hk|hk
   ·exact h.hi k (.inl hk)
   ·exact(hF k hk).elim (fun e=>h.hi k (.inr (.inl e))) fun e=>yB h.bel.size e
   ·exact h.hi k (.inr (.inr hk))⟩
theorem stepT (h:Wdt w0 w b r t X Y L L0 ti F R T G) (hd:ve w t G T' w'):∃G',Wdt w0 w' b r t X Y L L0 ti F R T' G':=by
 obtain⟨G',hT,hb,hG⟩:=hd
 exact⟨G',h.wt.keep hb fun k hk hg=>((h.ap k).1 hk).2 hg,h.rs.keep hb fun k hk hg=>(h.ap k).2 hk hg,hT,fun k=>⟨fun hk=>⟨((h.ap k).1 hk).1,fun hg=>(hG k hg).elim ((h.ap k).1 hk).2 fun e=>by have:=h.wt.lt hk;omega⟩,fun hk hg=>(hG k hg).elim ((h.ap k).2 hk) fun e=>by have:=h.rs.lt hk;omega⟩,
  h.bel.trans (hb.below h.bel.size fun k hk=>h.hi k (.inr (.inr hk))),fun k hk=>by
   rcases hk with hk|hk|hk
   ·exact h.hi k (.inl hk)
   ·exact h.hi k (.inr (.inl hk))
   ·exact(hG k hk).elim (fun e=>h.hi k (.inr (.inr e))) fun e=>yB h.bel.size e⟩
end Wdt
theorem yak.told {w:A} {b:Nat} {X:Pg.Spc} {F:Nat->Prop} (h:yak w b X F):∃bm g0 g1 vm,w.cell? ⟨b,0,I⟩=N (U (N ⟨bm,0,I⟩))/\w.cell? ⟨b,3,I⟩=N (Q X.busy)/\zj w bm g0 g1 vm X.S:=by
 obtain⟨D,h,hz,rfl⟩:=h;exact⟨_,_,_,_,h.c0,by rw[<-hz];exact h.c3,h.mem⟩
theorem yak.free {w:A} {b bm:Nat} {X:Pg.Spc} {F:Nat->Prop} (h:yak w b X F) (hc:w.cell? ⟨b,0,I⟩=N (U (N ⟨bm,0,I⟩))):Calls z 22 #[U (N ⟨bm,0,I⟩)] w fun e w'=>e=ki (J B X.S.free)/\Below w.heap.size w w':=by
 obtain⟨bm',g0,g1,vm,c,_,hm⟩:=h.told;rw[hc]at c;injection c with c;injection c with c;injection c with c;injection c with c;subst c;exact vS w hm
theorem ybE.told {w:A} {b:Nat} {T:Pg.Tms} {F:Nat->Prop} (h:ybE w b T F):∃ad cap,w.cell? ⟨b,0,I⟩=N (Z ad T.L.length cap):=by
 obtain⟨D,h,rfl⟩:=h;obtain⟨ad,cap,e⟩:=zF h.row;exact⟨ad,cap,by rw[<-e];exact h.c0⟩
theorem Pg.next_chg (T:Pg.Tms) (X:Pg.Spc) (x:Pg.Sx):((T.next x (X.goE x)).L.length:Int)=(T.L.length:Int)+X.chg x:=by
 unfold Pg.Tms.next Pg.Tms.more Pg.Spc.chg;simp only
 by_cases hc:(X.goE x).c=0/\1<=x.kind/\x.kind<=3
 ·rw[if_pos hc,if_pos ⟨hc.2.1,hc.2.2,hc.1⟩]
  simp
 ·rw[if_neg hc,if_neg fun e=>hc ⟨e.2.2,e.1,e.2.1⟩]
  simp
end Go.Proofs.YtdphiompijbelaaGreat
