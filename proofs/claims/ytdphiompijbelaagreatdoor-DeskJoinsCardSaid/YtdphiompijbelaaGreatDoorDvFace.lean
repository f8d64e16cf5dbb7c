import Derived.Test.YtdphiompijbelaaGreatDoorPlainWt
import Derived.Test.YtdphiompijbelaaGreatDoorDkV
set_option linter.all false
set_option maxRecDepth 100000
open List renaming take_succ_cons->o,drop_succ_cons->d,take_zero->kI,drop_zero->kJ,length_set->kS
open Go.Obj renaming cells->z
open Nat renaming lt_of_lt_of_le->A,le_refl->l
open Bool renaming false->K,true->kR
open Go renaming cell_regrown->Z,World->U,bodyPost_ret->O,Calls->y,heap_alloc_new->m,Value->kT
open Go.RowKit renaming Hid->Q
open Go.Proofs.Tryz renaming prog->V
open Go.IntKind renaming i64->Y
open Go.Ending renaming returned->N
open Go.Value renaming pointer->J,int->R,slice->M,ownBlock->kB,tuple->kP,agg->kC,pointer->kN,bool->kY
open Option renaming none->I,some->B
set_option maxHeartbeats 2000000
namespace Go.Proofs.YtdphiompijbelaaGreatDoor
open Go.RowKit Go.Sort
section
attribute [local go_sem] Loose.gent
theorem zi.grow {w w' w'':U} {b:Nat} {D:Dsd} {X X':Pg.Spc} (h:zi w b D X X' w') (hb:Below w'.heap.size w' w''):zi w b D X X' w'':=by
 obtain⟨D',h1,h2,h3⟩:=h;exact⟨D',h1.grow hb,h2.trans (But.yhl (F:=fun _=>False) hb) (fun _ _ h=>h.elim),h3⟩
theorem Dsk.done {w w':U} {b k:Nat} {D:Dsd} {X:Pg.Spc} {C':Pg.Cr} {S':Pg.Fs} {Fc FM':Nat->Prop} (h:Dsk w b D X) (hk:k<X.C.length) (hC:xY w' (D.cb k) 0 C' Fc) (hm:zh w' D.bm S' FM') (hb:But (fun j=>D.cF k j\/D.FM j) w w') (hF:∀x,Fc x->D.cF k x\/w.heap.size<=x) (hF2:∀x,FM' x->D.FM x\/w.heap.size<=x) (hne:∀x,Fc x->¬FM' x):
 zi w b D X {X with S:=S',C:=X.C.set k C'} w':=by
 have hl:(X.C.set k C').length=X.C.length:=kS;refine⟨_,h.walked hk hC hm hb hF hF2 hne,hb.mono (fun x _ e=>e.elim (fun e=>⟨k+5,hk,e⟩) (fun e=>⟨1,e⟩)),fun x hx=> ?_⟩;simp only[hl]at hx;exact yan hk hF hF2 x hx
theorem Dsk.yl3 {w w':U} {b k:Nat} {D:Dsd} {X:Pg.Spc} {C':Pg.Cr} {Fc:Nat->Prop} (h:Dsk w b D X) (hk:k<X.C.length) (hC:xY w' (D.cb k) 0 C' Fc) (hb:But (D.cF k) w w') (hF:∀x,Fc x->D.cF k x\/w.heap.size<=x):
 zi w b D X {X with C:=X.C.set k C'} w':=by
 have hl:(X.C.set k C').length=X.C.length:=kS;refine⟨_,h.asked hk hC hb hF,hb.mono (fun x _ e=>⟨k+5,hk,e⟩),fun x hx=> ?_⟩;simp only[hl]at hx;exact ybc hk hF x hx
theorem Dsk.apart {w:U} {b k:Nat} {D:Dsd} {X:Pg.Spc} (h:Dsk w b D X) (hk:k<X.C.length):∀j,D.cF k j->¬D.FM j:=fun j hj hm=>by
 have:=h.part (k+5) 1 j ⟨hk,hj⟩ hm;omega
theorem ybg {b:Nat} {D:Dsd} {X:Pg.Spc} (x:Pg.Sx) (hc:x.core<0\/(X.C.length:Int)<=x.core) (w:U) (h:Dsk w b D X):
 y V 154 #[J (B ⟨b,0,I⟩),x.val] w fun e w'=>e=N (Pg.Ev.code 1).val/\Below w.heap.size w w':=by
 obtain⟨W,hW⟩:∃W,W=chW w x:=⟨_,rfl⟩
 have CW:Q (ChW w W x):=by rw[hW];exact qx w x
 have HH:=xB x.core W (h.grow CW.out.bel);rw[show(decide (0<=x.core)&&decide (x.core<(X.C.length:Int)))=K by simp;omega]at HH;have hWs:W.heap.size=w.heap.size+2:=CW.out.size;have x1:=CW.out.x1;clear h hc;obtain⟨kd,co,⟨p,s,f,r⟩,q,k,u⟩:=x;simp only at x1 HH;simp only[chW,Pg.Sx.val]at hW ⊢
 go_enter Tryz.func154,Tryz.ntmps154
 go_upto_region 1 with fail
 rw[<-hW];clear hW
 go_wp2_with fail
 refine HH.mono ?_;rintro e w1 ⟨rfl,hw⟩;subst w1
 go_wp2_with fail
 refine(zX 1 _).mono ?_;rintro e w2 ⟨rfl,hb2⟩;obtain⟨⟨z0,z1,z2,z3,z4,z5⟩,zf⟩:=z9 ((hb2.block _ (by omega)).trans CW.out.ev)
 have hs2:w.heap.size+1<w2.heap.size:=by have:=hb2.size;omega
 have HB2:Q (Below w.heap.size w w2):=zT CW.out.bel hb2;clear hb2;simp only[Pg.Ev.val,Pg.Ev.code]
 go_wp2_with fail
 refine O (v:=(Pg.Ev.code 1).val) ?_ rfl ⟨rfl,?_⟩
 ·simp[results,Tryz.results154,go_sem,z0,z1,z2,z3,z4,z5,hs2,Pg.Ev.val,Pg.Ev.code]
 ·exact ycR HB2.out _ (by omega) _ _ _ _ _ _
theorem yaN {b:Nat} {D:Dsd} {X:Pg.Spc} {c:Nat} (x:Pg.Sx) (hx:x.kind=4) (hc:x.core=(c:Int)) (hl:c<X.C.length) (w:U) (h:Dsk w b D X):
 y V 154 #[J (B ⟨b,0,I⟩),x.val] w fun e w'=>e=N ((X.C.getD c Pg.Cr.new).bgT x.q x.k x.u).ev.val/\zi w b D X {X with C:=X.C.set c ((X.C.getD c Pg.Cr.new).bgN 0 x.q x.k x.u)} w':=by
 obtain⟨W,hW⟩:∃W,W=chW w x:=⟨_,rfl⟩
 have CW:Q (ChW w W x):=by rw[hW];exact qx w x
 have PW:Q _:=h.grow CW.out.bel;have HH:=xB x.core W PW.out;rw[show(decide (0<=x.core)&&decide (x.core<(X.C.length:Int)))=kR by rw[hc];simp[hl]]at HH;have LT:Q (∀x,dsF D b X.C.length X.G x->x<w.heap.size):=h.owns;have hWs:W.heap.size=w.heap.size+2:=CW.out.size;have x1:=CW.out.x1;have g2:=Z PW.out.c2;have gc:=Z (PW.out.row c hl);have y1:=Z CW.out.x1;clear h;obtain⟨kd,co,⟨p,s,f,r⟩,q,k,u⟩:=x;simp only at hx hc x1 y1 HH;subst hx hc
 have i0:(0:Int)<=(c:Int):=by omega
 have i1:(c:Int)<(X.C.length:Int):=by omega
 have HBG:=fun w' (h:xY w' (D.cb c) 0 (X.C.getD c Pg.Cr.new) (D.cF c))=>yb1 q k u w' h;generalize hT:(X.C.getD c Pg.Cr.new).bgT q k u=T at*;generalize hC':(X.C.getD c Pg.Cr.new).bgN 0 q k u=C' at*;clear hT hC';obtain⟨ta,tf,tr,te,tc⟩:=T;simp only[Pg.Tl.val,Pg.Tl.ev]at HBG ⊢;simp only[chW,Pg.Sx.val]at hW ⊢
 go_enter Tryz.func154,Tryz.ntmps154
 go_upto_region 1 with fail
 rw[<-hW];clear hW
 go_wp2_with fail
 refine HH.mono ?_;rintro e w1 ⟨rfl,hw⟩;subst w1
 go_upto_region 3 with fail
 clear HH x1;refine Loose.yhn 8 (by kernel_rfl) (by kernel_rfl) ?_;simp only[o,kI,d,kJ]
 repeat (
  refine Loose.zS (fun k hk=> ?_)
  go_simp
  (refine hk _ ?_;clear hk k))
 refine Loose.yho ?_;intro w3 hb3;have P3:Q _:=PW.out.grow hb3;have B3:Q (Below w.heap.size w w3):=zT CW.out.bel hb3;have E3:Q (w3.heap[w.heap.size+1]?=_):=(hb3.block _ (by omega)).trans CW.out.ev
 have hs3:w.heap.size+1<w3.heap.size:=by have:=hb3.size;omega
 have x0:=(hb3.cell (p:=⟨w.heap.size,0,I⟩) (show w.heap.size<_ by omega)).trans CW.out.x0;have x1:=(hb3.cell (p:=⟨w.heap.size,1,I⟩) (show w.heap.size<_ by omega)).trans CW.out.x1;have x6:=(hb3.cell (p:=⟨w.heap.size,6,I⟩) (show w.heap.size<_ by omega)).trans CW.out.x6;have x7:=(hb3.cell (p:=⟨w.heap.size,7,I⟩) (show w.heap.size<_ by omega)).trans CW.out.x7;have x8:=(hb3.cell (p:=⟨w.heap.size,8,I⟩) (show w.heap.size<_ by omega)).trans CW.out.x8;simp only at x0 x1 x6 x7 x8;clear hb3 g2 gc y1 PW CW;have HBG:=HBG w3 (P3.out.core c hl)
 go_wp2_with fail
 refine HBG.mono ?_;rintro e w4 ⟨rfl,hc4,hb4⟩;have D4:Q _:=P3.out.yl3 hl hc4 hb4 (fun x hx=> .inl hx);clear hc4 hb4 HBG P3
 go_wp2_with fail
 refine(jp ta tf tr tc te _).mono ?_;rintro e w5 ⟨rfl,hb5⟩;have D5:Q _:=D4.out.grow hb5;clear hb5 D4;have FIN:Q (∀Wf,But (fun x=>x=w.heap.size+1) w5 Wf->zi w b D X {X with C:=X.C.set c C'} Wf):=fun Wf hb=>D5.out.behind B3.out LT.out (fun x e=>by omega) hb;obtain⟨e5,hz5⟩:=D5.out.block (w:=w) (r:=w.heap.size+1) LT.out (by omega) (by omega);obtain⟨⟨z0,z1,z2,z3,z4,z5⟩,zf⟩:=z9 (e5.trans E3.out);clear e5 D5 E3 B3 x0 x1 x6 x7 x8;simp only[Pg.Ev.val,Pg.Ev.code]
 go_wp2_with fail
 refine O (v:=Pg.Ev.val ⟨tc,te,ta,tf,tr,K⟩) ?_ rfl ⟨rfl,FIN.out _ ?_⟩
 ·simp[results,Tryz.results154,go_sem,z0,z1,z2,z3,z4,z5,hz5,Pg.Ev.val,Pg.Ev.code]
 ·exact ybT _ _ _ _ _ _ _ _
theorem dvCore_walk {b:Nat} {D:Dsd} {X:Pg.Spc} {c:Nat} (x:Pg.Sx) (hx:x.kind=5) (hc:x.core=(c:Int)) (hl:c<X.C.length) (w:U) (h:Dsk w b D X):
 y V 154 #[J (B ⟨b,0,I⟩),x.val] w fun e w'=>e=N ((X.C.getD c Pg.Cr.new).stT X.S 0).ev.val/\zi w b D X {X with S:=(X.C.getD c Pg.Cr.new).stS X.S 0,C:=X.C.set c ((X.C.getD c Pg.Cr.new).stN X.S 0)} w':=by
 obtain⟨W,hW⟩:∃W,W=chW w x:=⟨_,rfl⟩
 have CW:Q (ChW w W x):=by rw[hW];exact qx w x
 have PW:Q _:=h.grow CW.out.bel;have HH:=xB x.core W PW.out;rw[show(decide (0<=x.core)&&decide (x.core<(X.C.length:Int)))=kR by rw[hc];simp[hl]]at HH;have LT:Q (∀x,dsF D b X.C.length X.G x->x<w.heap.size):=h.owns;have hWs:W.heap.size=w.heap.size+2:=CW.out.size;have x1:=CW.out.x1;have g2:=Z PW.out.c2;have gc:=Z (PW.out.row c hl);have y1:=Z CW.out.x1;clear h;obtain⟨kd,co,⟨p,s,f,r⟩,q,k,u⟩:=x;simp only at hx hc x1 y1 HH;subst hx hc
 have i0:(0:Int)<=(c:Int):=by omega
 have i1:(c:Int)<(X.C.length:Int):=by omega
 have HBG:=fun w' (h:xY w' (D.cb c) 0 (X.C.getD c Pg.Cr.new) (D.cF c)) (hm:zh w' D.bm X.S D.FM) hne=>ycW w' h hm hne;generalize hT:(X.C.getD c Pg.Cr.new).stT X.S 0=T at*;generalize hC':(X.C.getD c Pg.Cr.new).stN X.S 0=C' at*;generalize hS':(X.C.getD c Pg.Cr.new).stS X.S 0=S' at*;clear hT hC' hS';obtain⟨ta,tf,tr,te,tc⟩:=T;simp only[Pg.Tl.val,Pg.Tl.ev]at HBG ⊢;simp only[chW,Pg.Sx.val]at hW ⊢
 go_enter Tryz.func154,Tryz.ntmps154
 go_upto_region 1 with fail
 rw[<-hW];clear hW
 go_wp2_with fail
 refine HH.mono ?_;rintro e w1 ⟨rfl,hw⟩;subst w1
 go_upto_region 3 with fail
 clear HH x1;refine Loose.yhn 8 (by kernel_rfl) (by kernel_rfl) ?_;simp only[o,kI,d,kJ]
 repeat (
  refine Loose.zS (fun k hk=> ?_)
  go_simp
  (refine hk _ ?_;clear hk k))
 refine Loose.yho ?_;intro w3 hb3;have P3:Q _:=PW.out.grow hb3;have B3:Q (Below w.heap.size w w3):=zT CW.out.bel hb3;have E3:Q (w3.heap[w.heap.size+1]?=_):=(hb3.block _ (by omega)).trans CW.out.ev
 have hs3:w.heap.size+1<w3.heap.size:=by have:=hb3.size;omega
 have x0:=(hb3.cell (p:=⟨w.heap.size,0,I⟩) (show w.heap.size<_ by omega)).trans CW.out.x0;have x1:=(hb3.cell (p:=⟨w.heap.size,1,I⟩) (show w.heap.size<_ by omega)).trans CW.out.x1;have x6:=(hb3.cell (p:=⟨w.heap.size,6,I⟩) (show w.heap.size<_ by omega)).trans CW.out.x6;have x7:=(hb3.cell (p:=⟨w.heap.size,7,I⟩) (show w.heap.size<_ by omega)).trans CW.out.x7;have x8:=(hb3.cell (p:=⟨w.heap.size,8,I⟩) (show w.heap.size<_ by omega)).trans CW.out.x8;simp only at x0 x1 x6 x7 x8;clear hb3 g2 gc y1 PW CW;have HBG:=HBG w3 (P3.out.core c hl) P3.out.mem (P3.out.apart hl);have c0:=P3.out.c0
 go_wp2_with fail
 refine HBG.mono ?_;rintro e w4 ⟨rfl,Fc,FM,hc4,hm4,hb4,hF4,hF5,hne⟩;have D4:Q _:=P3.out.done hl hc4 hm4 hb4 hF4 hF5 hne;clear hc4 hb4 HBG P3 hm4 hF4 hF5 hne c0
 go_wp2_with fail
 refine(jp ta tf tr tc te _).mono ?_;rintro e w5 ⟨rfl,hb5⟩;have D5:Q _:=D4.out.grow hb5;clear hb5 D4;have FIN:Q (∀Wf,But (fun x=>x=w.heap.size+1) w5 Wf->zi w b D X {X with S:=S',C:=X.C.set c C'} Wf):=fun Wf hb=>D5.out.behind B3.out LT.out (fun x e=>by omega) hb;obtain⟨e5,hz5⟩:=D5.out.block (w:=w) (r:=w.heap.size+1) LT.out (by omega) (by omega);obtain⟨⟨z0,z1,z2,z3,z4,z5⟩,zf⟩:=z9 (e5.trans E3.out);clear e5 D5 E3 B3 x0 x1 x6 x7 x8;simp only[Pg.Ev.val,Pg.Ev.code]
 go_wp2_with fail
 refine O (v:=Pg.Ev.val ⟨tc,te,ta,tf,tr,K⟩) ?_ rfl ⟨rfl,FIN.out _ ?_⟩
 ·simp[results,Tryz.results154,go_sem,z0,z1,z2,z3,z4,z5,hz5,Pg.Ev.val,Pg.Ev.code]
 ·exact ybT _ _ _ _ _ _ _ _
theorem yc7 {b:Nat} {D:Dsd} {X:Pg.Spc} {c:Nat} (x:Pg.Sx) (hx:x.kind=6) (hc:x.core=(c:Int)) (hl:c<X.C.length) (w:U) (h:Dsk w b D X):
 y V 154 #[J (B ⟨b,0,I⟩),x.val] w fun e w'=>e=N (X.akE c).val/\zi w b D X (X.akN c) w':=by
 obtain⟨W,hW⟩:∃W,W=chW w x:=⟨_,rfl⟩
 have CW:Q (ChW w W x):=by rw[hW];exact qx w x
 have PW:Q _:=h.grow CW.out.bel;have HH:=xB x.core W PW.out;rw[show(decide (0<=x.core)&&decide (x.core<(X.C.length:Int)))=kR by rw[hc];simp[hl]]at HH;have LT:Q (∀x,dsF D b X.C.length X.G x->x<w.heap.size):=h.owns;have hWs:W.heap.size=w.heap.size+2:=CW.out.size;have x1:=CW.out.x1;have g2:=Z PW.out.c2;have gc:=Z (PW.out.row c hl);have y1:=Z CW.out.x1;clear h;obtain⟨kd,co,⟨p,s,f,r⟩,q,k,u⟩:=x;simp only at hx hc x1 y1 HH;subst hx hc
 have i0:(0:Int)<=(c:Int):=by omega
 have i1:(c:Int)<(X.C.length:Int):=by omega
 have HBG:=fun w' (h:Dsk w' b D X)=>ydN hl w' h;generalize hT:X.akE c=T at*;generalize hC':X.akN c=X' at*;clear hT hC';obtain⟨tc,te,ta,tf,tr,tb⟩:=T;simp only[chW,Pg.Sx.val]at hW ⊢
 go_enter Tryz.func154,Tryz.ntmps154
 go_upto_region 1 with fail
 rw[<-hW];clear hW
 go_wp2_with fail
 refine HH.mono ?_;rintro e w1 ⟨rfl,hw⟩;subst w1
 go_upto_region 3 with fail
 clear HH x1;refine Loose.yhn 8 (by kernel_rfl) (by kernel_rfl) ?_;simp only[o,kI,d,kJ]
 repeat (
  refine Loose.zS (fun k hk=> ?_)
  go_simp
  (refine hk _ ?_;clear hk k))
 refine Loose.yho ?_;intro w3 hb3;have P3:Q _:=PW.out.grow hb3;have B3:Q (Below w.heap.size w w3):=zT CW.out.bel hb3;have E3:Q (w3.heap[w.heap.size+1]?=_):=(hb3.block _ (by omega)).trans CW.out.ev
 have hs3:w.heap.size+1<w3.heap.size:=by have:=hb3.size;omega
 have x0:=(hb3.cell (p:=⟨w.heap.size,0,I⟩) (show w.heap.size<_ by omega)).trans CW.out.x0;have x1:=(hb3.cell (p:=⟨w.heap.size,1,I⟩) (show w.heap.size<_ by omega)).trans CW.out.x1;have x6:=(hb3.cell (p:=⟨w.heap.size,6,I⟩) (show w.heap.size<_ by omega)).trans CW.out.x6;have x7:=(hb3.cell (p:=⟨w.heap.size,7,I⟩) (show w.heap.size<_ by omega)).trans CW.out.x7;have x8:=(hb3.cell (p:=⟨w.heap.size,8,I⟩) (show w.heap.size<_ by omega)).trans CW.out.x8;simp only at x0 x1 x6 x7 x8;clear hb3 g2 gc y1 PW CW;have HBG:=HBG w3 P3.out
 go_wp2_with fail
 refine HBG.mono ?_;rintro e w4 ⟨rfl,d4⟩;have D5:Q _:=d4;clear d4 HBG P3;have FIN:Q (∀Wf,But (fun x=>x=w.heap.size+1) w4 Wf->zi w b D X X' Wf):=fun Wf hb=>D5.out.behind B3.out LT.out (fun x e=>by omega) hb;obtain⟨e5,hz5⟩:=D5.out.block (w:=w) (r:=w.heap.size+1) LT.out (by omega) (by omega);obtain⟨⟨z0,z1,z2,z3,z4,z5⟩,zf⟩:=z9 (e5.trans E3.out);clear e5 D5 E3 B3 x0 x1 x6 x7 x8;simp only[Pg.Ev.val,Pg.Ev.code]
 go_wp2_with fail
 refine O (v:=Pg.Ev.val ⟨tc,te,ta,tf,tr,tb⟩) ?_ rfl ⟨rfl,FIN.out _ ?_⟩
 ·simp[results,Tryz.results154,go_sem,z0,z1,z2,z3,z4,z5,hz5,Pg.Ev.val,Pg.Ev.code]
 ·exact ybT _ _ _ _ _ _ _ _
theorem ybf {b:Nat} {D:Dsd} {X:Pg.Spc} {c:Nat} (x:Pg.Sx) (hx:x.kind=7) (hc:x.core=(c:Int)) (hl:c<X.C.length) (w:U) (h:Dsk w b D X):
 y V 154 #[J (B ⟨b,0,I⟩),x.val] w fun e w'=>e=N (if (X.C.getD c Pg.Cr.new).L=[]then Pg.Ev.code 9 else Pg.Ev.code 0).val/\zi w b D X {X with C:=X.C.set c (X.C.getD c Pg.Cr.new).yja} w':=by
 obtain⟨W,hW⟩:∃W,W=chW w x:=⟨_,rfl⟩
 have CW:Q (ChW w W x):=by rw[hW];exact qx w x
 have PW:Q _:=h.grow CW.out.bel;have HH:=xB x.core W PW.out;rw[show(decide (0<=x.core)&&decide (x.core<(X.C.length:Int)))=kR by rw[hc];simp[hl]]at HH;have LT:Q (∀x,dsF D b X.C.length X.G x->x<w.heap.size):=h.owns;have hWs:W.heap.size=w.heap.size+2:=CW.out.size;have x1:=CW.out.x1;have g2:=Z PW.out.c2;have gc:=Z (PW.out.row c hl);have y1:=Z CW.out.x1;clear h;obtain⟨kd,co,⟨p,s,f,r⟩,q,k,u⟩:=x;simp only at hx hc x1 y1 HH;subst hx hc
 have i0:(0:Int)<=(c:Int):=by omega
 have i1:(c:Int)<(X.C.length:Int):=by omega
 have HBG:=fun w' (h:xY w' (D.cb c) 0 (X.C.getD c Pg.Cr.new) (D.cF c))=>yb7 w' h;generalize hT:(if (X.C.getD c Pg.Cr.new).L=[]then Pg.Ev.code 9 else Pg.Ev.code 0)=T at*;generalize hC':(X.C.getD c Pg.Cr.new).yja=C' at*;clear hT hC';obtain⟨tc,te,ta,tf,tr,tb⟩:=T;simp only[chW,Pg.Sx.val]at hW ⊢
 go_enter Tryz.func154,Tryz.ntmps154
 go_upto_region 1 with fail
 rw[<-hW];clear hW
 go_wp2_with fail
 refine HH.mono ?_;rintro e w1 ⟨rfl,hw⟩;subst w1
 go_upto_region 3 with fail
 clear HH x1;refine Loose.yhn 8 (by kernel_rfl) (by kernel_rfl) ?_;simp only[o,kI,d,kJ]
 repeat (
  refine Loose.zS (fun k hk=> ?_)
  go_simp
  (refine hk _ ?_;clear hk k))
 refine Loose.yho ?_;intro w3 hb3;have P3:Q _:=PW.out.grow hb3;have B3:Q (Below w.heap.size w w3):=zT CW.out.bel hb3;have E3:Q (w3.heap[w.heap.size+1]?=_):=(hb3.block _ (by omega)).trans CW.out.ev
 have hs3:w.heap.size+1<w3.heap.size:=by have:=hb3.size;omega
 have x0:=(hb3.cell (p:=⟨w.heap.size,0,I⟩) (show w.heap.size<_ by omega)).trans CW.out.x0;have x1:=(hb3.cell (p:=⟨w.heap.size,1,I⟩) (show w.heap.size<_ by omega)).trans CW.out.x1;have x6:=(hb3.cell (p:=⟨w.heap.size,6,I⟩) (show w.heap.size<_ by omega)).trans CW.out.x6;have x7:=(hb3.cell (p:=⟨w.heap.size,7,I⟩) (show w.heap.size<_ by omega)).trans CW.out.x7;have x8:=(hb3.cell (p:=⟨w.heap.size,8,I⟩) (show w.heap.size<_ by omega)).trans CW.out.x8;simp only at x0 x1 x6 x7 x8;clear hb3 g2 gc y1 PW CW;have HBG:=HBG w3 (P3.out.core c hl)
 go_wp2_with fail
 refine HBG.mono ?_;rintro e w4 ⟨rfl,Fc,hc4,hb4,hF4⟩;have D5:Q _:=P3.out.yl3 hl hc4 hb4 hF4;clear hc4 hb4 hF4 HBG P3;have FIN:Q (∀Wf,But (fun x=>x=w.heap.size+1) w4 Wf->zi w b D X {X with C:=X.C.set c C'} Wf):=fun Wf hb=>D5.out.behind B3.out LT.out (fun x e=>by omega) hb;obtain⟨e5,hz5⟩:=D5.out.block (w:=w) (r:=w.heap.size+1) LT.out (by omega) (by omega);obtain⟨⟨z0,z1,z2,z3,z4,z5⟩,zf⟩:=z9 (e5.trans E3.out);clear e5 D5 E3 B3 x0 x1 x6 x7 x8;simp only[Pg.Ev.val,Pg.Ev.code]
 go_wp2_with fail
 refine O (v:=Pg.Ev.val ⟨tc,te,ta,tf,tr,tb⟩) ?_ rfl ⟨rfl,FIN.out _ ?_⟩
 ·simp[results,Tryz.results154,go_sem,z0,z1,z2,z3,z4,z5,hz5,Pg.Ev.val,Pg.Ev.code]
 ·exact ybT _ _ _ _ _ _ _ _
theorem ybd {b:Nat} {D:Dsd} {X:Pg.Spc} (x:Pg.Sx) (hx:1<=x.kind/\x.kind<=3) (w:U) (h:Dsk w b D X):
 y V 153 #[J (B ⟨b,0,I⟩),x.val] w fun e w'=>e=N (X.chE x).val/\zi w b D X (X.chN x) w':=by
 unfold Pg.Spc.chE Pg.Spc.chN;cases hb:X.busy
 ·simp only[Bool.false_eq_true,if_false]
  by_cases h1:x.kind=1
  ·rw[if_pos h1,if_pos h1]
   exact ybe x h1 hb w h
  ·rw[if_neg h1,if_neg h1]
   by_cases h2:x.kind=2
   ·rw[if_pos h2,if_pos h2]
    exact vS x h2 hb w h (fun e=>if_pos e) (fun e=>if_neg e)
   ·rw[if_neg h2,if_neg h2]
    exact jV x (by omega) hb w h (fun e=>if_pos e) (fun e=>if_neg e)
 ·simp only[if_true]
  refine(yaM x hb w h).mono ?_;rintro e w' ⟨rfl,hbl⟩;exact⟨rfl,.same h hbl⟩
theorem yc8 {b:Nat} {D:Dsd} {X:Pg.Spc} (x:Pg.Sx) (hx:4<=x.kind/\x.kind<=7) (w:U) (h:Dsk w b D X):
 y V 154 #[J (B ⟨b,0,I⟩),x.val] w fun e w'=>e=N (X.goE x).val/\zi w b D X (X.goN x) w':=by
 unfold Pg.Spc.goE Pg.Spc.goN;rw[if_neg (show ¬(1<=x.kind/\x.kind<=3) by omega),if_neg (show ¬(1<=x.kind/\x.kind<=3) by omega),if_neg (show ¬(x.kind<1\/7<x.kind) by omega),if_neg (show ¬(x.kind<1\/7<x.kind) by omega)]
 by_cases hr:x.core<0\/(X.C.length:Int)<=x.core
 ·rw[if_pos hr,if_pos hr]
  refine(ybg x hr w h).mono ?_;rintro e w' ⟨rfl,hbl⟩;exact⟨rfl,.same h hbl⟩
 ·rw[if_neg hr,if_neg hr]
  obtain⟨c,hc⟩:=Int.eq_ofNat_of_zero_le (show 0<=x.core by omega)
  have hl:c<X.C.length:=by omega
  have ea:X.at' x.core=X.C.getD c Pg.Cr.new:=by unfold Pg.Spc.at';rw[hc,Int.toNat_natCast]
  have et:x.core.toNat=c:=by rw[hc,Int.toNat_natCast]
  rw[ea,et]
  by_cases h4:x.kind=4
  ·rw[if_pos h4,if_pos h4]
   exact yaN x h4 hc hl w h
  ·rw[if_neg h4,if_neg h4]
   by_cases h5:x.kind=5
   ·rw[if_pos h5,if_pos h5]
    exact dvCore_walk x h5 hc hl w h
   ·rw[if_neg h5,if_neg h5]
    by_cases h6:x.kind=6
    ·rw[if_pos h6,if_pos h6,hc]
     exact yc7 x h6 hc hl w h
    ·rw[if_neg h6,if_neg h6]
     exact ybf x (by omega) hc hl w h
theorem yb6 {b:Nat} {D:Dsd} {X:Pg.Spc} (x:Pg.Sx) (hx:x.kind=1\/x.kind=2\/x.kind=3) (w:U) (h:Dsk w b D X):
 y V 119 #[J (B ⟨b,0,I⟩),x.val] w fun e w'=>e=N (X.chE x).val/\zi w b D X (X.chN x) w':=by
 obtain⟨W,hW⟩:∃W,W=chW w x:=⟨_,rfl⟩
 have CW:Q (ChW w W x):=by rw[hW];exact qx w x
 have LT:Q (∀x,dsF D b X.C.length X.G x->x<w.heap.size):=h.owns;have HC:=ybd x (by omega) W (h.grow CW.out.bel);have hWs:W.heap.size=w.heap.size+2:=CW.out.size;obtain⟨x0,x1,x2,x3,x4,x5,x6,x7,x8⟩:=(⟨CW.out.x0,CW.out.x1,CW.out.x2,CW.out.x3,CW.out.x4,CW.out.x5,CW.out.x6,CW.out.x7,CW.out.x8⟩:_/\_/\_/\_/\_/\_/\_/\_/\_);clear h;generalize hE:X.chE x=E at*;generalize hN:X.chN x=X' at*;clear hE hN;obtain⟨kd,co,⟨p,s,f,r⟩,q,k,u⟩:=x;simp only[chW,Pg.Sx.val]at hW HC hx x0 x1 x2 x3 x4 x5 x6 x7 x8 ⊢;obtain⟨ec,en,ea,ef,er,eb⟩:=E;simp only[Pg.Ev.val]at HC ⊢;rcases hx with rfl|rfl|rfl
 all_goals
  go_enter Tryz.func119,Tryz.ntmps119
  go_upto_region 1 with fail
  rw[<-hW];clear hW
  go_wp2_with fail
  refine HC.mono ?_;rintro e w1 ⟨rfl,d1⟩;have D1:Q _:=d1;obtain⟨e1,hs1⟩:=d1.block (w:=w) (r:=w.heap.size+1) LT.out (by omega) (by omega);obtain⟨⟨z0,z1,z2,z3,z4,z5⟩,zf⟩:=z9 (e1.trans CW.out.ev);have FIN:Q (∀Wf,But (fun x=>x=w.heap.size+1) w1 Wf->zi w b D X X' Wf):=fun Wf hb=>D1.out.behind CW.out.bel LT.out (fun x e=>by omega) hb;clear d1 D1 e1 HC x0 x1 x2 x3 x4 x5 x6 x7 x8 CW
  go_wp2_with fail
  refine O (v:=kC #[R Y ec,kY en,R Y ea,R Y ef,R Y er,kY eb]) ?_ rfl ⟨rfl,FIN.out _ ?_⟩
  ·simp[results,Tryz.results119,go_sem,z0,z1,z2,z3,z4,z5,hs1]
  ·exact ybT _ _ _ _ _ _ _ _
theorem ydO {b:Nat} {D:Dsd} {X:Pg.Spc} (x:Pg.Sx) (hx:x.kind=4\/x.kind=5\/x.kind=6\/x.kind=7) (w:U) (h:Dsk w b D X):
 y V 119 #[J (B ⟨b,0,I⟩),x.val] w fun e w'=>e=N (X.goE x).val/\zi w b D X (X.goN x) w':=by
 obtain⟨W,hW⟩:∃W,W=chW w x:=⟨_,rfl⟩
 have CW:Q (ChW w W x):=by rw[hW];exact qx w x
 have LT:Q (∀x,dsF D b X.C.length X.G x->x<w.heap.size):=h.owns;have HC:=yc8 x (by omega) W (h.grow CW.out.bel);have hWs:W.heap.size=w.heap.size+2:=CW.out.size;obtain⟨x0,x1,x2,x3,x4,x5,x6,x7,x8⟩:=(⟨CW.out.x0,CW.out.x1,CW.out.x2,CW.out.x3,CW.out.x4,CW.out.x5,CW.out.x6,CW.out.x7,CW.out.x8⟩:_/\_/\_/\_/\_/\_/\_/\_/\_);clear h;generalize hE:X.goE x=E at*;generalize hN:X.goN x=X' at*;clear hE hN;obtain⟨kd,co,⟨p,s,f,r⟩,q,k,u⟩:=x;simp only[chW,Pg.Sx.val]at hW HC hx x0 x1 x2 x3 x4 x5 x6 x7 x8 ⊢;obtain⟨ec,en,ea,ef,er,eb⟩:=E;simp only[Pg.Ev.val]at HC ⊢;rcases hx with rfl|rfl|rfl|rfl
 all_goals
  go_enter Tryz.func119,Tryz.ntmps119
  go_upto_region 1 with fail
  rw[<-hW];clear hW
  go_wp2_with fail
  refine HC.mono ?_;rintro e w1 ⟨rfl,d1⟩;have D1:Q _:=d1;obtain⟨e1,hs1⟩:=d1.block (w:=w) (r:=w.heap.size+1) LT.out (by omega) (by omega);obtain⟨⟨z0,z1,z2,z3,z4,z5⟩,zf⟩:=z9 (e1.trans CW.out.ev);have FIN:Q (∀Wf,But (fun x=>x=w.heap.size+1) w1 Wf->zi w b D X X' Wf):=fun Wf hb=>D1.out.behind CW.out.bel LT.out (fun x e=>by omega) hb;clear d1 D1 e1 HC x0 x1 x2 x3 x4 x5 x6 x7 x8 CW
  go_wp2_with fail
  refine O (v:=kC #[R Y ec,kY en,R Y ea,R Y ef,R Y er,kY eb]) ?_ rfl ⟨rfl,FIN.out _ ?_⟩
  ·simp[results,Tryz.results119,go_sem,z0,z1,z2,z3,z4,z5,hs1]
  ·exact ybT _ _ _ _ _ _ _ _
theorem ydP {b:Nat} {D:Dsd} {X:Pg.Spc} (x:Pg.Sx) (hx:x.kind<1\/7<x.kind) (w:U) (h:Dsk w b D X):
 y V 119 #[J (B ⟨b,0,I⟩),x.val] w fun e w'=>e=N (Pg.Ev.code 2).val/\Below w.heap.size w w':=by
 obtain⟨W,hW⟩:∃W,W=chW w x:=⟨_,rfl⟩
 have CW:Q (ChW w W x):=by rw[hW];exact qx w x
 have hWs:W.heap.size=w.heap.size+2:=CW.out.size;have x0:=CW.out.x0;clear h;obtain⟨kd,co,⟨p,s,f,r⟩,q,k,u⟩:=x;simp only[chW,Pg.Sx.val]at hW hx x0 ⊢
 have k1:(kd==1)=K:=by simp;omega
 have k2:(kd==2)=K:=by simp;omega
 have k3:(kd==3)=K:=by simp;omega
 have k4:(kd==4)=K:=by simp;omega
 have k5:(kd==5)=K:=by simp;omega
 have k6:(kd==6)=K:=by simp;omega
 have k7:(kd==7)=K:=by simp;omega
 clear hx
 go_enter Tryz.func119,Tryz.ntmps119
 go_upto_region 1 with fail
 rw[<-hW];clear hW
 go_wp2_with fail
 refine(zX 2 _).mono ?_;rintro e w2 ⟨rfl,hb2⟩;obtain⟨⟨z0,z1,z2,z3,z4,z5⟩,zf⟩:=z9 ((hb2.block _ (by omega)).trans CW.out.ev)
 have hs2:w.heap.size+1<w2.heap.size:=by have:=hb2.size;omega
 have HB2:Q (Below w.heap.size w w2):=zT CW.out.bel hb2;clear hb2;simp only[Pg.Ev.val,Pg.Ev.code]
 go_wp2_with fail
 refine O (v:=(Pg.Ev.code 2).val) ?_ rfl ⟨rfl,?_⟩
 ·simp[results,Tryz.results119,go_sem,z0,z1,z2,z3,z4,z5,hs2,Pg.Ev.val,Pg.Ev.code]
 ·exact ycR HB2.out _ (by omega) _ _ _ _ _ _
theorem yeM {b:Nat} {X:Pg.Spc} {F:Nat->Prop} (x:Pg.Sx) (w:U) (h:vP w b X F):
 y V 119 #[J (B ⟨b,0,I⟩),x.val] w fun e w'=>e=N (X.goE x).val/\∃F',vP w' b (X.goN x) F'/\But F w w'/\∀k,F' k->F k\/w.heap.size<=k:=by
 obtain⟨D,h,rfl⟩:=h
 have key:y V 119 #[J (B ⟨b,0,I⟩),x.val] w fun e w'=>e=N (X.goE x).val/\zi w b D X (X.goN x) w':=by
  by_cases hk:1<=x.kind/\x.kind<=3
  ·have e1:X.goE x=X.chE x:=by unfold Pg.Spc.goE;rw[if_pos hk]
   have e2:X.goN x=X.chN x:=by unfold Pg.Spc.goN;rw[if_pos hk]
   rw[e1,e2];exact yb6 x (by omega) w h
  ·by_cases hk2:x.kind<1\/7<x.kind
   ·have e1:X.goE x= .code 2:=by unfold Pg.Spc.goE;rw[if_neg hk,if_pos hk2]
    have e2:X.goN x=X:=by unfold Pg.Spc.goN;rw[if_neg hk,if_pos hk2]
    rw[e1,e2];refine(ydP x hk2 w h).mono ?_;rintro e w' ⟨rfl,hbl⟩;exact⟨rfl,.same h hbl⟩
   ·exact ydO x (by omega) w h
 refine key.mono ?_;rintro e w' ⟨rfl,D',h1,h3,h4⟩;exact⟨rfl,_,⟨D',h1,rfl⟩,h3,h4⟩
end
section
def ycG (cb:Nat->Nat) (k:Nat):List kT:=(List.range k).map fun j=>J (B ⟨cb j,0,I⟩)
theorem yfE (cb:Nat->Nat) {k j:Nat} (h:j<k):(ycG cb k)[j]?=B (J (B ⟨cb j,0,I⟩)):=by simp[ycG,h]
theorem yee (cb:Nat->Nat) (k:Nat):ycG cb (k+1)=ycG cb k++[J (B ⟨cb k,0,I⟩)]:=by simp[ycG,List.range_succ]
theorem yef {cb cb':Nat->Nat} {k:Nat} (h:∀j,j<k->cb j=cb' j):ycG cb k=ycG cb' k:=by
 unfold ycG;refine List.map_congr_left fun j hj=> ?_;rw[h j (by simpa using hj)]
set_option linter.all false
set_option maxRecDepth 100000
theorem yd3:(Tryz.prog.info? 202).map (fun i=>(i.zero,i.size,i.bytes))=B (B (J I),1,8):=by kernel_rfl
structure yeE (w wr:U) (b bm bs:Nat) (FM:Nat->Prop) (vC:kT) (S:Pg.Fs) (k:Nat) (cb:Nat->Nat) (cF:Nat->Nat->Prop):Prop where
 bel:Below w.heap.size w wr
 c0:wr.cell? ⟨b,0,I⟩=B (J (B ⟨bm,0,I⟩))
 c1:wr.cell? ⟨b,1,I⟩=B (R Y 0)
 c2:wr.cell? ⟨b,2,I⟩=B vC
 c3:wr.cell? ⟨b,3,I⟩=B (J (B ⟨bs,0,I⟩))
 c4:wr.cell? ⟨b,4,I⟩=B (M I 0 0)
 fb:∀p,wr.frozen? ⟨b,p,I⟩=K
 mem:zh wr bm S FM
 tl:jm wr bs .zz (fun _=>K)
 mlo:∀x,FM x->w.heap.size<x/\x<b/\x≠bs
 blo:w.heap.size<bs/\bs<b
 own:wr.ownsRow (b+1) 202 1 vC k (ycG cb k)
 core:∀j,j<k->xY wr (cb j) 0 Pg.Cr.new (cF j)
 far:∀j x,j<k->cF j x->b<x/\vC.ownBlock≠B x
 inj:∀i j x,i<k->j<k->cF i x->cF j x->i=j
 rz:wr.heap[w.heap.size]?=B (z #[R Y 0,R Y 0] 33 (0,0))
section
variable {w wr w2 w6:U} {b bm bs g cap k:Nat} {FM:Nat->Prop} {vC:kT} {S:Pg.Fs} {cb:Nat->Nat} {cF:Nat->Nat->Prop}
theorem yeE.lb (h:yeE w wr b bm bs FM vC S k cb cF):b<wr.heap.size:=World.block_lt_of_cell? _ _ h.c0
theorem yeE.done {n co:Nat} (h:yeE w wr b bm bs FM vC (Pg.Fs.new n).take co cb cF) (h1:1<=co) (h4:co<=4):∃F,vP wr b (Pg.Spc.new co n) F/\∀k,F k->w.heap.size<k:=by
 obtain⟨gc,cc,rfl,hgc,hgl⟩:=h.own.form (by omega);have hbl:=h.blo;obtain⟨D,hD⟩:∃D:Dsd,D=⟨bm,FM,gc,cc,cb,cF,bs,I,0⟩:=⟨_,rfl⟩
 have hwhere:∀i x,D.own b co [] i x->(i=0/\x=b)\/(i=1/\w.heap.size<x/\x<b/\x≠bs)\/(i=2/\x=gc)\/(i=3/\x=bs)\/(∃j,i=j+5/\j<co/\cF j x/\b<x/\x≠gc):=fun i x hx=>by
  rw[hD]at hx
  match i with
  | 0=>exact .inl ⟨rfl,hx⟩
  | 1=>exact .inr (.inl ⟨rfl,h.mlo x hx⟩)
  | 2=>exact .inr (.inr (.inl ⟨rfl,hx⟩))
  | 3=>exact .inr (.inr (.inr (.inl ⟨rfl,hx⟩)))
  | 4=>exact absurd rfl hx.1
  | j+5=>
    have hf:=h.far j x hx.1 hx.2;exact .inr (.inr (.inr (.inr ⟨j,rfl,hx.1,hx.2,hf.1,fun e=>hf.2 (by simp[kB,e])⟩)))
 have hC:(Pg.Spc.new co n).C.length=co:=by simp[Pg.Spc.new]
 have hG:(Pg.Spc.new co n).G=[]:=rfl;refine⟨_,⟨D,?_,rfl⟩,fun x hx=> ?_⟩
 ·have getC:∀j,j<co->(Pg.Spc.new co n).C.getD j Pg.Cr.new=Pg.Cr.new:=fun j hj=>by simp[Pg.Spc.new,List.getD,hj]
  have getW:(fun j=>(Pg.Spc.new co n).W.getD j K)=fun _=>K:=by
   funext j
   by_cases hj:j<co<;>simp[Pg.Spc.new,List.getD,hj]
  refine⟨?_,h.c1,?_,?_,?_,h.fb,?_,fun j hj=> ?_,fun j hj=> ?_,?_,fun j hj=> ?_,fun i j x hi hj=> ?_,by simp[Pg.Spc.new],by rw[hC];exact h1,by rw[hC];exact h4,?_,by simp[Pg.Spc.new]⟩
  ·rw[hD];exact h.c0
  ·rw[hD,hC];exact h.c2
  ·rw[hD];exact h.c3
  ·rw[hD];exact h.c4
  ·rw[hD];exact h.mem
  ·rw[hC]at hj
   rw[hD]
   show wr.cell? ⟨gc,j,I⟩=_
   rw[h.own.cellAt j (by omega),yfE cb hj]
  ·rw[hC]at hj
   rw[hD,getC j hj];exact h.core j hj
  ·rw[hD,getW]
   exact h.tl
  ·rw[hG]at hj
   simp at hj
  ·rw[hC,hG]at hi hj
   rcases hwhere i x hi with ⟨ei,e1⟩|⟨ei,e1,e2,e3⟩|⟨ei,e1⟩|⟨ei,e1⟩|⟨p,ei,e1,e2,e3,e4⟩<;>rcases hwhere j x hj with ⟨ej,f1⟩|⟨ej,f1,f2,f3⟩|⟨ej,f1⟩|⟨ej,f1⟩|⟨q,ej,f1,f2,f3,f4⟩
   all_goals first
    | (subst ei ej;rfl)
    | (exfalso;omega)
    | (have:=h.inj p q x e1 f1 e2 f2;omega)
  ·show Pg.fits 0
   unfold Pg.fits;omega
 ·rw[hC,hG]at hx
  obtain⟨i,hi⟩:=hx
  rcases hwhere i x hi with ⟨ei,e1⟩|⟨ei,e1,e2,e3⟩|⟨ei,e1⟩|⟨ei,e1⟩|⟨p,ei,e1,e2,e3,e4⟩<;>omega
theorem yeE.push {cn:Nat} {Fc:Nat->Prop} (h:yeE w wr b bm bs FM vC S k cb cF) (hc:xY w2 cn 0 Pg.Cr.new Fc) (hb:Below wr.heap.size wr w2) (hF:∀x,Fc x->wr.heap.size<=x) (G:ygC b vC w2 w6 g) (hg:vC.ownBlock=B g\/w2.heap.size<=g)
 (ho:w6.ownsRow (b+1) 202 1 (M (B ⟨g,0,I⟩) (k+1) cap) (k+1) (ycG cb k++[J (B ⟨cn,0,I⟩)])):
 yeE w (w6.setCell ⟨b,2,I⟩ (M (B ⟨g,0,I⟩) (k+1) cap)) b bm bs FM (M (B ⟨g,0,I⟩) (k+1) cap) S (k+1) (fun j=>if j=k then cn else cb j) (fun j=>if j=k then Fc else cF j):=by
 have hlb:=h.lb
 have hlow:w.heap.size<b:=by have:=h.blo;omega
 have hb6:But (fun x=>vC.ownBlock=B x) wr w6:=(But.yhl hb).trans G.but (fun _ _ h=>h);have hb7:But (fun x=>vC.ownBlock=B x\/x=b) wr (w6.setCell ⟨b,2,I⟩ (M (B ⟨g,0,I⟩) (k+1) cap)):=(hb6.mono (fun _ _ h=> .inl h)).setCell (a:=⟨b,2,I⟩) (.inr (.inr rfl)) _;have hb72:But (fun x=>vC.ownBlock=B x\/x=b) w2 (w6.setCell ⟨b,2,I⟩ (M (B ⟨g,0,I⟩) (k+1) cap)):=(G.but.mono (fun _ _ h=> .inl h)).setCell (a:=⟨b,2,I⟩) (.inr (.inr rfl)) _;have hfar:∀x,vC.ownBlock=B x->b<x:=G.far;have kb:=hb6.block b hlb (fun e=>by have:=hfar b e;omega);have e0:∀p,w6.cell? ⟨b,p,I⟩=wr.cell? ⟨b,p,I⟩:=fun p=>World.cell?_of_block (a:=⟨b,p,I⟩) kb;have f0:∀p,w6.frozen? ⟨b,p,I⟩=K:=fun p=>(World.frozen?_of_block (a:=⟨b,p,I⟩) kb).trans (h.fb p);have k0:=(e0 0).trans h.c0;have k1:=(e0 1).trans h.c1;have k2:=(e0 2).trans h.c2;have k3:=(e0 3).trans h.c3;have k4:=(e0 4).trans h.c4;have low:∀x,x<b->¬(vC.ownBlock=B x\/x=b):=fun x hx e=>e.elim (fun e=>by have:=hfar x e;omega) (fun e=>by omega);have hbb:But (fun x=>x=b) w6 (w6.setCell ⟨b,2,I⟩ (M (B ⟨g,0,I⟩) (k+1) cap)):=(But.refl (fun x=>x=b) w6).setCell (a:=⟨b,2,I⟩) (.inr rfl) _;have hgb:b<g:=G.gc;have hwb:∀x,vC.ownBlock=B x->x<wr.heap.size:=fun x hx=>(h.own.lt x hx).2;have hs2:=hb.size
 have new:∀x,Fc x->b<x/\vC.ownBlock≠B x/\x≠g:=fun x hx=>by
  have a1:=hF x hx;have a2:=hc.lt hx;refine⟨by omega,fun e=>by have:=hwb x e;omega,fun e=> ?_⟩;rcases hg with h'|h'
  ·have:=hwb g h'
   omega
  ·omega
 have old:∀j x,j<k->cF j x->b<x/\vC.ownBlock≠B x/\x≠g/\x<wr.heap.size:=fun j x hj hx=>by
  have a1:=h.far j x hj hx;have a2:=(h.core j hj).lt hx;refine⟨a1.1,a1.2,fun e=> ?_,a2⟩;rcases hg with h'|h'
  ·exact a1.2 (e▸h')
  ·omega
 refine⟨?_,by simp[go_sem,k0],by simp[go_sem,k1],by simp[go_sem,k2],by simp[go_sem,k3],by simp[go_sem,k4],fun p=>by simp[go_sem,f0],h.mem.keep hb7 (fun x hx=>low x (h.mlo x hx).2.1),h.tl.keep hb7 (low bs h.blo.2),h.mlo,h.blo,?_,fun j hj=> ?_,fun j x hj hx=> ?_,fun i j x hi hj hxi hxj=> ?_,(hb7.block _ (by have:=h.bel.size;omega) (low _ hlow)).trans h.rz⟩
 ·exact h.bel.trans (hb7.below h.bel.size (fun x hx=>hx.elim (fun e=>by have:=hfar x e;omega) (fun e=>by omega)))
 ·have hp:ycG (fun j=>if j=k then cn else cb j) (k+1)=ycG cb k++[J (B ⟨cn,0,I⟩)]:=by
   rw[yee,if_pos rfl,yef (cb':=cb) (fun j hj=>by rw[if_neg (by omega)])]
  rw[hp]
  exact zc ho (fun x hx=>by
   have:x=g:=by simpa[kB]using hx.symm
   subst this
   exact hbb.block x G.gl (by omega))
 ·by_cases e:j=k
  ·subst e
   simp only[if_true];exact hc.keep hb72 (fun x hx e=>e.elim (fun e=>(new x hx).2.1 e) (fun e=>by have:=(new x hx).1;omega))
  ·simp only[if_neg e]
   exact(h.core j (by omega)).keep hb7 (fun x hx e'=>e'.elim (fun e'=>(old j x (by omega) hx).2.1 e') (fun e'=>by have:=(old j x (by omega) hx).1;omega))
 ·have gx:x≠g->(Value.slice (B ⟨g,0,I⟩) (k+1) cap).ownBlock≠B x:=fun hne e=>hne (by simpa[kB]using e.symm)
  by_cases e:j=k
  ·subst e
   simp only[if_true]at hx;exact⟨(new x hx).1,gx (new x hx).2.2⟩
  ·simp only[if_neg e]at hx
   have:=old j x (by omega) hx;exact⟨this.1,gx this.2.2.1⟩
 ·by_cases ei:i=k
  ·by_cases ej:j=k
   ·omega
   ·subst ei
    simp only[if_true]at hxi;simp only[if_neg ej]at hxj;have a1:=hF x hxi;have a2:=old j x (by omega) hxj;omega
  ·by_cases ej:j=k
   ·subst ej
    simp only[if_true]at hxj;simp only[if_neg ei]at hxi;have a1:=hF x hxj;have a2:=old i x (by omega) hxi;omega
   ·simp only[if_neg ei]at hxi
    simp only[if_neg ej]at hxj;exact h.inj i j x (by omega) (by omega) hxi hxj
end
theorem zP {w:U} {r:Nat} {v0 v1:kT} {t:TypeId} (h:w.heap[r]?=B (z #[v0,v1] t (0,0))):
 (w.cell? ⟨r,0,I⟩=B v0/\w.cell? ⟨r,1,I⟩=B v1)/\∀i,w.frozen? ⟨r,i,I⟩=K:=
 ⟨by simp[World.cell?,h],fun i=>by simp[World.frozen?,h]⟩
theorem ydT (co n:Int) (w:U) (hb:co<1\/4<co\/n<1\/128<n):
 y V 108 #[R Y co,R Y n] w fun e w'=>e=N (kP #[J I,kC #[R Y 1,R Y (-1)]])/\Below w.heap.size w w':=by
 obtain⟨W,hW⟩:∃W,W=w.alloc (z #[R Y 0,R Y 0] 33):=⟨_,rfl⟩
 have hB:Below w.heap.size w W:=by rw[hW];exact zA (zR _) _
 have RZ:Q (W.heap[w.heap.size]?=B (z #[R Y 0,R Y 0] 33 (0,0))):=by rw[Q,hW];exact m _ _
 have hWs:w.heap.size<W.heap.size:=by rw[hW];simp
 have HB:Q _:=hB;clear hB
 have hcase:(decide (co<1)=kR)\/(decide (co<1)=K/\decide (4<co)=kR)\/(decide (co<1)=K/\decide (4<co)=K/\decide (n<1)=kR)\/(decide (co<1)=K/\decide (4<co)=K/\decide (n<1)=K/\128<n):=by
  simp only[decide_eq_true_eq,decide_eq_false_iff_not];omega
 clear hb;rcases hcase with h1|⟨h1,h2⟩|⟨h1,h2,h3⟩|⟨h1,h2,h3,h4⟩
 iterate 3
  ·obtain⟨⟨z0,z1⟩,zf⟩:=zP RZ.out
   go_enter Tryz.func108,Tryz.ntmps108
   go_upto_region 1 with fail
   rw[<-hW];clear hW
   go_wp2_with fail
   refine O (v:=kP #[J I,kC #[R Y 1,R Y (-1)]]) ?_ rfl ⟨rfl,?_⟩
   ·simp[results,Tryz.results108,go_sem,z0,z1,hWs]
   ·exact(HB.out.setCell (p:=⟨w.heap.size,0,I⟩) (l _) _).setCell (p:=⟨w.heap.size,1,I⟩) (l _) _
 ·have HN:=ydZ n (by omega) W
  go_enter Tryz.func108,Tryz.ntmps108
  go_upto_region 1 with fail
  rw[<-hW];clear hW
  go_wp2_with fail
  refine HN.mono ?_;rintro e w1 ⟨rfl,hb1⟩;obtain⟨W2,hW2⟩:∃W2,W2=w1.alloc (z #[R Y 1,R Y (-1)] 33):=⟨_,rfl⟩
  have hb2:Below w1.heap.size w1 W2:=by rw[hW2];exact zA (zR _) _
  have hs1:w.heap.size<w1.heap.size:=A hWs hb1.size;obtain⟨⟨z0,z1⟩,zf⟩:=zP ((hb2.block _ hs1).trans ((hb1.block _ hWs).trans RZ.out));obtain⟨⟨y0,y1⟩,yf⟩:=zP (show W2.heap[w1.heap.size]?=B (z #[R Y 1,R Y (-1)] 33 (0,0)) by rw[hW2];exact m _ _);have hs2:w.heap.size<W2.heap.size:=A hs1 hb2.size;have HB2:Q (Below w.heap.size w W2):=zT (zT HB.out hb1) hb2
  have hne:w1.heap.size≠w.heap.size:=by omega
  have hne':w.heap.size≠w1.heap.size:=by omega
  clear hb1 hb2 HN
  go_upto_region 4 with fail
  rw[<-hW2];clear hW2
  go_upto_region 5 with fail
  go_region
  all_goals
   go_wp2_with fail
   refine O (v:=kP #[J I,kC #[R Y 1,R Y (-1)]]) ?_ rfl ⟨rfl,?_⟩
   ·simp[results,Tryz.results108,go_sem,z0,z1,hs2]
   ·exact((HB2.out.setCell (p:=⟨w.heap.size,0,I⟩) (l _) _).setCell (p:=⟨w.heap.size,1,I⟩) (l _) _).drew
theorem ydS (co n:Nat) (w:U) (h1:1<=co) (h4:co<=4) (hn:1<=n) (hn':n<=128):
 y V 108 #[R Y (co:Int),R Y (n:Int)] w fun e w'=>∃b F,e=N (kP #[J (B ⟨b,0,I⟩),kC #[R Y 0,R Y 0]])/\vP w' b (Pg.Spc.new co n) F/\Below w.heap.size w w'/\∀k,F k->w.heap.size<=k:=by
 obtain⟨W,hW⟩:∃W,W=w.alloc (z #[R Y 0,R Y 0] 33):=⟨_,rfl⟩
 have hB:Below w.heap.size w W:=by rw[hW];exact zA (zR _) _
 have RZ:Q (W.heap[w.heap.size]?=B (z #[R Y 0,R Y 0] 33 (0,0))):=by rw[Q,hW];exact m _ _
 have hWs:W.heap.size=w.heap.size+1:=by rw[hW];simp
 have HB:Q _:=hB
 have d1:decide ((co:Int)<1)=K:=by simp;omega
 have d2:decide ((4:Int)<(co:Int))=K:=by simp;omega
 have d3:decide ((n:Int)<1)=K:=by simp;omega
 have HN:=ydY n hn' W;obtain⟨p0,hp0,hp1,hp2,hp3⟩:=info_parts yd3;clear hB
 go_enter Tryz.func108,Tryz.ntmps108
 go_upto_region 1 with fail
 rw[<-hW];clear hW
 go_wp2_with fail
 refine HN.mono ?_;rintro e w1 ⟨bm,F1,rfl,hm1,hb1,hF1⟩;obtain⟨W2,hW2⟩:∃W2,W2=w1.alloc (z #[R Y 0,R Y 0] 33):=⟨_,rfl⟩
 have hb2:Below w1.heap.size w1 W2:=by rw[hW2];exact zA (zR _) _
 have hs1:w.heap.size<w1.heap.size:=by have:=hb1.size;omega
 obtain⟨⟨y0,y1⟩,yf⟩:=zP (show W2.heap[w1.heap.size]?=B (z #[R Y 0,R Y 0] 33 (0,0)) by rw[hW2];exact m _ _);have Z2:Q (W2.heap[w.heap.size]?=_):=(hb2.block _ hs1).trans ((hb1.block _ (by omega)).trans RZ.out);have hs2:w.heap.size<W2.heap.size:=A hs1 hb2.size;have HB2:Q (Below w.heap.size w W2):=zT (zT HB.out hb1) hb2;have HM2:Q (zh W2 bm (Pg.Fs.new n) F1):=zh.keep (G:=fun _=>False) hm1 (But.yhl hb2) (fun _ _=>id)
 have HF1:Q (∀x,F1 x->w.heap.size<x):=fun x hx=>by have:=hF1 x hx;omega
 have HT:=yav W2 HM2.out;rw[show(Pg.Fs.new n).takeN=0 by unfold Pg.Fs.takeN Pg.Fs.pick Pg.Fs.new;simp only[List.getLast?_nil];rw[if_pos (by omega)];rfl]at HT;clear hb1 hb2 HN hm1 hF1
 go_upto_region 4 with fail
 rw[<-hW2];clear hW2
 go_wp2_with fail
 refine HT.mono ?_;rintro e w3 ⟨rfl,FM,hm3,hb3,hF3⟩;have HB3:Q (Below w.heap.size w w3):=HB2.out.trans (hb3.below HB2.out.size (fun x hx=>by have:=HF1.out x hx;omega));have HM3:Q (zh w3 bm (Pg.Fs.new n).take FM):=hm3;have Z3:Q (w3.heap[w.heap.size]?=_):=(hb3.block _ hs2 (fun e=>by have:=HF1.out _ e;omega)).trans Z2.out;have hs3:w.heap.size<w3.heap.size:=A hs2 hb3.size
 have HF3:Q (∀x,FM x->w.heap.size<x):=fun x hx=>by
  rcases hF3 x hx with h|h
  ·exact HF1.out x h
  ·omega
 clear hm3 hb3 hF3 HT HM2 HB2 Z2 HF1 y0 y1 yf
 go_wp2_with fail
 refine(yek _).mono ?_;rintro e w4 ⟨bs,rfl,hs4,hb4,hbs⟩;have hl4:=hs4.lb;have hb5:=zA (zR w4) (z #[J (B ⟨bm,0,I⟩),R Y 0,M I 0 0,J (B ⟨bs,0,I⟩),M I 0 0] 201)
 have N5:Q (yeE w (w4.alloc (z #[J (B ⟨bm,0,I⟩),R Y 0,M I 0 0,J (B ⟨bs,0,I⟩),M I 0 0] 201)) w4.heap.size bm bs FM (M I 0 0) (Pg.Fs.new n).take 0 (fun _=>0) (fun _ _=>False)):=by
  refine⟨zT (zT HB3.out hb4) hb5,by simp[go_sem],by simp[go_sem],by simp[go_sem],by simp[go_sem],by simp[go_sem],fun p=>by simp[go_sem],zh.keep (G:=fun _=>False) HM3.out (But.yhl (zT hb4 hb5)) (fun _ _=>id),hs4.grow hb5,fun x hx=>⟨HF3.out x hx,?_,?_⟩,⟨by omega,hl4⟩,World.ownsRow_nil _ _ _ _,fun j hj=>by omega,fun j x hj=>by omega,fun i j x hi=>by omega,(hb5.block _ (by have:=hb4.size;omega)).trans ((hb4.block _ hs3).trans Z3.out)⟩
  ·have:=zh.lt HM3.out hx
   have:=hb4.size;omega
  ·have:=zh.lt HM3.out hx
   omega
 clear hs4 hb4 hbs hl4 hb5 HM3 HB3 Z3 HF3
 go_upto_region 7 with fail
 generalize w4.alloc (z #[J (B ⟨bm,0,I⟩),R Y 0,M I 0 0,J (B ⟨bs,0,I⟩),M I 0 0] 201)=W5 at*;generalize w4.heap.size=b at*
 go_wp2_with fail
 go_loopw [36] (fun i wr=>∃k:Nat,k<=co/\i=R Y k/\Q (∃vC cb cF,yeE w wr b bm bs FM vC (Pg.Fs.new n).take k cb cF)) (fun i _=>co-(intOf i).toNat)
 case atStart=>exact⟨0,by omega,rfl,⟨_,_,_,N5.out⟩⟩
 case round=>
  obtain⟨k,hk,rfl,HR⟩:=hrel;obtain⟨vC,cb,cF,HN⟩:=HR.out;have HN:Q _:=HN;clear HR N5
  have j0:(0:Int)<=(k:Int):=by omega
  by_cases hlt:k<co
  ·have j1:(k:Int)<(co:Int):=by omega
   have k1:=HN.out.c1;have k2:=HN.out.c2;have kf:=HN.out.fb;have hlb:=HN.out.lb
   have hone:∀cn,∀u,u ∈ [kN (B ⟨cn,0,I⟩)]->u.oneCell'=kR:=by
    intro cn u hu;simp at hu;subst hu;rfl
   have hnews:∀(W:U) (cn:Nat) (j:Nat) (u:kT),[kN (B ⟨cn,0,I⟩)][j]?=B u->(W.alloc (z #[J (B ⟨cn,0,I⟩)] 202)).cell? ((⟨W.heap.size,0,I⟩:Addr).add j)=B u:=fun W cn j u hu=>World.news_of_block (m W _) j u hu
   have nvb:vC.ownBlock≠B b:=fun e=>by have:=(HN.out.own.lt b e).1;omega
   have hm1:k+1<=maxLen:=by unfold maxLen;omega
   have hm2:(k+1)*8<=140737488355328:=by omega
   go_wp2_with fail
   go_region_law (first
    | (go_simp;go_at_call 138;refine(ydJ 0 _).mono ?_;rintro e w2 ⟨cn,Fc,rfl,hc2,hb2,hF2⟩;have HB2:Q (Below wr.heap.size wr w2):=zT ((zR wr).drew) hb2;have HC2:Q _:=hc2;have HF2:Q _:=hF2;have q2:=(HB2.out.cell (p:=⟨b,2,I⟩) hlb).trans k2;have qf:w2.frozen? ⟨b,2,I⟩=K:=(HB2.out.frozen (p:=⟨b,2,I⟩) hlb).trans (kf 2);have ql:b<w2.heap.size:=A hlb HB2.out.size;have qo:Q (w2.ownsRow (b+1) 202 1 vC k (ycG cb k)):=zc HN.out.own (fun x hx=>HB2.out.block x (HN.out.own.lt x hx).2);clear hc2 hb2 hF2)
    | (refine step_append_lies _ rfl (.tmp 42) (.tmp 48) 198 rfl (b+1) 202 p0 (J I) 1 8 Tryz.underlying198 hp0 hp1 hp2 hp3 rfl (by decide) vC _ _ (by simp[Act.eval]) (qo.out.alloc _) ⟨w2.heap.size,0,I⟩ 1 1 [J (B ⟨cn,0,I⟩)] (by simp[Act.eval]) rfl (hnews w2 cn) (hone cn) (by decide) hm1 hm2 (by simp;omega) (w2.heap.size+1) (by simp) ?_;intro g cap w6 hown6 hgrow6 hat6 hlt6;have O6:Q (w6.ownsRow (b+1) 202 1 (M (B ⟨g,0,I⟩) (k+1) cap) (k+1) (ycG cb k++[J (B ⟨cn,0,I⟩)])):=hown6;have G6:Q ((w2.alloc (z #[J (B ⟨cn,0,I⟩)] 202)).grownBy w6 vC.ownBlock):=hgrow6;have hk6:w6.heap[b]?=w2.heap[b]?:=(G6.out.block b (by simp;omega) (fun e=>nvb e.symm)).trans (Below.heap_alloc _ _ _ ql);have e6:w6.cell? ⟨b,2,I⟩=B vC:=(World.cell?_of_block hk6).trans q2;have f6:w6.frozen? ⟨b,2,I⟩=K:=(World.frozen?_of_block hk6).trans qf;have A6:Q (vC.ownBlock=B g\/g=w2.heap.size+1):=hat6;have L6:Q (g<w6.heap.size):=hlt6;clear hown6 hgrow6 hat6 hlt6 hk6))
   all_goals
    have N6:Q _:=HN.out.push HC2.out HB2.out HF2.out (ygq qo.out G6.out A6.out ql L6.out) (A6.out.imp id (fun h=>by omega)) O6.out;clear HN HC2 HB2 HF2 qo G6 A6 L6 O6 q2 qf ql k1 k2 kf
    go_wp2_with fail
    go_roundw
    case rel=>exact⟨k+1,by omega,by go_num,⟨_,_,_,N6.out⟩⟩
    case measure=>simp[intOf];omega
  ·have j1:¬(k:Int)<(co:Int):=by omega
   have ek:k=co:=by omega
   subst ek;have FIN:Q _:=HN.out.done h1 h4;have HBF:Q _:=HN.out.bel;obtain⟨⟨z0,z1⟩,zf⟩:=zP HN.out.rz;have hsf:w.heap.size<wr.heap.size:=World.block_lt_of_cell? _ _ z0;clear HN
   go_wp2_with fail
   refine O (v:=kP #[J (B ⟨b,0,I⟩),kC #[R Y 0,R Y 0]]) ?_ rfl ?_
   ·simp[results,Tryz.results108,go_sem,z0,z1,hsf]
   ·obtain⟨F,hR,hF⟩:=FIN.out
    have hset:But (fun x=>x=w.heap.size) wr ((wr.setCell ⟨w.heap.size,0,I⟩ (R Y 0)).setCell ⟨w.heap.size,1,I⟩ (R Y 0)):=((But.refl (fun x=>x=w.heap.size) wr).setCell (a:=⟨w.heap.size,0,I⟩) (.inr rfl) _).setCell (a:=⟨w.heap.size,1,I⟩) (.inr rfl) _;exact⟨b,rfl,F,hR.keep hset (fun x hx e=>by have:=hF x hx;omega),(HBF.out.setCell (p:=⟨w.heap.size,0,I⟩) (l _) _).setCell (p:=⟨w.heap.size,1,I⟩) (l _) _,fun x hx=>by have:=hF x hx;omega⟩
end
structure ydC (P:U->Nat->Pg.Spc->(Nat->Prop)->Prop):Prop where
 lt:∀{w b X F k},P w b X F->F k->k<w.heap.size
 keep:∀{w w':U} {b X F} {G:Nat->Prop},P w b X F->But G w w'->(∀k,F k->¬G k)->P w' b X F
 bad:∀(co n:Int) (w:U),co<1\/4<co\/n<1\/128<n->
  y V 108 #[R Y co,R Y n] w fun e w'=>e=N (kP #[J I,kC #[R Y 1,R Y (-1)]])/\Below w.heap.size w w'
 new:∀(co n:Nat) (w:U),1<=co->co<=4->1<=n->n<=128->
  y V 108 #[R Y (co:Int),R Y (n:Int)] w fun e w'=>∃b F,e=N (kP #[J (B ⟨b,0,I⟩),kC #[R Y 0,R Y 0]])/\P w' b (Pg.Spc.new co n) F/\Below w.heap.size w w'/\∀k,F k->w.heap.size<=k
 step:∀(x:Pg.Sx) (w:U) {b X F L L0},xi x->Pg.Inv X L L0->P w b X F->
  y V 119 #[J (B ⟨b,0,I⟩),x.val] w fun e w'=>e=N (X.goE x).val/\∃F',P w' b (X.goN x) F'/\But F w w'/\∀k,F' k->F k\/w.heap.size<=k
 list:∀(w:U) {b X F L L0},Pg.Inv X L L0->P w b X F->
  y V 72 #[J (B ⟨b,0,I⟩)] w fun e w'=>∃ad cap,e=N (M ad X.maps.length cap)/\xg w' ad X.maps/\Below w.heap.size w w'/\∀g,ad=B ⟨g,0,I⟩->w.heap.size<=g
 tables:∀(w:U) {b X F L L0},Pg.Inv X L L0->P w b X F->
  y V 76 #[J (B ⟨b,0,I⟩)] w fun e w'=>∃ad cap,e=N (M ad X.tabs.length cap)/\zl w' ad X.tabs/\X.tabs.length<=cap/\Below w.heap.size w w'
 free:∀(w:U) {b X F},P w b X F->y V 75 #[J (B ⟨b,0,I⟩)] w fun e w'=>e=N (R Y X.S.free)/\Below w.heap.size w w'
 busy:∀(w:U) {b X F},P w b X F->y V 178 #[J (B ⟨b,0,I⟩)] w fun e w'=>e=N (kY X.busy)/\Below w.heap.size w w'
section
variable {P:U->Nat->Pg.Spc->(Nat->Prop)->Prop}
theorem ydC.grow (H:ydC P) {w w':U} {b X F} (h:P w b X F) (hb:Below w.heap.size w w'):P w' b X F:=H.keep (G:=fun _=>False) h (But.yhl hb) (fun _ _=>id)
end
theorem yaL:ydC vP where
 lt:=fun h hk=>h.lt hk
 keep:=fun h hb hF=>h.keep hb hF
 bad:=fun co n w hb=>ydT co n w hb
 new:=fun co n w h1 h2 h3 h4=>ydS co n w h1 h2 h3 h4
 step:=fun x w _ _ _ _ _ _ _ h=>yeM x w h
 list:=fun w _ _ _ _ _ _ h=>by
  obtain⟨D,h,rfl⟩:=h;exact jE w h
 tables:=fun w _ _ _ _ _ _ h=>by
  obtain⟨D,h,rfl⟩:=h;exact jN w h
 free:=fun w _ _ _ h=>by
  obtain⟨D,h,rfl⟩:=h;exact yao w h
 busy:=fun w _ _ _ h=>by
  obtain⟨D,h,rfl⟩:=h;refine(xN w h).mono ?_;rintro e w' ⟨rfl,rfl⟩;exact⟨rfl,zR _⟩
end Go.Proofs.YtdphiompijbelaaGreatDoor
