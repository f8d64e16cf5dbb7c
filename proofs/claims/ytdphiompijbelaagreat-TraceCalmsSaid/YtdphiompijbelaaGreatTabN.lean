import Derived.Test.YtdphiompijbelaaGreatTabKp
set_option linter.all false
set_option maxRecDepth 100000
open Go.Obj renaming cells->yI
open List renaming take_succ_cons->un,drop_succ_cons->ur,take_zero->yP,drop_zero->yS,mem_cons_self->yT,length_set->yX
open Go.World renaming block_lt_of_cell?->kh,frozen?_setCell->uc,cell?_setCell_other->ue,frozen?_of_block->yJ,cell?_of_block->yC,news_of_block->yU,ownsRow_nil->yM,ownsRow->yH
open Int renaming toNat_natCast->kp,natCast_nonneg->yR,eq_ofNat_of_zero_le->yN
open Nat renaming lt_of_lt_of_le->ki,le_refl->yY,ne_of_lt->yK,reduceAdd->yA,add_zero->yL
open Bool renaming false->z,true->ua
open Go.Ending renaming returned->O
open Go.Proofs.Tryz renaming prog->U
open Go renaming cell_regrown->Z,World->y,bodyPost_ret->kO,Calls->uv,heap_alloc_new->yB,Value->yZ,cell_later->yE
open Go.RowKit renaming Hid->Q
open Go.IntKind renaming i64->V
open Go.Value renaming pointer->N,int->Y,slice->ud,bool->yF,tuple->yV,ownBlock->yQ,agg->yO,pointer->yD,slice->yG
open Option renaming none->I,some->J
set_option maxHeartbeats 4000000
namespace Go.Proofs.YtdphiompijbelaaGreat
open Go.RowKit
section
open Go.Sort
attribute [local go_sem] Loose.gent
theorem zi.grow {w w' w'':y} {b:Nat} {D:Dsd} {X X':Pg.Spc} (h:zi w b D X X' w') (hb:Lw w' w''):zi w b D X X' w'':=by
 obtain⟨D',h1,h2,h3⟩:=h;exact⟨D',h1.grow hb,h2.trans (But.yhJ (F:=fun _=>False) hb) (fun _ _ h=>h.elim),h3⟩
theorem Dsk.done {w w':y} {b k:Nat} {D:Dsd} {X:Pg.Spc} {C':Pg.Cr} {S':Pg.Fs} {Fc FM':Nat->Prop} (h:Dsk w b D X) (hk:k<X.C.length) (hC:qq w' (D.cb k) 0 C' Fc) (hm:zh w' D.bm S' FM') (hb:But (fun j=>D.cF k j\/D.FM j) w w') (hF:∀x,Fc x->D.cF k x\/w.heap.size<=x) (sW:∀x,FM' x->D.FM x\/w.heap.size<=x) (Ho:∀x,Fc x->¬FM' x):
 zi w b D X {X with S:=S',C:=X.C.set k C'} w':=by
 have hl:(X.C.set k C').length=X.C.length:=yX;refine⟨_,h.walked hk hC hm hb hF sW Ho,hb.mono (fun x _ e=>e.elim (fun e=>⟨k+5,hk,e⟩) (fun e=>⟨1,e⟩)),fun x hx=> ?_⟩;simp only[hl]at hx;exact yaQ hk hF sW x hx
theorem Dsk.ymg {w w':y} {b k:Nat} {D:Dsd} {X:Pg.Spc} {C':Pg.Cr} {Fc:Nat->Prop} (h:Dsk w b D X) (hk:k<X.C.length) (hC:qq w' (D.cb k) 0 C' Fc) (hb:But (D.cF k) w w') (hF:∀x,Fc x->D.cF k x\/w.heap.size<=x):
 zi w b D X {X with C:=X.C.set k C'} w':=by
 have hl:(X.C.set k C').length=X.C.length:=yX;refine⟨_,h.asked hk hC hb hF,hb.mono (fun x _ e=>⟨k+5,hk,e⟩),fun x hx=> ?_⟩;simp only[hl]at hx;exact ybU hk hF x hx
theorem Dsk.apart {w:y} {b k:Nat} {D:Dsd} {X:Pg.Spc} (h:Dsk w b D X) (hk:k<X.C.length):∀j,D.cF k j->¬D.FM j:=fun j hj hm=>by
 have:=h.part (k+5) 1 j ⟨hk,hj⟩ hm;omega
theorem ybY {b:Nat} {D:Dsd} {X:Pg.Spc} (x:Pg.Sx) (hc:x.core<0\/(X.C.length:Int)<=x.core) (w:y) (h:Dsk w b D X):
 uv U 53 #[N (J ⟨b,0,I⟩),x.val] w fun e w'=>e=O (Pg.Ev.code 1).val/\Lw w w':=by
 obtain⟨W,hW⟩:=eY (chW w x)
 have CW:Q (ChW w W x):=by rw[hW];exact xK w x
 have HH:=qi x.core W (h.grow CW.out.bel);rw[show(decide (0<=x.core)&&decide (x.core<(X.C.length:Int)))=z by simp;omega]at HH;have rU:W.heap.size=w.heap.size+2:=CW.out.size;have x1:=CW.out.x1;clear h hc;obtain⟨kd,co,⟨p,s,f,r⟩,q,k,u⟩:=x;simp only at x1 HH;simp only[chW,Pg.Sx.val]at hW ⊢
 go_enter Tryz.func53,Tryz.ntmps53
 go_upto_region 1 with fail
 rw[<-hW];clear hW
 go_wp2_with fail
 refine HH.mono ?_;rintro e w1 ⟨rfl,hw⟩;subst w1
 go_wp2_with fail
 refine(xz 1 _).mono ?_;rintro e w2 ⟨rfl,Hd⟩;obtain⟨⟨z0,z1,z2,z3,z4,z5⟩,zf⟩:=zE ((Hd.block _ (by omega)).trans CW.out.ev)
 have pJ:w.heap.size+1<w2.heap.size:=by have:=Hd.size;omega
 have Ht:Q (Lw w w2):=zT CW.out.bel Hd;clear Hd;simp only[Pg.Ev.val,Pg.Ev.code]
 go_wp2
 refine kO (v:=(Pg.Ev.code 1).val) ?_ rfl ⟨rfl,?_⟩
 ·simp[results,Tryz.results53,go_sem,z0,z1,z2,z3,z4,z5,pJ,Pg.Ev.val,Pg.Ev.code]
 ·exact vn Ht.out _ (by omega) _ _ _ _ _ _
theorem ybm {b:Nat} {D:Dsd} {X:Pg.Spc} {c:Nat} (x:Pg.Sx) (hx:x.kind=4) (hc:x.core=(c:Int)) (hl:c<X.C.length) (w:y) (h:Dsk w b D X):
 uv U 53 #[N (J ⟨b,0,I⟩),x.val] w fun e w'=>e=O ((X.C.getD c Pg.Cr.new).bgT x.q x.k x.u).ev.val/\zi w b D X {X with C:=X.C.set c ((X.C.getD c Pg.Cr.new).bgN 0 x.q x.k x.u)} w':=by
 obtain⟨W,hW⟩:=eY (chW w x)
 have CW:Q (ChW w W x):=by rw[hW];exact xK w x
 have PW:Q _:=h.grow CW.out.bel;have HH:=qi x.core W PW.out;rw[show(decide (0<=x.core)&&decide (x.core<(X.C.length:Int)))=ua by rw[hc];simp[hl]]at HH;have LT:Q (∀x,dsF D b X.C.length X.G x->x<w.heap.size):=h.owns;have rU:W.heap.size=w.heap.size+2:=CW.out.size;have x1:=CW.out.x1;have g2:=Z PW.out.c2;have gc:=Z (PW.out.row c hl);have y1:=Z CW.out.x1;clear h;obtain⟨kd,co,⟨p,s,f,r⟩,q,k,u⟩:=x;simp only at hx hc x1 y1 HH;subst hx hc
 have i0:(0:Int)<=(c:Int):=by omega
 have i1:(c:Int)<(X.C.length:Int):=by omega
 have gN:=fun w' (h:qq w' (D.cb c) 0 (X.C.getD c Pg.Cr.new) (D.cF c))=>ycI q k u w' h;generalize hT:(X.C.getD c Pg.Cr.new).bgT q k u=T at*;generalize wZ:(X.C.getD c Pg.Cr.new).bgN 0 q k u=C' at*;clear hT wZ;obtain⟨ta,tf,tr,te,tc⟩:=T;simp only[Pg.Tl.val,Pg.Tl.ev]at gN ⊢;simp only[chW,Pg.Sx.val]at hW ⊢
 go_enter Tryz.func53,Tryz.ntmps53
 go_upto_region 1 with fail
 rw[<-hW];clear hW
 go_wp2_with fail
 refine HH.mono ?_;rintro e w1 ⟨rfl,hw⟩;subst w1
 go_upto_region 3 with fail
 clear HH x1;refine Loose.yhL 8 (by kernel_rfl) (by kernel_rfl) ?_;simp only[un,yP,ur,yS]
 repeat (
  refine Loose.zS (fun k hk=> ?_)
  go_simp
  (refine hk _ ?_;clear hk k))
 refine Loose.yhM ?_;intro w3 He;have P3:Q _:=PW.out.grow He;have B3:Q (Lw w w3):=zT CW.out.bel He;have E3:Q (w3.heap[w.heap.size+1]?=_):=(He.block _ (by omega)).trans CW.out.ev
 have dn:w.heap.size+1<w3.heap.size:=by have:=He.size;omega
 have x0:=(He.cell (p:=⟨w.heap.size,0,I⟩) (show w.heap.size<_ by omega)).trans CW.out.x0;have x1:=(He.cell (p:=⟨w.heap.size,1,I⟩) (show w.heap.size<_ by omega)).trans CW.out.x1;have x6:=(He.cell (p:=⟨w.heap.size,6,I⟩) (show w.heap.size<_ by omega)).trans CW.out.x6;have x7:=(He.cell (p:=⟨w.heap.size,7,I⟩) (show w.heap.size<_ by omega)).trans CW.out.x7;have x8:=(He.cell (p:=⟨w.heap.size,8,I⟩) (show w.heap.size<_ by omega)).trans CW.out.x8;simp only at x0 x1 x6 x7 x8;clear He g2 gc y1 PW CW;have gN:=gN w3 (P3.out.core c hl)
 go_wp2_with fail
 refine gN.mono ?_;rintro e w4 ⟨rfl,dB,Hl⟩;have D4:Q _:=P3.out.ymg hl dB Hl (fun x hx=> .inl hx);clear dB Hl gN P3
 go_wp2_with fail
 refine(jB ta tf tr tc te _).mono ?_;rintro e w5 ⟨rfl,rD⟩;have D5:Q _:=D4.out.grow rD;clear rD D4;have FIN:Q (∀Wf,But (fun x=>x=w.heap.size+1) w5 Wf->zi w b D X {X with C:=X.C.set c C'} Wf):=fun Wf hb=>D5.out.behind B3.out LT.out (fun x e=>by omega) hb;obtain⟨e5,uI⟩:=D5.out.block (w:=w) (r:=w.heap.size+1) LT.out (by omega) (by omega);obtain⟨⟨z0,z1,z2,z3,z4,z5⟩,zf⟩:=zE (e5.trans E3.out);clear e5 D5 E3 B3 x0 x1 x6 x7 x8;simp only[Pg.Ev.val,Pg.Ev.code]
 go_wp2
 refine kO (v:=Pg.Ev.val ⟨tc,te,ta,tf,tr,z⟩) ?_ rfl ⟨rfl,FIN.out _ ?_⟩
 ·simp[results,Tryz.results53,go_sem,z0,z1,z2,z3,z4,z5,uI,Pg.Ev.val,Pg.Ev.code]
 ·exact ybL _ _ _ _ _ _ _ _
theorem dvCore_walk {b:Nat} {D:Dsd} {X:Pg.Spc} {c:Nat} (x:Pg.Sx) (hx:x.kind=5) (hc:x.core=(c:Int)) (hl:c<X.C.length) (w:y) (h:Dsk w b D X):
 uv U 53 #[N (J ⟨b,0,I⟩),x.val] w fun e w'=>e=O ((X.C.getD c Pg.Cr.new).stT X.S 0).ev.val/\zi w b D X {X with S:=(X.C.getD c Pg.Cr.new).stS X.S 0,C:=X.C.set c ((X.C.getD c Pg.Cr.new).stN X.S 0)} w':=by
 obtain⟨W,hW⟩:=eY (chW w x)
 have CW:Q (ChW w W x):=by rw[hW];exact xK w x
 have PW:Q _:=h.grow CW.out.bel;have HH:=qi x.core W PW.out;rw[show(decide (0<=x.core)&&decide (x.core<(X.C.length:Int)))=ua by rw[hc];simp[hl]]at HH;have LT:Q (∀x,dsF D b X.C.length X.G x->x<w.heap.size):=h.owns;have rU:W.heap.size=w.heap.size+2:=CW.out.size;have x1:=CW.out.x1;have g2:=Z PW.out.c2;have gc:=Z (PW.out.row c hl);have y1:=Z CW.out.x1;clear h;obtain⟨kd,co,⟨p,s,f,r⟩,q,k,u⟩:=x;simp only at hx hc x1 y1 HH;subst hx hc
 have i0:(0:Int)<=(c:Int):=by omega
 have i1:(c:Int)<(X.C.length:Int):=by omega
 have gN:=fun w' (h:qq w' (D.cb c) 0 (X.C.getD c Pg.Cr.new) (D.cF c)) (hm:zh w' D.bm X.S D.FM) Ho=>ydy w' h hm Ho;generalize hT:(X.C.getD c Pg.Cr.new).stT X.S 0=T at*;generalize wZ:(X.C.getD c Pg.Cr.new).stN X.S 0=C' at*;generalize Rf:(X.C.getD c Pg.Cr.new).stS X.S 0=S' at*;clear hT wZ Rf;obtain⟨ta,tf,tr,te,tc⟩:=T;simp only[Pg.Tl.val,Pg.Tl.ev]at gN ⊢;simp only[chW,Pg.Sx.val]at hW ⊢
 go_enter Tryz.func53,Tryz.ntmps53
 go_upto_region 1 with fail
 rw[<-hW];clear hW
 go_wp2_with fail
 refine HH.mono ?_;rintro e w1 ⟨rfl,hw⟩;subst w1
 go_upto_region 3 with fail
 clear HH x1;refine Loose.yhL 8 (by kernel_rfl) (by kernel_rfl) ?_;simp only[un,yP,ur,yS]
 repeat (
  refine Loose.zS (fun k hk=> ?_)
  go_simp
  (refine hk _ ?_;clear hk k))
 refine Loose.yhM ?_;intro w3 He;have P3:Q _:=PW.out.grow He;have B3:Q (Lw w w3):=zT CW.out.bel He;have E3:Q (w3.heap[w.heap.size+1]?=_):=(He.block _ (by omega)).trans CW.out.ev
 have dn:w.heap.size+1<w3.heap.size:=by have:=He.size;omega
 have x0:=(He.cell (p:=⟨w.heap.size,0,I⟩) (show w.heap.size<_ by omega)).trans CW.out.x0;have x1:=(He.cell (p:=⟨w.heap.size,1,I⟩) (show w.heap.size<_ by omega)).trans CW.out.x1;have x6:=(He.cell (p:=⟨w.heap.size,6,I⟩) (show w.heap.size<_ by omega)).trans CW.out.x6;have x7:=(He.cell (p:=⟨w.heap.size,7,I⟩) (show w.heap.size<_ by omega)).trans CW.out.x7;have x8:=(He.cell (p:=⟨w.heap.size,8,I⟩) (show w.heap.size<_ by omega)).trans CW.out.x8;simp only at x0 x1 x6 x7 x8;clear He g2 gc y1 PW CW;have gN:=gN w3 (P3.out.core c hl) P3.out.mem (P3.out.apart hl);have c0:=P3.out.c0
 go_wp2_with fail
 refine gN.mono ?_;rintro e w4 ⟨rfl,Fc,FM,dB,gD,Hl,fP,ES,Ho⟩;have D4:Q _:=P3.out.done hl dB gD Hl fP ES Ho;clear dB Hl gN P3 gD fP ES Ho c0
 go_wp2_with fail
 refine(jB ta tf tr tc te _).mono ?_;rintro e w5 ⟨rfl,rD⟩;have D5:Q _:=D4.out.grow rD;clear rD D4;have FIN:Q (∀Wf,But (fun x=>x=w.heap.size+1) w5 Wf->zi w b D X {X with S:=S',C:=X.C.set c C'} Wf):=fun Wf hb=>D5.out.behind B3.out LT.out (fun x e=>by omega) hb;obtain⟨e5,uI⟩:=D5.out.block (w:=w) (r:=w.heap.size+1) LT.out (by omega) (by omega);obtain⟨⟨z0,z1,z2,z3,z4,z5⟩,zf⟩:=zE (e5.trans E3.out);clear e5 D5 E3 B3 x0 x1 x6 x7 x8;simp only[Pg.Ev.val,Pg.Ev.code]
 go_wp2
 refine kO (v:=Pg.Ev.val ⟨tc,te,ta,tf,tr,z⟩) ?_ rfl ⟨rfl,FIN.out _ ?_⟩
 ·simp[results,Tryz.results53,go_sem,z0,z1,z2,z3,z4,z5,uI,Pg.Ev.val,Pg.Ev.code]
 ·exact ybL _ _ _ _ _ _ _ _
theorem ydI {b:Nat} {D:Dsd} {X:Pg.Spc} {c:Nat} (x:Pg.Sx) (hx:x.kind=6) (hc:x.core=(c:Int)) (hl:c<X.C.length) (w:y) (h:Dsk w b D X):
 uv U 53 #[N (J ⟨b,0,I⟩),x.val] w fun e w'=>e=O (X.akE c).val/\zi w b D X (X.akN c) w':=by
 obtain⟨W,hW⟩:=eY (chW w x)
 have CW:Q (ChW w W x):=by rw[hW];exact xK w x
 have PW:Q _:=h.grow CW.out.bel;have HH:=qi x.core W PW.out;rw[show(decide (0<=x.core)&&decide (x.core<(X.C.length:Int)))=ua by rw[hc];simp[hl]]at HH;have LT:Q (∀x,dsF D b X.C.length X.G x->x<w.heap.size):=h.owns;have rU:W.heap.size=w.heap.size+2:=CW.out.size;have x1:=CW.out.x1;have g2:=Z PW.out.c2;have gc:=Z (PW.out.row c hl);have y1:=Z CW.out.x1;clear h;obtain⟨kd,co,⟨p,s,f,r⟩,q,k,u⟩:=x;simp only at hx hc x1 y1 HH;subst hx hc
 have i0:(0:Int)<=(c:Int):=by omega
 have i1:(c:Int)<(X.C.length:Int):=by omega
 have gN:=fun w' (h:Dsk w' b D X)=>yeE hl w' h;generalize hT:X.akE c=T at*;generalize wZ:X.akN c=X' at*;clear hT wZ;obtain⟨tc,te,ta,tf,tr,tb⟩:=T;simp only[chW,Pg.Sx.val]at hW ⊢
 go_enter Tryz.func53,Tryz.ntmps53
 go_upto_region 1 with fail
 rw[<-hW];clear hW
 go_wp2_with fail
 refine HH.mono ?_;rintro e w1 ⟨rfl,hw⟩;subst w1
 go_upto_region 3 with fail
 clear HH x1;refine Loose.yhL 8 (by kernel_rfl) (by kernel_rfl) ?_;simp only[un,yP,ur,yS]
 repeat (
  refine Loose.zS (fun k hk=> ?_)
  go_simp
  (refine hk _ ?_;clear hk k))
 refine Loose.yhM ?_;intro w3 He;have P3:Q _:=PW.out.grow He;have B3:Q (Lw w w3):=zT CW.out.bel He;have E3:Q (w3.heap[w.heap.size+1]?=_):=(He.block _ (by omega)).trans CW.out.ev
 have dn:w.heap.size+1<w3.heap.size:=by have:=He.size;omega
 have x0:=(He.cell (p:=⟨w.heap.size,0,I⟩) (show w.heap.size<_ by omega)).trans CW.out.x0;have x1:=(He.cell (p:=⟨w.heap.size,1,I⟩) (show w.heap.size<_ by omega)).trans CW.out.x1;have x6:=(He.cell (p:=⟨w.heap.size,6,I⟩) (show w.heap.size<_ by omega)).trans CW.out.x6;have x7:=(He.cell (p:=⟨w.heap.size,7,I⟩) (show w.heap.size<_ by omega)).trans CW.out.x7;have x8:=(He.cell (p:=⟨w.heap.size,8,I⟩) (show w.heap.size<_ by omega)).trans CW.out.x8;simp only at x0 x1 x6 x7 x8;clear He g2 gc y1 PW CW;have gN:=gN w3 P3.out
 go_wp2_with fail
 refine gN.mono ?_;rintro e w4 ⟨rfl,d4⟩;have D5:Q _:=d4;clear d4 gN P3;have FIN:Q (∀Wf,But (fun x=>x=w.heap.size+1) w4 Wf->zi w b D X X' Wf):=fun Wf hb=>D5.out.behind B3.out LT.out (fun x e=>by omega) hb;obtain⟨e5,uI⟩:=D5.out.block (w:=w) (r:=w.heap.size+1) LT.out (by omega) (by omega);obtain⟨⟨z0,z1,z2,z3,z4,z5⟩,zf⟩:=zE (e5.trans E3.out);clear e5 D5 E3 B3 x0 x1 x6 x7 x8;simp only[Pg.Ev.val,Pg.Ev.code]
 go_wp2
 refine kO (v:=Pg.Ev.val ⟨tc,te,ta,tf,tr,tb⟩) ?_ rfl ⟨rfl,FIN.out _ ?_⟩
 ·simp[results,Tryz.results53,go_sem,z0,z1,z2,z3,z4,z5,uI,Pg.Ev.val,Pg.Ev.code]
 ·exact ybL _ _ _ _ _ _ _ _
theorem ybX {b:Nat} {D:Dsd} {X:Pg.Spc} {c:Nat} (x:Pg.Sx) (hx:x.kind=7) (hc:x.core=(c:Int)) (hl:c<X.C.length) (w:y) (h:Dsk w b D X):
 uv U 53 #[N (J ⟨b,0,I⟩),x.val] w fun e w'=>e=O (if (X.C.getD c Pg.Cr.new).L=[]then Pg.Ev.code 9 else Pg.Ev.code 0).val/\zi w b D X {X with C:=X.C.set c (X.C.getD c Pg.Cr.new).yiy} w':=by
 obtain⟨W,hW⟩:=eY (chW w x)
 have CW:Q (ChW w W x):=by rw[hW];exact xK w x
 have PW:Q _:=h.grow CW.out.bel;have HH:=qi x.core W PW.out;rw[show(decide (0<=x.core)&&decide (x.core<(X.C.length:Int)))=ua by rw[hc];simp[hl]]at HH;have LT:Q (∀x,dsF D b X.C.length X.G x->x<w.heap.size):=h.owns;have rU:W.heap.size=w.heap.size+2:=CW.out.size;have x1:=CW.out.x1;have g2:=Z PW.out.c2;have gc:=Z (PW.out.row c hl);have y1:=Z CW.out.x1;clear h;obtain⟨kd,co,⟨p,s,f,r⟩,q,k,u⟩:=x;simp only at hx hc x1 y1 HH;subst hx hc
 have i0:(0:Int)<=(c:Int):=by omega
 have i1:(c:Int)<(X.C.length:Int):=by omega
 have gN:=fun w' (h:qq w' (D.cb c) 0 (X.C.getD c Pg.Cr.new) (D.cF c))=>ycO w' h;generalize hT:(if (X.C.getD c Pg.Cr.new).L=[]then Pg.Ev.code 9 else Pg.Ev.code 0)=T at*;generalize wZ:(X.C.getD c Pg.Cr.new).yiy=C' at*;clear hT wZ;obtain⟨tc,te,ta,tf,tr,tb⟩:=T;simp only[chW,Pg.Sx.val]at hW ⊢
 go_enter Tryz.func53,Tryz.ntmps53
 go_upto_region 1 with fail
 rw[<-hW];clear hW
 go_wp2_with fail
 refine HH.mono ?_;rintro e w1 ⟨rfl,hw⟩;subst w1
 go_upto_region 3 with fail
 clear HH x1;refine Loose.yhL 8 (by kernel_rfl) (by kernel_rfl) ?_;simp only[un,yP,ur,yS]
 repeat (
  refine Loose.zS (fun k hk=> ?_)
  go_simp
  (refine hk _ ?_;clear hk k))
 refine Loose.yhM ?_;intro w3 He;have P3:Q _:=PW.out.grow He;have B3:Q (Lw w w3):=zT CW.out.bel He;have E3:Q (w3.heap[w.heap.size+1]?=_):=(He.block _ (by omega)).trans CW.out.ev
 have dn:w.heap.size+1<w3.heap.size:=by have:=He.size;omega
 have x0:=(He.cell (p:=⟨w.heap.size,0,I⟩) (show w.heap.size<_ by omega)).trans CW.out.x0;have x1:=(He.cell (p:=⟨w.heap.size,1,I⟩) (show w.heap.size<_ by omega)).trans CW.out.x1;have x6:=(He.cell (p:=⟨w.heap.size,6,I⟩) (show w.heap.size<_ by omega)).trans CW.out.x6;have x7:=(He.cell (p:=⟨w.heap.size,7,I⟩) (show w.heap.size<_ by omega)).trans CW.out.x7;have x8:=(He.cell (p:=⟨w.heap.size,8,I⟩) (show w.heap.size<_ by omega)).trans CW.out.x8;simp only at x0 x1 x6 x7 x8;clear He g2 gc y1 PW CW;have gN:=gN w3 (P3.out.core c hl)
 go_wp2_with fail
 refine gN.mono ?_;rintro e w4 ⟨rfl,Fc,dB,Hl,fP⟩;have D5:Q _:=P3.out.ymg hl dB Hl fP;clear dB Hl fP gN P3;have FIN:Q (∀Wf,But (fun x=>x=w.heap.size+1) w4 Wf->zi w b D X {X with C:=X.C.set c C'} Wf):=fun Wf hb=>D5.out.behind B3.out LT.out (fun x e=>by omega) hb;obtain⟨e5,uI⟩:=D5.out.block (w:=w) (r:=w.heap.size+1) LT.out (by omega) (by omega);obtain⟨⟨z0,z1,z2,z3,z4,z5⟩,zf⟩:=zE (e5.trans E3.out);clear e5 D5 E3 B3 x0 x1 x6 x7 x8;simp only[Pg.Ev.val,Pg.Ev.code]
 go_wp2
 refine kO (v:=Pg.Ev.val ⟨tc,te,ta,tf,tr,tb⟩) ?_ rfl ⟨rfl,FIN.out _ ?_⟩
 ·simp[results,Tryz.results53,go_sem,z0,z1,z2,z3,z4,z5,uI,Pg.Ev.val,Pg.Ev.code]
 ·exact ybL _ _ _ _ _ _ _ _
theorem ybV {b:Nat} {D:Dsd} {X:Pg.Spc} (x:Pg.Sx) (hx:1<=x.kind/\x.kind<=3) (w:y) (h:Dsk w b D X):
 uv U 52 #[N (J ⟨b,0,I⟩),x.val] w fun e w'=>e=O (X.chE x).val/\zi w b D X (X.chN x) w':=by
 unfold Pg.Spc.chE Pg.Spc.chN;cases hb:X.busy
 ·simp only[Bool.false_eq_true,if_false]
  by_cases h1:x.kind=1
  ·rw[iP h1,iP h1]
   exact ybW x h1 hb w h
  ·rw[iN h1,iN h1]
   by_cases h2:x.kind=2
   ·rw[iP h2,iP h2]
    exact yao x h2 hb w h (fun e=>iP e) (fun e=>iN e)
   ·rw[iN h2,iN h2]
    exact vo x (by omega) hb w h (fun e=>iP e) (fun e=>iN e)
 ·simp only[if_true]
  refine(ybl x hb w h).mono ?_;rintro e w' ⟨rfl,rV⟩;exact⟨rfl,.same h rV⟩
theorem ydJ {b:Nat} {D:Dsd} {X:Pg.Spc} (x:Pg.Sx) (hx:4<=x.kind/\x.kind<=7) (w:y) (h:Dsk w b D X):
 uv U 53 #[N (J ⟨b,0,I⟩),x.val] w fun e w'=>e=O (X.goE x).val/\zi w b D X (X.goN x) w':=by
 unfold Pg.Spc.goE Pg.Spc.goN;rw[iN (show ¬(1<=x.kind/\x.kind<=3) by omega),iN (show ¬(1<=x.kind/\x.kind<=3) by omega),iN (show ¬(x.kind<1\/7<x.kind) by omega),iN (show ¬(x.kind<1\/7<x.kind) by omega)]
 by_cases hr:x.core<0\/(X.C.length:Int)<=x.core
 ·rw[iP hr,iP hr]
  refine(ybY x hr w h).mono ?_;rintro e w' ⟨rfl,rV⟩;exact⟨rfl,.same h rV⟩
 ·rw[iN hr,iN hr]
  obtain⟨c,hc⟩:=yN (show 0<=x.core by omega)
  have hl:c<X.C.length:=by omega
  have ea:X.at' x.core=X.C.getD c Pg.Cr.new:=by unfold Pg.Spc.at';rw[hc,kp]
  have et:x.core.toNat=c:=by rw[hc,kp]
  rw[ea,et]
  by_cases h4:x.kind=4
  ·rw[iP h4,iP h4]
   exact ybm x h4 hc hl w h
  ·rw[iN h4,iN h4]
   by_cases h5:x.kind=5
   ·rw[iP h5,iP h5]
    exact dvCore_walk x h5 hc hl w h
   ·rw[iN h5,iN h5]
    by_cases h6:x.kind=6
    ·rw[iP h6,iP h6,hc]
     exact ydI x h6 hc hl w h
    ·rw[iN h6,iN h6]
     exact ybX x (by omega) hc hl w h
theorem ycN {b:Nat} {D:Dsd} {X:Pg.Spc} (x:Pg.Sx) (hx:x.kind=1\/x.kind=2\/x.kind=3) (w:y) (h:Dsk w b D X):
 uv U 12 #[N (J ⟨b,0,I⟩),x.val] w fun e w'=>e=O (X.chE x).val/\zi w b D X (X.chN x) w':=by
 obtain⟨W,hW⟩:=eY (chW w x)
 have CW:Q (ChW w W x):=by rw[hW];exact xK w x
 have LT:Q (∀x,dsF D b X.C.length X.G x->x<w.heap.size):=h.owns;have HC:=ybV x (by omega) W (h.grow CW.out.bel);have rU:W.heap.size=w.heap.size+2:=CW.out.size;obtain⟨x0,x1,x2,x3,x4,x5,x6,x7,x8⟩:=(⟨CW.out.x0,CW.out.x1,CW.out.x2,CW.out.x3,CW.out.x4,CW.out.x5,CW.out.x6,CW.out.x7,CW.out.x8⟩:_/\_/\_/\_/\_/\_/\_/\_/\_);clear h;generalize hE:X.chE x=E at*;generalize hN:X.chN x=X' at*;clear hE hN;obtain⟨kd,co,⟨p,s,f,r⟩,q,k,u⟩:=x;simp only[chW,Pg.Sx.val]at hW HC hx x0 x1 x2 x3 x4 x5 x6 x7 x8 ⊢;obtain⟨ec,en,ea,ef,er,eb⟩:=E;simp only[Pg.Ev.val]at HC ⊢;rcases hx with rfl|rfl|rfl
 all_goals
  go_enter Tryz.func12,Tryz.ntmps12
  go_upto_region 1 with fail
  rw[<-hW];clear hW
  go_wp2_with fail
  refine HC.mono ?_;rintro e w1 ⟨rfl,d1⟩;have D1:Q _:=d1;obtain⟨e1,rG⟩:=d1.block (w:=w) (r:=w.heap.size+1) LT.out (by omega) (by omega);obtain⟨⟨z0,z1,z2,z3,z4,z5⟩,zf⟩:=zE (e1.trans CW.out.ev);have FIN:Q (∀Wf,But (fun x=>x=w.heap.size+1) w1 Wf->zi w b D X X' Wf):=fun Wf hb=>D1.out.behind CW.out.bel LT.out (fun x e=>by omega) hb;clear d1 D1 e1 HC x0 x1 x2 x3 x4 x5 x6 x7 x8 CW
  go_wp2
  refine kO (v:=yO #[Y V ec,yF en,Y V ea,Y V ef,Y V er,yF eb]) ?_ rfl ⟨rfl,FIN.out _ ?_⟩
  ·simp[results,Tryz.results12,go_sem,z0,z1,z2,z3,z4,z5,rG]
  ·exact ybL _ _ _ _ _ _ _ _
theorem yeF {b:Nat} {D:Dsd} {X:Pg.Spc} (x:Pg.Sx) (hx:x.kind=4\/x.kind=5\/x.kind=6\/x.kind=7) (w:y) (h:Dsk w b D X):
 uv U 12 #[N (J ⟨b,0,I⟩),x.val] w fun e w'=>e=O (X.goE x).val/\zi w b D X (X.goN x) w':=by
 obtain⟨W,hW⟩:=eY (chW w x)
 have CW:Q (ChW w W x):=by rw[hW];exact xK w x
 have LT:Q (∀x,dsF D b X.C.length X.G x->x<w.heap.size):=h.owns;have HC:=ydJ x (by omega) W (h.grow CW.out.bel);have rU:W.heap.size=w.heap.size+2:=CW.out.size;obtain⟨x0,x1,x2,x3,x4,x5,x6,x7,x8⟩:=(⟨CW.out.x0,CW.out.x1,CW.out.x2,CW.out.x3,CW.out.x4,CW.out.x5,CW.out.x6,CW.out.x7,CW.out.x8⟩:_/\_/\_/\_/\_/\_/\_/\_/\_);clear h;generalize hE:X.goE x=E at*;generalize hN:X.goN x=X' at*;clear hE hN;obtain⟨kd,co,⟨p,s,f,r⟩,q,k,u⟩:=x;simp only[chW,Pg.Sx.val]at hW HC hx x0 x1 x2 x3 x4 x5 x6 x7 x8 ⊢;obtain⟨ec,en,ea,ef,er,eb⟩:=E;simp only[Pg.Ev.val]at HC ⊢;rcases hx with rfl|rfl|rfl|rfl
 all_goals
  go_enter Tryz.func12,Tryz.ntmps12
  go_upto_region 1 with fail
  rw[<-hW];clear hW
  go_wp2_with fail
  refine HC.mono ?_;rintro e w1 ⟨rfl,d1⟩;have D1:Q _:=d1;obtain⟨e1,rG⟩:=d1.block (w:=w) (r:=w.heap.size+1) LT.out (by omega) (by omega);obtain⟨⟨z0,z1,z2,z3,z4,z5⟩,zf⟩:=zE (e1.trans CW.out.ev);have FIN:Q (∀Wf,But (fun x=>x=w.heap.size+1) w1 Wf->zi w b D X X' Wf):=fun Wf hb=>D1.out.behind CW.out.bel LT.out (fun x e=>by omega) hb;clear d1 D1 e1 HC x0 x1 x2 x3 x4 x5 x6 x7 x8 CW
  go_wp2
  refine kO (v:=yO #[Y V ec,yF en,Y V ea,Y V ef,Y V er,yF eb]) ?_ rfl ⟨rfl,FIN.out _ ?_⟩
  ·simp[results,Tryz.results12,go_sem,z0,z1,z2,z3,z4,z5,rG]
  ·exact ybL _ _ _ _ _ _ _ _
theorem yeG {b:Nat} {D:Dsd} {X:Pg.Spc} (x:Pg.Sx) (hx:x.kind<1\/7<x.kind) (w:y) (h:Dsk w b D X):
 uv U 12 #[N (J ⟨b,0,I⟩),x.val] w fun e w'=>e=O (Pg.Ev.code 2).val/\Lw w w':=by
 obtain⟨W,hW⟩:=eY (chW w x)
 have CW:Q (ChW w W x):=by rw[hW];exact xK w x
 have rU:W.heap.size=w.heap.size+2:=CW.out.size;have x0:=CW.out.x0;clear h;obtain⟨kd,co,⟨p,s,f,r⟩,q,k,u⟩:=x;simp only[chW,Pg.Sx.val]at hW hx x0 ⊢
 have k1:(kd==1)=z:=by simp;omega
 have k2:(kd==2)=z:=by simp;omega
 have k3:(kd==3)=z:=by simp;omega
 have k4:(kd==4)=z:=by simp;omega
 have k5:(kd==5)=z:=by simp;omega
 have k6:(kd==6)=z:=by simp;omega
 have k7:(kd==7)=z:=by simp;omega
 clear hx
 go_enter Tryz.func12,Tryz.ntmps12
 go_upto_region 1 with fail
 rw[<-hW];clear hW
 go_wp2_with fail
 refine(xz 2 _).mono ?_;rintro e w2 ⟨rfl,Hd⟩;obtain⟨⟨z0,z1,z2,z3,z4,z5⟩,zf⟩:=zE ((Hd.block _ (by omega)).trans CW.out.ev)
 have pJ:w.heap.size+1<w2.heap.size:=by have:=Hd.size;omega
 have Ht:Q (Lw w w2):=zT CW.out.bel Hd;clear Hd;simp only[Pg.Ev.val,Pg.Ev.code]
 go_wp2
 refine kO (v:=(Pg.Ev.code 2).val) ?_ rfl ⟨rfl,?_⟩
 ·simp[results,Tryz.results12,go_sem,z0,z1,z2,z3,z4,z5,pJ,Pg.Ev.val,Pg.Ev.code]
 ·exact vn Ht.out _ (by omega) _ _ _ _ _ _
theorem yfE {b:Nat} {X:Pg.Spc} {F:Nat->Prop} (x:Pg.Sx) (w:y) (h:vv w b X F):
 uv U 12 #[N (J ⟨b,0,I⟩),x.val] w fun e w'=>e=O (X.goE x).val/\∃F',vv w' b (X.goN x) F'/\But F w w'/\∀k,F' k->F k\/w.heap.size<=k:=by
 obtain⟨D,h,rfl⟩:=h
 have key:uv U 12 #[N (J ⟨b,0,I⟩),x.val] w fun e w'=>e=O (X.goE x).val/\zi w b D X (X.goN x) w':=by
  by_cases hk:1<=x.kind/\x.kind<=3
  ·have e1:X.goE x=X.chE x:=by unfold Pg.Spc.goE;rw[iP hk]
   have e2:X.goN x=X.chN x:=by unfold Pg.Spc.goN;rw[iP hk]
   rw[e1,e2];exact ycN x (by omega) w h
  ·by_cases tK:x.kind<1\/7<x.kind
   ·have e1:X.goE x= .code 2:=by unfold Pg.Spc.goE;rw[iN hk,iP tK]
    have e2:X.goN x=X:=by unfold Pg.Spc.goN;rw[iN hk,iP tK]
    rw[e1,e2];refine(yeG x tK w h).mono ?_;rintro e w' ⟨rfl,rV⟩;exact⟨rfl,.same h rV⟩
   ·exact yeF x (by omega) w h
 refine key.mono ?_;rintro e w' ⟨rfl,D',h1,h3,h4⟩;exact⟨rfl,_,⟨D',h1,rfl⟩,h3,h4⟩
end
section
open Go.Sort
def ybH (cb:Nat->Nat) (k:Nat):List yZ:=(List.range k).map fun j=>N (J ⟨cb j,0,I⟩)
theorem ye6 (cb:Nat->Nat) {k j:Nat} (h:j<k):(ybH cb k)[j]?=J (N (J ⟨cb j,0,I⟩)):=by simp[ybH,h]
theorem ych (cb:Nat->Nat) (k:Nat):ybH cb (k+1)=ybH cb k++[N (J ⟨cb k,0,I⟩)]:=by simp[ybH,List.range_succ]
theorem yci {cb cb':Nat->Nat} {k:Nat} (h:∀j,j<k->cb j=cb' j):ybH cb k=ybH cb' k:=by
 unfold ybH;refine List.map_congr_left fun j hj=> ?_;rw[h j (by simpa using hj)]
set_option linter.all false
set_option maxRecDepth 100000
theorem yeU:(Tryz.prog.info? 114).map (fun i=>(i.zero,i.size,i.bytes))=J (J (N I),1,8):=by kernel_rfl
structure yfw (w wr:y) (b bm bs:Nat) (FM:Nat->Prop) (vC:yZ) (S:Pg.Fs) (k:Nat) (cb:Nat->Nat) (cF:Nat->Nat->Prop):Prop where
 bel:Lw w wr
 c0:wr.cell? ⟨b,0,I⟩=J (N (J ⟨bm,0,I⟩))
 c1:wr.cell? ⟨b,1,I⟩=J (Y V 0)
 c2:wr.cell? ⟨b,2,I⟩=J vC
 c3:wr.cell? ⟨b,3,I⟩=J (N (J ⟨bs,0,I⟩))
 c4:wr.cell? ⟨b,4,I⟩=J (ud I 0 0)
 fb:∀p,wr.frozen? ⟨b,p,I⟩=z
 mem:zh wr bm S FM
 tl:jz wr bs .zz (fun _=>z)
 mlo:∀x,FM x->w.heap.size<x/\x<b/\x≠bs
 blo:w.heap.size<bs/\bs<b
 own:wr.ownsRow (b+1) 114 1 vC k (ybH cb k)
 core:∀j,j<k->qq wr (cb j) 0 Pg.Cr.new (cF j)
 far:∀j x,j<k->cF j x->b<x/\vC.ownBlock≠J x
 inj:∀i j x,i<k->j<k->cF i x->cF j x->i=j
 rz:wr.heap[w.heap.size]?=J (yI #[Y V 0,Y V 0] 27 (0,0))
section
variable {w wr w2 w6:y} {b bm bs g cap k:Nat} {FM:Nat->Prop} {vC:yZ} {S:Pg.Fs} {cb:Nat->Nat} {cF:Nat->Nat->Prop}
theorem yfw.lb (h:yfw w wr b bm bs FM vC S k cb cF):b<wr.heap.size:=kh _ _ h.c0
theorem yfw.done {n co:Nat} (h:yfw w wr b bm bs FM vC (Pg.Fs.new n).take co cb cF) (h1:1<=co) (h4:co<=4):∃F,vv wr b (Pg.Spc.new co n) F/\∀k,F k->w.heap.size<k:=by
 obtain⟨gc,cc,rfl,gB,hgl⟩:=h.own.form (by omega);have rV:=h.blo;obtain⟨D,hD⟩:∃D:Dsd,D=⟨bm,FM,gc,cc,cb,cF,bs,I,0⟩:=⟨_,rfl⟩
 have dS:∀i x,D.own b co [] i x->(i=0/\x=b)\/(i=1/\w.heap.size<x/\x<b/\x≠bs)\/(i=2/\x=gc)\/(i=3/\x=bs)\/(∃j,i=j+5/\j<co/\cF j x/\b<x/\x≠gc):=fun i x hx=>by
  rw[hD]at hx
  match i with
  | 0=>exact .inl ⟨rfl,hx⟩
  | 1=>exact .inr (.inl ⟨rfl,h.mlo x hx⟩)
  | 2=>exact .inr (.inr (.inl ⟨rfl,hx⟩))
  | 3=>exact .inr (.inr (.inr (.inl ⟨rfl,hx⟩)))
  | 4=>exact absurd rfl hx.1
  | j+5=>
    have hf:=h.far j x hx.1 hx.2;exact .inr (.inr (.inr (.inr ⟨j,rfl,hx.1,hx.2,hf.1,fun e=>hf.2 (by simp[yQ,e])⟩)))
 have hC:(Pg.Spc.new co n).C.length=co:=by simp[Pg.Spc.new]
 have hG:(Pg.Spc.new co n).G=[]:=rfl;refine⟨_,⟨D,?_,rfl⟩,fun x hx=> ?_⟩
 ·have Pn:∀j,j<co->(Pg.Spc.new co n).C.getD j Pg.Cr.new=Pg.Cr.new:=fun j hj=>by simp[Pg.Spc.new,List.getD,hj]
  have Po:(fun j=>(Pg.Spc.new co n).W.getD j z)=fun _=>z:=by
   funext j
   by_cases hj:j<co<;>simp[Pg.Spc.new,List.getD,hj]
  refine⟨?_,h.c1,?_,?_,?_,h.fb,?_,fun j hj=> ?_,fun j hj=> ?_,?_,fun j hj=> ?_,fun i j x hi hj=> ?_,by simp[Pg.Spc.new],by rw[hC];exact h1,by rw[hC];exact h4,?_,by simp[Pg.Spc.new]⟩
  ·rw[hD];exact h.c0
  ·rw[hD,hC];exact h.c2
  ·rw[hD];exact h.c3
  ·rw[hD];exact h.c4
  ·rw[hD];exact h.mem
  ·rw[hC]at hj
   rw[hD]
   show wr.cell? ⟨gc,j,I⟩=_
   rw[h.own.cellAt j (by omega),ye6 cb hj]
  ·rw[hC]at hj
   rw[hD,Pn j hj];exact h.core j hj
  ·rw[hD,Po]
   exact h.tl
  ·rw[hG]at hj
   simp at hj
  ·rw[hC,hG]at hi hj
   rcases dS i x hi with ⟨ei,e1⟩|⟨ei,e1,e2,e3⟩|⟨ei,e1⟩|⟨ei,e1⟩|⟨p,ei,e1,e2,e3,e4⟩<;>rcases dS j x hj with ⟨ej,f1⟩|⟨ej,f1,f2,f3⟩|⟨ej,f1⟩|⟨ej,f1⟩|⟨q,ej,f1,f2,f3,f4⟩
   all_goals first
    | (subst ei ej;rfl)
    | (exfalso;omega)
    | (have:=h.inj p q x e1 f1 e2 f2;omega)
  ·show Pg.fits 0
   unfold Pg.fits;omega
 ·rw[hC,hG]at hx
  obtain⟨i,hi⟩:=hx
  rcases dS i x hi with ⟨ei,e1⟩|⟨ei,e1,e2,e3⟩|⟨ei,e1⟩|⟨ei,e1⟩|⟨p,ei,e1,e2,e3,e4⟩<;>omega
theorem yfw.push {cn:Nat} {Fc:Nat->Prop} (h:yfw w wr b bm bs FM vC S k cb cF) (hc:qq w2 cn 0 Pg.Cr.new Fc) (hb:Lw wr w2) (hF:∀x,Fc x->wr.heap.size<=x) (G:ygV b vC w2 w6 g) (hg:vC.ownBlock=J g\/w2.heap.size<=g)
 (ho:w6.ownsRow (b+1) 114 1 (ud (J ⟨g,0,I⟩) (k+1) cap) (k+1) (ybH cb k++[N (J ⟨cn,0,I⟩)])):
 yfw w (w6.setCell ⟨b,2,I⟩ (ud (J ⟨g,0,I⟩) (k+1) cap)) b bm bs FM (ud (J ⟨g,0,I⟩) (k+1) cap) S (k+1) (fun j=>if j=k then cn else cb j) (fun j=>if j=k then Fc else cF j):=by
 have rY:=h.lb
 have kP:w.heap.size<b:=by have:=h.blo;omega
 have ru:But (fun x=>vC.ownBlock=J x) wr w6:=(But.yhJ hb).trans G.but (fun _ _ h=>h);have rZ:But (fun x=>vC.ownBlock=J x\/x=b) wr (w6.setCell ⟨b,2,I⟩ (ud (J ⟨g,0,I⟩) (k+1) cap)):=(ru.mono (fun _ _ h=> .inl h)).setCell (a:=⟨b,2,I⟩) (.inr (.inr rfl)) _;have Kt:But (fun x=>vC.ownBlock=J x\/x=b) w2 (w6.setCell ⟨b,2,I⟩ (ud (J ⟨g,0,I⟩) (k+1) cap)):=(G.but.mono (fun _ _ h=> .inl h)).setCell (a:=⟨b,2,I⟩) (.inr (.inr rfl)) _;have kG:∀x,vC.ownBlock=J x->b<x:=G.far;have kb:=ru.block b rY (fun e=>by have:=kG b e;omega);have e0:∀p,w6.cell? ⟨b,p,I⟩=wr.cell? ⟨b,p,I⟩:=fun p=>yC (a:=⟨b,p,I⟩) kb;have f0:∀p,w6.frozen? ⟨b,p,I⟩=z:=fun p=>(yJ (a:=⟨b,p,I⟩) kb).trans (h.fb p);have k0:=(e0 0).trans h.c0;have k1:=(e0 1).trans h.c1;have k2:=(e0 2).trans h.c2;have k3:=(e0 3).trans h.c3;have k4:=(e0 4).trans h.c4;have low:∀x,x<b->¬(vC.ownBlock=J x\/x=b):=fun x hx e=>e.elim (fun e=>by have:=kG x e;omega) (fun e=>by omega);have bS:But (fun x=>x=b) w6 (w6.setCell ⟨b,2,I⟩ (ud (J ⟨g,0,I⟩) (k+1) cap)):=(But.refl (fun x=>x=b) w6).setCell (a:=⟨b,2,I⟩) (.inr rfl) _;have GQ:b<g:=G.gc;have Sz:∀x,vC.ownBlock=J x->x<wr.heap.size:=fun x hx=>(h.own.lt x hx).2;have pJ:=hb.size
 have new:∀x,Fc x->b<x/\vC.ownBlock≠J x/\x≠g:=fun x hx=>by
  have a1:=hF x hx;have a2:=hc.lt hx;refine⟨by omega,fun e=>by have:=Sz x e;omega,fun e=> ?_⟩;rcases hg with h'|h'
  ·have:=Sz g h'
   omega
  ·omega
 have old:∀j x,j<k->cF j x->b<x/\vC.ownBlock≠J x/\x≠g/\x<wr.heap.size:=fun j x hj hx=>by
  have a1:=h.far j x hj hx;have a2:=(h.core j hj).lt hx;refine⟨a1.1,a1.2,fun e=> ?_,a2⟩;rcases hg with h'|h'
  ·exact a1.2 (e▸h')
  ·omega
 refine⟨?_,by simp[go_sem,k0],by simp[go_sem,k1],by simp[go_sem,k2],by simp[go_sem,k3],by simp[go_sem,k4],fun p=>by simp[go_sem,f0],h.mem.keep rZ (fun x hx=>low x (h.mlo x hx).2.1),h.tl.keep rZ (low bs h.blo.2),h.mlo,h.blo,?_,fun j hj=> ?_,fun j x hj hx=> ?_,fun i j x hi hj wh Du=> ?_,(rZ.block _ (by have:=h.bel.size;omega) (low _ kP)).trans h.rz⟩
 ·exact h.bel.trans (rZ.below h.bel.size (fun x hx=>hx.elim (fun e=>by have:=kG x e;omega) (fun e=>by omega)))
 ·have hp:ybH (fun j=>if j=k then cn else cb j) (k+1)=ybH cb k++[N (J ⟨cn,0,I⟩)]:=by
   rw[ych,iP rfl,yci (cb':=cb) (fun j hj=>by rw[iN (by omega)])]
  rw[hp]
  exact zb ho (fun x hx=>by
   have:x=g:=by simpa[yQ]using hx.symm
   subst this
   exact bS.block x G.gl (by omega))
 ·by_cases e:j=k
  ·subst e
   simp only[if_true];exact hc.keep Kt (fun x hx e=>e.elim (fun e=>(new x hx).2.1 e) (fun e=>by have:=(new x hx).1;omega))
  ·simp only[iN e]
   exact(h.core j (by omega)).keep rZ (fun x hx e'=>e'.elim (fun e'=>(old j x (by omega) hx).2.1 e') (fun e'=>by have:=(old j x (by omega) hx).1;omega))
 ·have gx:x≠g->(yG (J ⟨g,0,I⟩) (k+1) cap).ownBlock≠J x:=fun Ho e=>Ho (by simpa[yQ]using e.symm)
  by_cases e:j=k
  ·subst e
   simp only[if_true]at hx;exact⟨(new x hx).1,gx (new x hx).2.2⟩
  ·simp only[iN e]at hx
   have:=old j x (by omega) hx;exact⟨this.1,gx this.2.2.1⟩
 ·by_cases ei:i=k
  ·by_cases ej:j=k
   ·omega
   ·subst ei
    simp only[if_true]at wh;simp only[iN ej]at Du;have a1:=hF x wh;have a2:=old j x (by omega) Du;omega
  ·by_cases ej:j=k
   ·subst ej
    simp only[if_true]at Du;simp only[iN ei]at wh;have a1:=hF x Du;have a2:=old i x (by omega) wh;omega
   ·simp only[iN ei]at wh
    simp only[iN ej]at Du;exact h.inj i j x (by omega) (by omega) wh Du
end
theorem yd6 {w:y} {r:Nat} {v0 v1:yZ} {t:TypeId} (h:w.heap[r]?=J (yI #[v0,v1] t (0,0))):
 (w.cell? ⟨r,0,I⟩=J v0/\w.cell? ⟨r,1,I⟩=J v1)/\∀i,w.frozen? ⟨r,i,I⟩=z:=
 ⟨by simp[World.cell?,h],fun i=>by simp[World.frozen?,h]⟩
theorem yeK (co n:Int) (w:y) (hb:co<1\/4<co\/n<1\/128<n):
 uv U 9 #[Y V co,Y V n] w fun e w'=>e=O (yV #[N I,yO #[Y V 1,Y V (-1)]])/\Lw w w':=by
 obtain⟨W,hW⟩:=eY (w.alloc (yI #[Y V 0,Y V 0] 27))
 have hB:Lw w W:=by rw[hW];exact zA (zR _) _
 have RZ:Q (W.heap[w.heap.size]?=J (yI #[Y V 0,Y V 0] 27 (0,0))):=by rw[Q,hW];exact yB _ _
 have rU:w.heap.size<W.heap.size:=by rw[hW];simp
 have HB:Q _:=hB;clear hB
 have nU:(decide (co<1)=ua)\/(decide (co<1)=z/\decide (4<co)=ua)\/(decide (co<1)=z/\decide (4<co)=z/\decide (n<1)=ua)\/(decide (co<1)=z/\decide (4<co)=z/\decide (n<1)=z/\128<n):=by
  simp only[decide_eq_true_eq,decide_eq_false_iff_not];omega
 clear hb;rcases nU with h1|⟨h1,h2⟩|⟨h1,h2,h3⟩|⟨h1,h2,h3,h4⟩
 iterate 3
  ·obtain⟨⟨z0,z1⟩,zf⟩:=yd6 RZ.out
   go_enter Tryz.func9,Tryz.ntmps9
   go_upto_region 1 with fail
   rw[<-hW];clear hW
   go_wp2
   refine kO (v:=yV #[N I,yO #[Y V 1,Y V (-1)]]) ?_ rfl ⟨rfl,?_⟩
   ·simp[results,Tryz.results9,go_sem,z0,z1,rU]
   ·exact(HB.out.setCell (p:=⟨w.heap.size,0,I⟩) (yY _) _).setCell (p:=⟨w.heap.size,1,I⟩) (yY _) _
 ·have HN:=yeP n (by omega) W
  go_enter Tryz.func9,Tryz.ntmps9
  go_upto_region 1 with fail
  rw[<-hW];clear hW
  go_wp2_with fail
  refine HN.mono ?_;rintro e w1 ⟨rfl,Ha⟩;obtain⟨W2,Hy⟩:=eY (w1.alloc (yI #[Y V 1,Y V (-1)] 27))
  have Hd:Lw w1 W2:=by rw[Hy];exact zA (zR _) _
  have rG:w.heap.size<w1.heap.size:=ki rU Ha.size;obtain⟨⟨z0,z1⟩,zf⟩:=yd6 ((Hd.block _ rG).trans ((Ha.block _ rU).trans RZ.out));obtain⟨⟨y0,y1⟩,yf⟩:=yd6 (show W2.heap[w1.heap.size]?=J (yI #[Y V 1,Y V (-1)] 27 (0,0)) by rw[Hy];exact yB _ _);have pJ:w.heap.size<W2.heap.size:=ki rG Hd.size;have Ht:Q (Lw w W2):=zT (zT HB.out Ha) Hd
  have Ho:w1.heap.size≠w.heap.size:=by omega
  have RA:w.heap.size≠w1.heap.size:=by omega
  clear Ha Hd HN
  go_upto_region 4 with fail
  rw[<-Hy];clear Hy
  go_upto_region 5 with fail
  go_region
  all_goals
   go_wp2
   refine kO (v:=yV #[N I,yO #[Y V 1,Y V (-1)]]) ?_ rfl ⟨rfl,?_⟩
   ·simp[results,Tryz.results9,go_sem,z0,z1,pJ]
   ·exact((Ht.out.setCell (p:=⟨w.heap.size,0,I⟩) (yY _) _).setCell (p:=⟨w.heap.size,1,I⟩) (yY _) _).drew
theorem yeJ (co n:Nat) (w:y) (h1:1<=co) (h4:co<=4) (hn:1<=n) (Bn:n<=128):
 uv U 9 #[Y V (co:Int),Y V (n:Int)] w fun e w'=>∃b F,e=O (yV #[N (J ⟨b,0,I⟩),yO #[Y V 0,Y V 0]])/\vv w' b (Pg.Spc.new co n) F/\Lw w w'/\∀k,F k->w.heap.size<=k:=by
 obtain⟨W,hW⟩:=eY (w.alloc (yI #[Y V 0,Y V 0] 27))
 have hB:Lw w W:=by rw[hW];exact zA (zR _) _
 have RZ:Q (W.heap[w.heap.size]?=J (yI #[Y V 0,Y V 0] 27 (0,0))):=by rw[Q,hW];exact yB _ _
 have rU:W.heap.size=w.heap.size+1:=by rw[hW];simp
 have HB:Q _:=hB
 have d1:decide ((co:Int)<1)=z:=by simp;omega
 have d2:decide ((4:Int)<(co:Int))=z:=by simp;omega
 have d3:decide ((n:Int)<1)=z:=by simp;omega
 have HN:=yeO n Bn W;obtain⟨p0,MQ,Dq,MR,MS⟩:=info_parts yeU;clear hB
 go_enter Tryz.func9,Tryz.ntmps9
 go_upto_region 1 with fail
 rw[<-hW];clear hW
 go_wp2_with fail
 refine HN.mono ?_;rintro e w1 ⟨bm,F1,rfl,dX,Ha,tH⟩;obtain⟨W2,Hy⟩:=eY (w1.alloc (yI #[Y V 0,Y V 0] 27))
 have Hd:Lw w1 W2:=by rw[Hy];exact zA (zR _) _
 have rG:w.heap.size<w1.heap.size:=by have:=Ha.size;omega
 obtain⟨⟨y0,y1⟩,yf⟩:=yd6 (show W2.heap[w1.heap.size]?=J (yI #[Y V 0,Y V 0] 27 (0,0)) by rw[Hy];exact yB _ _);have Z2:Q (W2.heap[w.heap.size]?=_):=(Hd.block _ rG).trans ((Ha.block _ (by omega)).trans RZ.out);have pJ:w.heap.size<W2.heap.size:=ki rG Hd.size;have Ht:Q (Lw w W2):=zT (zT HB.out Ha) Hd;have mq:Q (zh W2 bm (Pg.Fs.new n) F1):=zh.keep (G:=fun _=>False) dX (But.yhJ Hd) (fun _ _=>id)
 have wF:Q (∀x,F1 x->w.heap.size<x):=fun x hx=>by have:=tH x hx;omega
 have HT:=yaY W2 mq.out;rw[show(Pg.Fs.new n).takeN=0 by unfold Pg.Fs.takeN Pg.Fs.pick Pg.Fs.new;simp only[List.getLast?_nil];rw[iP (by omega)];rfl]at HT;clear Ha Hd HN dX tH
 go_upto_region 4 with fail
 rw[<-Hy];clear Hy
 go_wp2_with fail
 refine HT.mono ?_;rintro e w3 ⟨rfl,FM,lQ,He,gT⟩;have rE:Q (Lw w w3):=Ht.out.trans (He.below Ht.out.size (fun x hx=>by have:=wF.out x hx;omega));have uS:Q (zh w3 bm (Pg.Fs.new n).take FM):=lQ;have Z3:Q (w3.heap[w.heap.size]?=_):=(He.block _ pJ (fun e=>by have:=wF.out _ e;omega)).trans Z2.out;have dn:w.heap.size<w3.heap.size:=ki pJ He.size
 have mW:Q (∀x,FM x->w.heap.size<x):=fun x hx=>by
  rcases gT x hx with h|h
  ·exact wF.out x h
  ·omega
 clear lQ He gT HT mq Ht Z2 wF y0 y1 yf
 go_wp2_with fail
 refine(yfg _).mono ?_;rintro e w4 ⟨bs,rfl,pz,Hl,oQ⟩;have nI:=pz.lb;have rD:=zA (zR w4) (yI #[N (J ⟨bm,0,I⟩),Y V 0,ud I 0 0,N (J ⟨bs,0,I⟩),ud I 0 0] 113)
 have N5:Q (yfw w (w4.alloc (yI #[N (J ⟨bm,0,I⟩),Y V 0,ud I 0 0,N (J ⟨bs,0,I⟩),ud I 0 0] 113)) w4.heap.size bm bs FM (ud I 0 0) (Pg.Fs.new n).take 0 (fun _=>0) (fun _ _=>False)):=by
  refine⟨zT (zT rE.out Hl) rD,by simp[go_sem],by simp[go_sem],by simp[go_sem],by simp[go_sem],by simp[go_sem],fun p=>by simp[go_sem],zh.keep (G:=fun _=>False) uS.out (But.yhJ (zT Hl rD)) (fun _ _=>id),pz.grow rD,fun x hx=>⟨mW.out x hx,?_,?_⟩,⟨by omega,nI⟩,yM _ _ _ _,fun j hj=>by omega,fun j x hj=>by omega,fun i j x hi=>by omega,(rD.block _ (by have:=Hl.size;omega)).trans ((Hl.block _ dn).trans Z3.out)⟩
  ·have:=zh.lt uS.out hx
   have:=Hl.size;omega
  ·have:=zh.lt uS.out hx
   omega
 clear pz Hl oQ nI rD uS rE Z3 mW
 go_upto_region 7 with fail
 generalize w4.alloc (yI #[N (J ⟨bm,0,I⟩),Y V 0,ud I 0 0,N (J ⟨bs,0,I⟩),ud I 0 0] 113)=W5 at*;generalize w4.heap.size=b at*
 go_wp2
 go_loopw [36] (fun i wr=>∃k:Nat,k<=co/\i=Y V k/\Q (∃vC cb cF,yfw w wr b bm bs FM vC (Pg.Fs.new n).take k cb cF)) (fun i _=>co-(intOf i).toNat)
 case atStart=>exact⟨0,by omega,rfl,⟨_,_,_,N5.out⟩⟩
 case round=>
  obtain⟨k,hk,rfl,HR⟩:=hrel;obtain⟨vC,cb,cF,HN⟩:=HR.out;have HN:Q _:=HN;clear HR N5
  have j0:(0:Int)<=(k:Int):=by omega
  by_cases Hf:k<co
  ·have j1:(k:Int)<(co:Int):=by omega
   have k1:=HN.out.c1;have k2:=HN.out.c2;have kf:=HN.out.fb;have rY:=HN.out.lb
   have dm:∀cn,∀u,u ∈ [yD (J ⟨cn,0,I⟩)]->u.oneCell'=ua:=by
    intro cn u hu;simp at hu;subst hu;rfl
   have tu:∀(W:y) (cn:Nat) (j:Nat) (u:yZ),[yD (J ⟨cn,0,I⟩)][j]?=J u->(W.alloc (yI #[N (J ⟨cn,0,I⟩)] 114)).cell? ((⟨W.heap.size,0,I⟩:Addr).add j)=J u:=fun W cn j u hu=>yU (yB W _) j u hu
   have nvb:vC.ownBlock≠J b:=fun e=>by have:=(HN.out.own.lt b e).1;omega
   have dX:k+1<=maxLen:=by unfold maxLen;omega
   have sD:(k+1)*8<=140737488355328:=by omega
   go_wp2
   go_region_law (first
    | (go_simp;go_at_call 48;refine(yeA 0 _).mono ?_;rintro e w2 ⟨cn,Fc,rfl,tY,Hd,sW⟩;have Ht:Q (Lw wr w2):=zT ((zR wr).drew) Hd;have lX:Q _:=tY;have TY:Q _:=sW;have q2:=(Ht.out.cell (p:=⟨b,2,I⟩) rY).trans k2;have qf:w2.frozen? ⟨b,2,I⟩=z:=(Ht.out.frozen (p:=⟨b,2,I⟩) rY).trans (kf 2);have ql:b<w2.heap.size:=ki rY Ht.out.size;have qo:Q (w2.ownsRow (b+1) 114 1 vC k (ybH cb k)):=zb HN.out.own (fun x hx=>Ht.out.block x (HN.out.own.lt x hx).2);clear tY Hd sW)
    | (refine step_append_lies _ rfl (.tmp 42) (.tmp 48) 111 rfl (b+1) 114 p0 (N I) 1 8 Tryz.underlying111 MQ Dq MR MS rfl (by decide) vC _ _ (by simp[Act.eval]) (qo.out.alloc _) ⟨w2.heap.size,0,I⟩ 1 1 [N (J ⟨cn,0,I⟩)] (by simp[Act.eval]) rfl (tu w2 cn) (dm cn) (by decide) dX sD (by simp;omega) (w2.heap.size+1) (by simp) ?_;intro g cap w6 tF rP sj fD;have O6:Q (w6.ownsRow (b+1) 114 1 (ud (J ⟨g,0,I⟩) (k+1) cap) (k+1) (ybH cb k++[N (J ⟨cn,0,I⟩)])):=tF;have G6:Q ((w2.alloc (yI #[N (J ⟨cn,0,I⟩)] 114)).grownBy w6 vC.ownBlock):=rP;have sS:w6.heap[b]?=w2.heap[b]?:=(G6.out.block b (by simp;omega) (fun e=>nvb e.symm)).trans (Below.heap_alloc _ _ _ ql);have e6:w6.cell? ⟨b,2,I⟩=J vC:=(yC sS).trans q2;have f6:w6.frozen? ⟨b,2,I⟩=z:=(yJ sS).trans qf;have A6:Q (vC.ownBlock=J g\/g=w2.heap.size+1):=sj;have L6:Q (g<w6.heap.size):=fD;clear tF rP sj fD sS))
   all_goals
    have N6:Q _:=HN.out.push lX.out Ht.out TY.out (ygG qo.out G6.out A6.out ql L6.out) (A6.out.imp id (fun h=>by omega)) O6.out;clear HN lX Ht TY qo G6 A6 L6 O6 q2 qf ql k1 k2 kf
    go_wp2
    go_roundw
    case rel=>exact⟨k+1,by omega,by go_num,⟨_,_,_,N6.out⟩⟩
    case measure=>simp[intOf];omega
  ·have j1:¬(k:Int)<(co:Int):=by omega
   have ek:k=co:=by omega
   subst ek;have FIN:Q _:=HN.out.done h1 h4;have Wn:Q _:=HN.out.bel;obtain⟨⟨z0,z1⟩,zf⟩:=yd6 HN.out.rz;have UB:w.heap.size<wr.heap.size:=kh _ _ z0;clear HN
   go_wp2
   refine kO (v:=yV #[N (J ⟨b,0,I⟩),yO #[Y V 0,Y V 0]]) ?_ rfl ?_
   ·simp[results,Tryz.results9,go_sem,z0,z1,UB]
   ·obtain⟨F,hR,hF⟩:=FIN.out
    have mi:But (fun x=>x=w.heap.size) wr ((wr.setCell ⟨w.heap.size,0,I⟩ (Y V 0)).setCell ⟨w.heap.size,1,I⟩ (Y V 0)):=((But.refl (fun x=>x=w.heap.size) wr).setCell (a:=⟨w.heap.size,0,I⟩) (.inr rfl) _).setCell (a:=⟨w.heap.size,1,I⟩) (.inr rfl) _;exact⟨b,rfl,F,hR.keep mi (fun x hx e=>by have:=hF x hx;omega),(Wn.out.setCell (p:=⟨w.heap.size,0,I⟩) (yY _) _).setCell (p:=⟨w.heap.size,1,I⟩) (yY _) _,fun x hx=>by have:=hF x hx;omega⟩
end
section
open Go.Sort
structure yer (P:y->Nat->Pg.Spc->(Nat->Prop)->Prop):Prop where
 lt:∀{w b X F k},P w b X F->F k->k<w.heap.size
 keep:∀{w w':y} {b X F} {G:Nat->Prop},P w b X F->But G w w'->(∀k,F k->¬G k)->P w' b X F
 bad:∀(co n:Int) (w:y),co<1\/4<co\/n<1\/128<n->
  uv U 9 #[Y V co,Y V n] w fun e w'=>e=O (yV #[N I,yO #[Y V 1,Y V (-1)]])/\Lw w w'
 new:∀(co n:Nat) (w:y),1<=co->co<=4->1<=n->n<=128->
  uv U 9 #[Y V (co:Int),Y V (n:Int)] w fun e w'=>∃b F,e=O (yV #[N (J ⟨b,0,I⟩),yO #[Y V 0,Y V 0]])/\P w' b (Pg.Spc.new co n) F/\Lw w w'/\∀k,F k->w.heap.size<=k
 step:∀(x:Pg.Sx) (w:y) {b X F L L0},qu x->Pg.Inv X L L0->P w b X F->
  uv U 12 #[N (J ⟨b,0,I⟩),x.val] w fun e w'=>e=O (X.goE x).val/\∃F',P w' b (X.goN x) F'/\But F w w'/\∀k,F' k->F k\/w.heap.size<=k
 list:∀(w:y) {b X F L L0},Pg.Inv X L L0->P w b X F->
  uv U 17 #[N (J ⟨b,0,I⟩)] w fun e w'=>∃ad cap,e=O (ud ad X.maps.length cap)/\zm w' ad X.maps/\Lw w w'/\∀g,ad=J ⟨g,0,I⟩->w.heap.size<=g
 tables:∀(w:y) {b X F L L0},Pg.Inv X L L0->P w b X F->
  uv U 19 #[N (J ⟨b,0,I⟩)] w fun e w'=>∃ad cap,e=O (ud ad X.tabs.length cap)/\zq w' ad X.tabs/\X.tabs.length<=cap/\Lw w w'
 free:∀(w:y) {b X F},P w b X F->uv U 21 #[N (J ⟨b,0,I⟩)] w fun e w'=>e=O (Y V X.S.free)/\Lw w w'
 busy:∀(w:y) {b X F},P w b X F->uv U 20 #[N (J ⟨b,0,I⟩)] w fun e w'=>e=O (yF X.busy)/\Lw w w'
 gone:∀(w:y) {b X F},P w b X F->uv U 23 #[N (J ⟨b,0,I⟩)] w fun e w'=>e=O (Y V X.G.length)/\Lw w w'
section
variable {P:y->Nat->Pg.Spc->(Nat->Prop)->Prop}
theorem yer.grow (H:yer P) {w w':y} {b X F} (h:P w b X F) (hb:Lw w w'):P w' b X F:=H.keep (G:=fun _=>False) h (But.yhJ hb) (fun _ _=>id)
end
theorem jq:yer vv where
 lt:=fun h hk=>h.lt hk
 keep:=fun h hb hF=>h.keep hb hF
 bad:=fun co n w hb=>yeK co n w hb
 new:=fun co n w h1 h2 h3 h4=>yeJ co n w h1 h2 h3 h4
 step:=fun x w _ _ _ _ _ _ _ h=>yfE x w h
 list:=fun w _ _ _ _ _ _ h=>by
  obtain⟨D,h,rfl⟩:=h;exact jS w h
 tables:=fun w _ _ _ _ _ _ h=>by
  obtain⟨D,h,rfl⟩:=h;exact j8 w h
 free:=fun w _ _ _ h=>by
  obtain⟨D,h,rfl⟩:=h;exact ydK w h
 busy:=fun w _ _ _ h=>by
  obtain⟨D,h,rfl⟩:=h;refine(qg w h).mono ?_;rintro e w' ⟨rfl,rfl⟩;exact⟨rfl,zR _⟩
 gone:=fun w _ _ _ h=>by
  obtain⟨D,h,rfl⟩:=h;refine(ydM w h).mono ?_;rintro e w' ⟨rfl,rfl⟩;exact⟨rfl,zR _⟩
end
namespace Pg
def ans3 (L:List Mp) (q k:Int) (u:Bool):Int×Int×Int:=(ansE L q k u,ansF L q k u,ansR L q k u)
def Wk.ans (L:List Mp) (K:Wk):Int×Int×Int:=ans3 L K.q K.k K.u
structure WOk (X:Spc) (L L0 fl nw:List Mp) (d:Nat->Option Nat) (A:Nat->List (Int×Int×Int)):Prop where
 inv:Inv X L L0
 now:nw=L
 busy:X.busy=ua->fl=L0
 calm:X.busy=z->fl=L
 due:∀j:Nat,j<4->(X.walkOf j).on=ua->d j≠I/\(X.walkOf j).ans L ∈ A j
 le:X.C.length<=4
section
variable {X:Spc} {L L0 fl nw:List Mp} {d:Nat->Option Nat} {A:Nat->List (Int×Int×Int)}
theorem walk_ok (h:Inv X L L0) (k:Int):(X.walkOf k).Ok:=by
 unfold Spc.walkOf;split
 ·by_cases hk:k.toNat<X.C.length
  ·exact(h.cores _ hk).ok.walk
  ·rw[show X.C.getD k.toNat Cr.new=Cr.new from by simp[List.getD,List.getElem?_eq_none (Nat.le_of_not_lt hk)]]
   exact Wk.yjs
 ·exact Wk.yjs
theorem walk_fits (h:Inv X L L0) (k:Int):fits (X.walkOf k).q:=by
 have hw:=walk_ok h k;cases ho:(X.walkOf k).on
 ·rw[hw.idle ho]
  show fits 0
  unfold fits;omega
 ·have:=zB.1 (hw.page ho)
  unfold fits;omega
def Wk.Was (K K':Wk):Prop:=K'.on=ua->K.on=ua/\K'.q=K.q/\K'.k=K.k/\K'.u=K.u
theorem Wk.Was.refl (K:Wk):K.Was K:=fun h=>⟨h,rfl,rfl,rfl⟩
theorem Wk.yj4 (K:Wk) (root:Int):K.Was (K.again root):=by
 unfold Wk.again;split
 ·rename_i ho
  exact fun _=>⟨ho,rfl,rfl,rfl⟩
 ·exact .refl K
theorem Wk.was_next (S:Fs) (root:Int) (K:Wk):K.Was ((kOut S root K).next K):=by
 unfold kOut;split
 ·exact .refl K
 ·rename_i ho
  have ho:K.on=ua:=by simpa using ho
  split
  ·exact .refl K
  ·split
   ·split
    ·intro e
     cases e
    ·exact K.yj4 root
   ·split
    ·exact .refl K
    ·split
     ·intro e
      cases e
     ·split
      ·exact fun _=>⟨ho,rfl,rfl,rfl⟩
      ·split
       ·intro e
        cases e
       ·split
        ·exact fun _=>⟨ho,rfl,rfl,rfl⟩
        ·intro e
         cases e
theorem ended_off {S:Fs} {K:Wk} {root:Int} (h:((kOut S root K).res K).ended=ua):(kOut S root K).next K=Wk.off:=by
 rcases hk:kOut S root K with c|K'|r|⟨e,m⟩
 ·rw[hk]at h;cases h
 ·rw[hk]at h;cases h
 ·rfl
 ·rfl
theorem yiD {k:Nat} {C':Cr} {S':Fs} {G':List Int} {T':Mp} {W':List Bool} (hk:k<X.C.length) (j:Nat):(⟨S',X.C.set k C',G',T',W'⟩:Spc).walkOf (j:Int)=if j=k then C'.K else X.walkOf (j:Int):=by
 unfold Spc.walkOf;have hj:(0:Int)<=(j:Int):=yR j;simp only[iP hj,kp];rw[yic hk]
 split<;>rfl
theorem ykb (h:Inv X L L0) (x:Sx) (j:Nat):
 (X.walkOf j).Was ((X.goN x).walkOf j)\/(x.kind=4/\x.core=j/\(X.goE x).c=0/\(X.goE x).ended=z/\(X.goN x).walkOf j=Wk.start 0 x.q x.k x.u):=by
 by_cases hk:1<=x.kind/\x.kind<=3
 ·refine .inl ?_
  have:(X.goN x).C=X.C:=by
   unfold Spc.goN;rw[iP hk];unfold Spc.chN Spc.post;split
   ·rfl
   ·split
    ·rfl
    ·split
     ·split<;>rfl
     ·split<;>rfl
  unfold Spc.walkOf;rw[this];exact .refl _
 ·by_cases tK:x.kind<1\/7<x.kind
  ·refine .inl ?_
   unfold Spc.goN;rw[iN hk,iP tK];exact .refl _
  ·by_cases hr:x.core<0\/(X.C.length:Int)<=x.core
   ·refine .inl ?_
    unfold Spc.goN;rw[iN hk,iN tK,iP hr];exact .refl _
   ·have Hf:=yjh hr
    have ew:∀i:Nat,i=x.core.toNat->X.walkOf i=(X.at' x.core).K:=fun i e=>by
     unfold Spc.walkOf Spc.at';rw[iP (yR i),kp,e]
    unfold Spc.goN Spc.goE;rw[iN hk,iN tK,iN hr,iN hk,iN tK,iN hr]
    by_cases h4:x.kind=4
    ·rw[iP h4,iP h4,yiD Hf]
     by_cases e:j=x.core.toNat
     ·rw[iP e,ew j e]
      unfold Cr.bgN
      by_cases hc:zK x.q x.k=0/\(X.at' x.core).K.on=z/\(X.at' x.core).hit x.q x.k x.u=z
      ·rw[iP hc]
       obtain⟨c1,c2,c3⟩:=hc;refine .inr ⟨h4,by omega,?_,?_,rfl⟩
       ·unfold Cr.bgT
        rw[iN (by simp[c1]),iN (by simp[c2]),iN (by simp[c3])];rfl
       ·unfold Cr.bgT
        rw[iN (by simp[c1]),iN (by simp[c2]),iN (by simp[c3])];rfl
      ·rw[iN hc]
       exact .inl (.refl _)
     ·rw[iN e]
      exact .inl (.refl _)
    ·rw[iN h4,iN h4]
     refine .inl ?_
     by_cases h5:x.kind=5
     ·rw[iP h5,yiD Hf]
      by_cases e:j=x.core.toNat
      ·rw[iP e,ew j e]
       exact Wk.was_next _ _ _
      ·rw[iN e]
       exact .refl _
     ·rw[iN h5]
      by_cases h6:x.kind=6
      ·rw[iP h6]
       unfold Spc.akN;split
       ·exact .refl _
       ·split
        ·rw[yiD Hf]
         by_cases e:j=x.core.toNat
         ·rw[iP e,ew j e]
          exact Wk.yj4 _ _
         ·rw[iN e]
          exact .refl _
        ·rw[yiD Hf]
         by_cases e:j=x.core.toNat
         ·rw[iP e,ew j e]
          exact Wk.yj4 _ _
         ·rw[iN e]
          exact .refl _
      ·rw[iN h6,yiD Hf]
       by_cases e:j=x.core.toNat
       ·rw[iP e,ew j e]
        exact .refl _
       ·rw[iN e]
        exact .refl _
theorem ylb (h:Inv X L L0) (x:Sx) (he:(X.goE x).ended=ua):((X.goN x).walkOf x.core).on=z:=by
 obtain⟨_,_,c1,c2,hx⟩:=yh9 h x he
 have hr:¬(x.core<0\/(X.C.length:Int)<=x.core):=by omega
 have Hf:=yjh hr
 have ec:((x.core.toNat:Nat):Int)=x.core:=by omega
 rcases hx with ⟨k4,_,ho,_⟩|⟨k5,_,_⟩
 ·rcases ykb h x x.core.toNat with hw|⟨_,_,_,e,_⟩
  ·rw[ec]at hw
   cases hn:((X.goN x).walkOf x.core).on
   ·rfl
   ·have:=(hw hn).1
    unfold Spc.walkOf at this;rw[iP c1]at this;unfold Spc.at' at ho;rw[ho]at this;cases this
  ·rw[he]at e
   cases e
 ·have he2:((kOut X.S 0 (X.at' x.core).K).res (X.at' x.core).K).ended=ua:=by
   have:=he;unfold Spc.goE at this;rw[iN (by omega),iN (by omega),iN hr,iN (by omega),iP k5]at this;exact this
  have en:(X.goN x).walkOf x.core=(kOut X.S 0 (X.at' x.core).K).next (X.at' x.core).K:=by
   unfold Spc.goN;rw[iN (by omega),iN (by omega),iN hr,iN (by omega),iP k5];have:=yiD (X:=X) (C':=(X.at' x.core).stN X.S 0) (S':=(X.at' x.core).stS X.S 0) (G':=X.G) (T':=X.T) (W':=X.W) Hf x.core.toNat;rw[ec,iP rfl]at this;exact this
  rw[en,ended_off he2];rfl
theorem yj0 {e:Ev} {q k:Int} {u:Bool} (h:Right L q k u e):(e.a,e.f,e.r)=ans3 L q k u:=by
 obtain⟨a1,a2,a3⟩:=h;unfold ans3;rw[a1,a2,a3]
theorem WOk.walked (h:WOk X L L0 fl nw d A) (x:Sx) (he:(X.goE x).ended=ua) (hk:x.kind=5):0<=x.core/\x.core<4/\d x.core.toNat≠I/\((X.goE x).a,(X.goE x).f,(X.goE x).r) ∈ A x.core.toNat:=by
 obtain⟨_,_,c1,c2,hx⟩:=yh9 h.inv x he;have fK:=h.le;rcases hx with ⟨k4,_⟩|⟨_,ho,hr⟩
 ·omega
 ·have ew:X.walkOf x.core.toNat=(X.at' x.core).K:=by
   unfold Spc.walkOf Spc.at';rw[iP (yR _),kp]
  obtain⟨d1,d2⟩:=h.due x.core.toNat (by omega) (by rw[ew];exact ho);refine⟨c1,by omega,d1,?_⟩;rw[yj0 hr];rw[ew]at d2;exact d2
theorem WOk.hit (h:WOk X L L0 fl nw d A) (x:Sx) (he:(X.goE x).ended=ua) (hk:x.kind=4):0<=x.core/\x.core<4/\((X.goE x).a,(X.goE x).f,(X.goE x).r) ∈ [ans3 nw x.q x.k x.u,ans3 fl x.q x.k x.u]:=by
 obtain⟨_,_,c1,c2,hx⟩:=yh9 h.inv x he;have fK:=h.le;rcases hx with ⟨_,_,_,hr⟩|⟨k5,_⟩
 ·refine⟨c1,by omega,?_⟩
  rcases hr with hr|⟨hb,hr⟩
  ·rw[yj0 hr,h.now]
   exact yT
  ·rw[yj0 hr,h.busy hb]
   simp
 ·omega
def ykY (d:Nat->Option Nat) (X:Spc) (nw:List Mp) (A:Nat->List (Int×Int×Int)):Nat->List (Int×Int×Int):=fun j=>if d j=I then A j else(X.walkOf j).ans nw::A j
theorem Wk.Was.ans {K K':Wk} (h:K.Was K') (ho:K'.on=ua) (M:List Mp):K'.ans M=K.ans M:=by
 obtain⟨_,a,b,c⟩:=h ho;unfold Wk.ans;rw[a,b,c]
theorem WOk.change (h:WOk X L L0 fl nw d A) (x:Sx) (hk:1<=x.kind/\x.kind<=3) (hc:(X.goE x).c=0):
 WOk (X.goN x) (X.nxL L x) (X.nxP L L0 x) (if (X.goE x).back=ua then X.nxL L x else fl) (X.nxL L x) d (ykY d (X.goN x) (X.nxL L x) A):=by
 have hs:=yiz h.inv x;refine⟨yiT h.inv x,rfl,fun e=> ?_,fun e=> ?_,fun j hj ho=> ?_,by rw[hs.2];exact h.le⟩
 ·rcases ykm h.inv x with ⟨⟨k1,k2,k3⟩,b1,b2,b3⟩|⟨⟨k1,k3⟩,b1,b2,b3⟩|⟨hn,_⟩
  ·rw[b3,iN (by decide),h.calm b1]
   unfold Spc.nxP;rw[iP ⟨k1,k2,k3⟩]
  ·rw[e]at b2
   cases b2
  ·exact absurd ⟨hk.1,hk.2,hc⟩ hn
 ·rcases ykm h.inv x with ⟨⟨k1,k2,k3⟩,b1,b2,b3⟩|⟨⟨k1,k3⟩,b1,b2,b3⟩|⟨hn,_⟩
  ·rw[e]at b2
   cases b2
  ·rw[b3,iP rfl]
  ·exact absurd ⟨hk.1,hk.2,hc⟩ hn
 ·rcases ykb h.inv x j with hw|⟨k4,_⟩
  ·obtain⟨d1,_⟩:=h.due j hj (hw ho).1
   refine⟨d1,?_⟩;unfold ykY;rw[iN d1];exact yT
  ·omega
theorem yks (x:Sx) (hn:¬(1<=x.kind/\x.kind<=3/\(X.goE x).c=0)):X.nxL L x=L/\X.nxP L L0 x=L0:=by
 constructor
 ·unfold Spc.nxL
  rw[iN hn]
 ·unfold Spc.nxP
  rw[iN (fun e=>hn ⟨by omega,e.2⟩)]
theorem WOk.other (h:WOk X L L0 fl nw d A) (x:Sx) (hn:¬(1<=x.kind/\x.kind<=3/\(X.goE x).c=0)) {d':Nat->Option Nat} {A':Nat->List (Int×Int×Int)}
 (hd:∀j:Nat,j<4->((X.goN x).walkOf j).on=ua->d' j≠I/\((X.goN x).walkOf j).ans L ∈ A' j):
 WOk (X.goN x) (X.nxL L x) (X.nxP L L0 x) (if (X.goE x).back=ua then nw else fl) nw d' A':=by
 have hi:=yiT h.inv x;have hs:=yiz h.inv x;obtain⟨e1,e2⟩:=yks (X:=X) (L:=L) (L0:=L0) x hn;rw[e1,e2]at hi ⊢;refine⟨hi,h.now,fun e=> ?_,fun e=> ?_,hd,by rw[hs.2];exact h.le⟩
 ·rcases ykm h.inv x with ⟨⟨k1,k2,k3⟩,_⟩|⟨⟨k1,k3⟩,_⟩|⟨_,⟨b1,b2⟩|⟨b1,b2,b3,_⟩⟩
  ·exact absurd ⟨by omega,k2,k3⟩ hn
  ·exact absurd ⟨by omega,by omega,k3⟩ hn
  ·rw[b1,iN (by decide)]
   exact h.busy (by rw[<-b2];exact e)
  ·rw[e]at b3
   cases b3
 ·rcases ykm h.inv x with ⟨⟨k1,k2,k3⟩,_⟩|⟨⟨k1,k3⟩,_⟩|⟨_,⟨b1,b2⟩|⟨b1,b2,b3,_⟩⟩
  ·exact absurd ⟨by omega,k2,k3⟩ hn
  ·exact absurd ⟨by omega,by omega,k3⟩ hn
  ·rw[b1,iN (by decide)]
   exact h.calm (by rw[<-b2];exact e)
  ·rw[b1,iP rfl]
   exact h.now
theorem WOk.same (h:WOk X L L0 fl nw d A) (x:Sx) (hn:¬(1<=x.kind/\x.kind<=3/\(X.goE x).c=0)) (h4:¬(x.kind=4/\(X.goE x).c=0)):
 WOk (X.goN x) (X.nxL L x) (X.nxP L L0 x) (if (X.goE x).back=ua then nw else fl) nw d A:=
 h.other x hn fun j hj ho=>by
  rcases ykb h.inv x j with hw|⟨k4,_,k0,_⟩
  ·obtain⟨d1,d2⟩:=h.due j hj (hw ho).1
   exact⟨d1,by rw[hw.ans ho];exact d2⟩
  ·exact absurd ⟨k4,k0⟩ h4
theorem WOk.ends (h:WOk X L L0 fl nw d A) (x:Sx) (hk:x.kind=5) (he:(X.goE x).ended=ua):
 WOk (X.goN x) (X.nxL L x) (X.nxP L L0 x) (if (X.goE x).back=ua then nw else fl) nw (fun j=>if j=x.core.toNat then I else d j) A:=
 h.other x (by omega) fun j hj ho=>by
  have fE:=ylb h.inv x he;obtain⟨_,_,c1,_⟩:=yh9 h.inv x he
  by_cases e:j=x.core.toNat
  ·exfalso
   rw[show((j:Nat):Int)=x.core by omega,fE]at ho;cases ho
  ·rw[iN e]
   rcases ykb h.inv x j with hw|⟨k4,_⟩
   ·obtain⟨d1,d2⟩:=h.due j hj (hw ho).1
    exact⟨d1,by rw[hw.ans ho];exact d2⟩
   ·omega
theorem WOk.begins (h:WOk X L L0 fl nw d A) (x:Sx) (hk:x.kind=4) (hc:(X.goE x).c=0) (he:(X.goE x).ended=z) (m:Nat):
 WOk (X.goN x) (X.nxL L x) (X.nxP L L0 x) (if (X.goE x).back=ua then nw else fl) nw (fun j=>if j=x.core.toNat then J m else d j) (fun j=>if j=x.core.toNat then [ans3 nw x.q x.k x.u,ans3 fl x.q x.k x.u]else A j):=
 h.other x (by omega) fun j hj ho=>by
  rcases ykb h.inv x j with hw|⟨k4,uk,k0,_,hw⟩
  ·by_cases e:j=x.core.toNat
   ·exfalso
    have:=(hw ho).1
    have hr:¬(x.core<0\/(X.C.length:Int)<=x.core):=by
     intro hr;unfold Spc.goE at hc;rw[iN (by omega),iN (by omega),iP hr]at hc;cases hc
    unfold Spc.goE at hc;rw[iN (by omega),iN (by omega),iN hr,iP hk]at hc;have hb:=yk4 (X.at' x.core) x.q x.k x.u
    have ew:X.walkOf j=(X.at' x.core).K:=by
     unfold Spc.walkOf Spc.at';rw[iP (yR j),kp,e]
    rw[ew]at this;have hc:((X.at' x.core).bgT x.q x.k x.u).c=0:=hc;rw[hc,this]at hb;split at hb
    ·omega
    ·simp at hb
   ·rw[iN e,iN e]
    obtain⟨d1,d2⟩:=h.due j hj (hw ho).1;exact⟨d1,by rw[hw.ans ho];exact d2⟩
  ·have e:j=x.core.toNat:=by omega
   rw[iP e,iP e];refine⟨by simp,?_⟩;rw[hw,h.now];exact yT
theorem WOk.hits (h:WOk X L L0 fl nw d A) (x:Sx) (hk:x.kind=4) (he:(X.goE x).ended=ua) {A':Nat->List (Int×Int×Int)} (hA:∀j,j≠x.core.toNat->A' j=A j):
 WOk (X.goN x) (X.nxL L x) (X.nxP L L0 x) (if (X.goE x).back=ua then nw else fl) nw (fun j=>if j=x.core.toNat then I else d j) A':=
 h.other x (by omega) fun j hj ho=>by
  have fE:=ylb h.inv x he;obtain⟨_,_,c1,_⟩:=yh9 h.inv x he
  by_cases e:j=x.core.toNat
  ·exfalso
   rw[show((j:Nat):Int)=x.core by omega,fE]at ho;cases ho
  ·rw[iN e,hA j e]
   rcases ykb h.inv x j with hw|⟨_,_,_,k0,_⟩
   ·obtain⟨d1,d2⟩:=h.due j hj (hw ho).1
    exact⟨d1,by rw[hw.ans ho];exact d2⟩
   ·rw[he]at k0
    cases k0
end
end Pg
section
open Go.Sort
structure Wtd where
 sp:Nat
 fb:Nat
 nb:Nat
 d:Nat->Option Nat
 Fs:Nat->Prop
 Ff:Nat->Prop
 Fn:Nat->Prop
 own:Nat->Nat
def Wtd.F (D:Wtd) (b:Nat):Nat->Prop:=fun k=>k=b\/D.Fs k\/D.Ff k\/D.Fn k\/∃j,j<4/\D.d j=J k
abbrev Ans:Type:=Nat->List (Int×Int×Int)
structure Wtp (w:y) (b:Nat) (D:Wtd) (X:Pg.Spc) (fl nw:List Pg.Mp) (A:Ans):Prop where
 space:vv w D.sp X D.Fs
 floor:qJ w D.fb fl D.Ff
 now:qJ w D.nb nw D.Fn
 due:∀j,j<4->∀m,D.d j=J m->vr w m (A j)
 own0:D.own b=0
 own1:∀k,D.Fs k->D.own k=1
 own2:∀k,D.Ff k\/D.Fn k->D.own k=2
 own3:∀j,j<4->∀m,D.d j=J m->D.own m=3+j
structure Wtk (w:y) (b:Nat) (D:Wtd) (X:Pg.Spc) (fl nw:List Pg.Mp) (ti st:Int) (A:Ans):Prop where
 c0:w.cell? ⟨b,0,I⟩=J (N (J ⟨D.sp,0,I⟩))
 c1:w.cell? ⟨b,1,I⟩=J (N (J ⟨D.fb,0,I⟩))
 c2:w.cell? ⟨b,2,I⟩=J (N (J ⟨D.nb,0,I⟩))
 c3:w.cell? ⟨b,3,I⟩=J (Y V ti)
 c4:w.cell? ⟨b,4,I⟩=J (Y V st)
 dd:∀j,j<4->w.cell? ⟨b,5+j,I⟩=J (.map (D.d j))
 c9:w.cell? ⟨b,9,I⟩=J (Y V 0)
 c10:w.cell? ⟨b,10,I⟩=J (Y V 0)
 fz:∀p,w.frozen? ⟨b,p,I⟩=z
 parts:Wtp w b D X fl nw A
section
variable {w w':y} {b:Nat} {D:Wtd} {X X':Pg.Spc} {fl nw:List Pg.Mp} {ti st:Int} {A:Ans}
namespace Wtp
theorem others {G:Nat->Prop} (h:Wtp w b D X fl nw A) (hb:But G w w'):
 ((∀k,D.own k=1->¬G k)->vv w' D.sp X D.Fs)/\((∀k,D.own k=2->¬G k)->qJ w' D.fb fl D.Ff/\qJ w' D.nb nw D.Fn)/\
 (∀j,j<4->(∀k,D.own k=3+j->¬G k)->∀m,D.d j=J m->vr w' m (A j)):=
 ⟨fun hG=>h.space.keep hb fun k hk=>hG k (h.own1 k hk),fun hG=>⟨h.floor.keep hb fun k hk=>hG k (h.own2 k (.inl hk)),h.now.keep hb fun k hk=>hG k (h.own2 k (.inr hk))⟩,
  fun j hj hG m hm=>(h.due j hj m hm).of_block (hb.block m (h.due j hj m hm).lt (hG m (h.own3 j hj m hm)))⟩
theorem keep {G:Nat->Prop} (h:Wtp w b D X fl nw A) (hb:But G w w') (hG:∀k,D.own k≠0->D.F b k->¬G k):Wtp w' b D X fl nw A:=
 ⟨h.space.keep hb fun k hk=>hG k (by rw[h.own1 k hk];decide) (.inr (.inl hk)),h.floor.keep hb fun k hk=>hG k (by rw[h.own2 k (.inl hk)];decide) (.inr (.inr (.inl hk))),
  h.now.keep hb fun k hk=>hG k (by rw[h.own2 k (.inr hk)];decide) (.inr (.inr (.inr (.inl hk)))),
  fun j hj m hm=>(h.due j hj m hm).of_block (hb.block m (h.due j hj m hm).lt (hG m (by rw[h.own3 j hj m hm];omega) (.inr (.inr (.inr (.inr ⟨j,hj,hm⟩)))))),h.own0,h.own1,h.own2,h.own3⟩
theorem mine (h:Wtp w b D X fl nw A) (hb:But (fun k=>k=b) w w'):Wtp w' b D X fl nw A:=h.keep hb fun k hk _ e=>hk (by rw[e];exact h.own0)
theorem lt (h:Wtp w b D X fl nw A) (rY:b<w.heap.size) {k:Nat} (hk:D.F b k):k<w.heap.size:=by
 rcases hk with rfl|hk|hk|hk|⟨j,hj,hk⟩
 ·exact rY
 ·exact h.space.lt hk
 ·exact h.floor.lt hk
 ·exact h.now.lt hk
 ·exact(h.due j hj k hk).lt
theorem ylQ {bM:Nat->Prop} (h:Wtp w b D X fl nw A) (rY:b<w.heap.size) (hs:vv w' D.sp X' bM) (hb:But D.Fs w w') (hF:∀k,bM k->D.Fs k\/w.heap.size<=k):
 Wtp w' b {D with Fs:=bM,own:=fun k=>if k<w.heap.size then D.own k else 1} X' fl nw A:=by
 obtain⟨_,o2,o3⟩:=h.others hb
 obtain⟨o2,Oa⟩:=o2 fun k hk hf=>by rw[h.own1 k hf]at hk;cases hk
 refine⟨hs,o2,Oa,fun j hj m hm=>o3 j hj (fun k hk hf=>by rw[h.own1 k hf]at hk;omega) m hm,?_,fun k hk=> ?_,fun k hk=> ?_,fun j hj m hm=> ?_⟩
 ·show(if b<w.heap.size then D.own b else 1)=0
  rw[iP rY];exact h.own0
 ·show(if k<w.heap.size then D.own k else 1)=1
  split
  ·next hl=>exact(hF k hk).elim (h.own1 k) (fun e=>absurd hl (by omega))
  ·rfl
 ·show(if k<w.heap.size then D.own k else 1)=2
  rw[iP (hk.elim h.floor.lt h.now.lt)];exact h.own2 k hk
 ·show(if m<w.heap.size then D.own m else 1)=3+j
  rw[iP (h.due j hj m hm).lt];exact h.own3 j hj m hm
theorem booked {n:Nat} {nb':Nat} {dJ:List Pg.Mp} {TM:Nat->Prop} (h:Wtp w b D X fl nw A) (hn:∀k,D.F b k->k<n) (hs:qJ w nb' dJ TM) (hF:∀k,TM k->n<=k):
 Wtp w b {D with nb:=nb',Fn:=TM,own:=fun k=>if k<n then D.own k else 2} X fl dJ A:=by
 refine⟨h.space,h.floor,hs,h.due,?_,fun k hk=> ?_,fun k hk=> ?_,fun j hj m hm=> ?_⟩
 ·show(if b<n then D.own b else 2)=0
  rw[iP (hn b (.inl rfl))];exact h.own0
 ·show(if k<n then D.own k else 2)=1
  rw[iP (hn k (.inr (.inl hk)))];exact h.own1 k hk
 ·show(if k<n then D.own k else 2)=2
  rcases hk with hk|hk
  ·rw[iP (hn k (.inr (.inr (.inl hk))))]
   exact h.own2 k (.inl hk)
  ·rw[iN (by have:=hF k hk;omega)]
 ·show(if m<n then D.own m else 2)=3+j
  rw[iP (hn m (.inr (.inr (.inr (.inr ⟨j,hj,hm⟩)))))];exact h.own3 j hj m hm
theorem over (h:Wtp w b D X fl nw A):Wtp w b {D with fb:=D.nb,Ff:=D.Fn} X nw nw A:=
 ⟨h.space,h.now,h.now,h.due,h.own0,h.own1,fun k hk=>h.own2 k (.inr (hk.elim id id)),h.own3⟩
theorem ended (h:Wtp w b D X fl nw A) (i:Nat):Wtp w b {D with d:=fun j=>if j=i then I else D.d j} X fl nw A:=by
 have key:∀j m,(if j=i then I else D.d j)=J m->D.d j=J m:=fun j m e=>by
  split at e
  ·cases e
  ·exact e
 exact⟨h.space,h.floor,h.now,fun j hj m hm=>h.due j hj m (key j m hm),h.own0,h.own1,h.own2,fun j hj m hm=>h.own3 j hj m (key j m hm)⟩
theorem begun {n m:Nat} {l:List (Int×Int×Int)} (h:Wtp w b D X fl nw A) (hn:∀k,D.F b k->k<n) (i:Nat) (hm:n<=m) (ha:vr w m l):
 Wtp w b {D with d:=fun j=>if j=i then J m else D.d j,own:=fun k=>if k<n then D.own k else 3+i} X fl nw (fun j=>if j=i then l else A j):=by
 refine⟨h.space,h.floor,h.now,fun j hj x hx=> ?_,?_,fun k hk=> ?_,fun k hk=> ?_,fun j hj x hx=> ?_⟩
 ·simp only at hx ⊢
  by_cases e:j=i
  ·rw[iP e]at hx ⊢
   obtain rfl:m=x:=by injection hx
   exact ha
  ·rw[iN e]at hx ⊢
   exact h.due j hj x hx
 ·show(if b<n then D.own b else 3+i)=0
  rw[iP (hn b (.inl rfl))];exact h.own0
 ·show(if k<n then D.own k else 3+i)=1
  rw[iP (hn k (.inr (.inl hk)))];exact h.own1 k hk
 ·show(if k<n then D.own k else 3+i)=2
  rw[iP (hn k (.inr (.inr (hk.elim .inl (fun e=> .inr (.inl e))))))];exact h.own2 k hk
 ·simp only at hx ⊢
  by_cases e:j=i
  ·rw[iP e]at hx
   obtain rfl:m=x:=by injection hx
   rw[iN (by omega),e]
  ·rw[iN e]at hx
   rw[iP (hn x (.inr (.inr (.inr (.inr ⟨j,hj,hx⟩)))))];exact h.own3 j hj x hx
theorem more {i m:Nat} {l:List (Int×Int×Int)} (h:Wtp w b D X fl nw A) (hi:i<4) (hd:D.d i=J m) (ha:vr w' m l) (hb:But (fun k=>k=m) w w'):
 Wtp w' b D X fl nw (fun j=>if j=i then l else A j):=by
 have hm:=h.own3 i hi m hd;obtain⟨o1,o2,o3⟩:=h.others hb
 obtain⟨o2,Oa⟩:=o2 fun k hk e=>by rw[e,hm]at hk;omega
 refine⟨o1 fun k hk e=>(by rw[e,hm]at hk;omega),o2,Oa,fun j hj x hx=> ?_,h.own0,h.own1,h.own2,h.own3⟩
 show vr w' x (if j=i then l else A j)
 by_cases e:j=i
 ·subst e
  rw[hd]at hx
  obtain rfl:m=x:=by injection hx
  rw[iP rfl];exact ha
 ·rw[iN e]
  exact o3 j hj (fun k hk ek=>e (by rw[ek,hm]at hk;omega)) x hx
end Wtp
namespace Wtk
theorem lb (h:Wtk w b D X fl nw ti st A):b<w.heap.size:=kh _ _ h.c0
theorem keep {G:Nat->Prop} (h:Wtk w b D X fl nw ti st A) (hb:But G w w') (hG:∀k,D.F b k->¬G k):Wtk w' b D X fl nw ti st A:=by
 have kb:=hb.block b h.lb (hG b (.inl rfl));have e:∀p,w'.cell? ⟨b,p,I⟩=w.cell? ⟨b,p,I⟩:=fun p=>yC (a:=⟨b,p,I⟩) kb;exact⟨(e _).trans h.c0,(e _).trans h.c1,(e _).trans h.c2,(e _).trans h.c3,(e _).trans h.c4,fun j hj=>(e _).trans (h.dd j hj),(e _).trans h.c9,(e _).trans h.c10,fun p=>(yJ (a:=⟨b,p,I⟩) kb).trans (h.fz p),h.parts.keep hb fun k _ hk=>hG k hk⟩
theorem grow (h:Wtk w b D X fl nw ti st A) (hb:Lw w w'):Wtk w' b D X fl nw ti st A:=h.keep (G:=fun _=>False) (But.yhJ hb) (fun _ _=>id)
theorem parted {G:Nat->Prop} {D':Wtd} {FZ dJ:List Pg.Mp} {A':Ans} (h:Wtk w b D X fl nw ti st A) (hb:But G w w') (hG:¬G b) (hp:Wtp w' b D' X' FZ dJ A') (e0:D'.sp=D.sp) (e1:D'.fb=D.fb) (e2:D'.nb=D.nb) (e3:D'.d=D.d):Wtk w' b D' X' FZ dJ ti st A':=by
 have kb:=hb.block b h.lb hG;have e:∀p,w'.cell? ⟨b,p,I⟩=w.cell? ⟨b,p,I⟩:=fun p=>yC (a:=⟨b,p,I⟩) kb;exact⟨by rw[e0];exact(e _).trans h.c0,by rw[e1];exact(e _).trans h.c1,by rw[e2];exact(e _).trans h.c2,(e _).trans h.c3,(e _).trans h.c4,fun j hj=>by rw[e3];exact(e _).trans (h.dd j hj),(e _).trans h.c9,(e _).trans h.c10,fun p=>(yJ (a:=⟨b,p,I⟩) kb).trans (h.fz p),hp⟩
theorem F_ne (h:Wtk w b D X fl nw ti st A) {k:Nat} (hk:D.Fs k):k≠b:=fun e=>by
 have:=h.parts.own1 k hk;rw[e,h.parts.own0]at this;cases this
theorem ylQ {bM:Nat->Prop} (h:Wtk w b D X fl nw ti st A) (hs:vv w' D.sp X' bM) (hb:But D.Fs w w') (hF:∀k,bM k->D.Fs k\/w.heap.size<=k):
 Wtk w' b {D with Fs:=bM,own:=fun k=>if k<w.heap.size then D.own k else 1} X' fl nw ti st A:=
 h.parted hb (fun e=>h.F_ne e rfl) (h.parts.ylQ h.lb hs hb hF) rfl rfl rfl rfl
theorem lt (h:Wtk w b D X fl nw ti st A) {k:Nat} (hk:D.F b k):k<w.heap.size:=h.parts.lt h.lb hk
end Wtk
end
attribute [local go_sem] Loose.gent
section
variable {w w':y} {b:Nat} {D:Wtd} {X X':Pg.Spc} {fl nw:List Pg.Mp} {ti st:Int} {A:Ans}
theorem xE (w:y) (b o:Nat) (v:yZ):But (fun k=>k=b) w (w.setCell ⟨b,o,I⟩ v):=(But.refl (fun k=>k=b) w).setCell (a:=⟨b,o,I⟩) (.inr rfl) v
namespace Wtk
theorem setc (h:Wtk w b D X fl nw ti st A) {o:Nat} {u v:yZ} (hc:w.cell? ⟨b,o,I⟩=J u) (p:Nat):(w.setCell ⟨b,o,I⟩ v).cell? ⟨b,p,I⟩=if p=o then J v else w.cell? ⟨b,p,I⟩:=by
 split
 ·next e=>rw[e];exact World.cell?_setCell_same _ _ _ hc
 ·next e=>exact ue _ _ _ _ (fun h=>e (congrArg Addr.off h).symm)
theorem timed (h:Wtk w b D X fl nw ti st A) (t:Int):Wtk (w.setCell ⟨b,3,I⟩ (Y V t)) b D X fl nw t st A:=by
 have e:=fun p=>h.setc (v:=Y V t) h.c3 p;exact⟨(e _).trans h.c0,(e _).trans h.c1,(e _).trans h.c2,e 3,(e _).trans h.c4,fun j hj=>(e _).trans (by rw[iN (by omega)];exact h.dd j hj),(e _).trans h.c9,(e _).trans h.c10,fun p=>(uc _ _ _ _).trans (h.fz p),h.parts.mine (xE _ _ _ _)⟩
theorem stepped (h:Wtk w b D X fl nw ti st A) (t:Int):Wtk (w.setCell ⟨b,4,I⟩ (Y V t)) b D X fl nw ti t A:=by
 have e:=fun p=>h.setc (v:=Y V t) h.c4 p;exact⟨(e _).trans h.c0,(e _).trans h.c1,(e _).trans h.c2,(e _).trans h.c3,e 4,fun j hj=>(e _).trans (by rw[iN (by omega)];exact h.dd j hj),(e _).trans h.c9,(e _).trans h.c10,fun p=>(uc _ _ _ _).trans (h.fz p),h.parts.mine (xE _ _ _ _)⟩
theorem over (h:Wtk w b D X fl nw ti st A):Wtk (w.setCell ⟨b,1,I⟩ (N (J ⟨D.nb,0,I⟩))) b {D with fb:=D.nb,Ff:=D.Fn} X nw nw ti st A:=by
 have e:=fun p=>h.setc (v:=N (J ⟨D.nb,0,I⟩)) h.c1 p;exact⟨(e _).trans h.c0,e 1,(e _).trans h.c2,(e _).trans h.c3,(e _).trans h.c4,fun j hj=>(e _).trans (by rw[iN (by omega)];exact h.dd j hj),(e _).trans h.c9,(e _).trans h.c10,fun p=>(uc _ _ _ _).trans (h.fz p),(h.parts.mine (xE _ _ _ _)).over⟩
theorem ended (h:Wtk w b D X fl nw ti st A) {i:Nat} (hi:i<4):Wtk (w.setCell ⟨b,5+i,I⟩ (.map I)) b {D with d:=fun j=>if j=i then I else D.d j} X fl nw ti st A:=by
 have e:=fun p=>h.setc (v:= .map I) (h.dd i hi) p;refine⟨(e _).trans ?_,(e _).trans ?_,(e _).trans ?_,(e _).trans ?_,(e _).trans ?_,fun j hj=>(e _).trans ?_,(e _).trans ?_,(e _).trans ?_,fun p=>(uc _ _ _ _).trans (h.fz p),(h.parts.mine (xE _ _ _ _)).ended i⟩
 ·rw[iN (by omega)];exact h.c0
 ·rw[iN (by omega)];exact h.c1
 ·rw[iN (by omega)];exact h.c2
 ·rw[iN (by omega)];exact h.c3
 ·rw[iN (by omega)];exact h.c4
 ·by_cases e0:j=i
  ·rw[iP (by omega)]
   simp only[iP e0]
  ·rw[iN (by omega)]
   simp only[iN e0];exact h.dd j hj
 ·rw[iN (by omega)];exact h.c9
 ·rw[iN (by omega)];exact h.c10
theorem begun (h:Wtk w b D X fl nw ti st A) {i n m:Nat} (hi:i<4) (hn:∀k,D.F b k->k<n) (hm:n<=m) {l:List (Int×Int×Int)} (ha:vr w m l):
 Wtk (w.setCell ⟨b,5+i,I⟩ (.map (J m))) b {D with d:=fun j=>if j=i then J m else D.d j,own:=fun k=>if k<n then D.own k else 3+i} X fl nw ti st (fun j=>if j=i then l else A j):=by
 have e:=fun p=>h.setc (v:= .map (J m)) (h.dd i hi) p
 have IX:m≠b:=fun e=>by have:=hn b (.inl rfl);omega
 refine⟨(e _).trans ?_,(e _).trans ?_,(e _).trans ?_,(e _).trans ?_,(e _).trans ?_,fun j hj=>(e _).trans ?_,(e _).trans ?_,(e _).trans ?_,fun p=>(uc _ _ _ _).trans (h.fz p),(h.parts.mine (xE _ _ _ _)).begun hn i hm (ha.of_block ((xE w b _ _).block m ha.lt IX))⟩
 ·rw[iN (by omega)];exact h.c0
 ·rw[iN (by omega)];exact h.c1
 ·rw[iN (by omega)];exact h.c2
 ·rw[iN (by omega)];exact h.c3
 ·rw[iN (by omega)];exact h.c4
 ·by_cases e0:j=i
  ·rw[iP (by omega)]
   simp only[iP e0]
  ·rw[iN (by omega)]
   simp only[iN e0];exact h.dd j hj
 ·rw[iN (by omega)];exact h.c9
 ·rw[iN (by omega)];exact h.c10
theorem more (h:Wtk w b D X fl nw ti st A) {i m:Nat} {l:List (Int×Int×Int)} (hi:i<4) (hd:D.d i=J m) (ha:vr w' m l) (hb:But (fun k=>k=m) w w'):
 Wtk w' b D X fl nw ti st (fun j=>if j=i then l else A j):=
 h.parted hb (fun e=>by
  have e:b=m:=e;have:=h.parts.own3 i hi m hd;rw[<-e,h.parts.own0]at this
  omega) (h.parts.more hi hd ha hb) rfl rfl rfl rfl
theorem congr {A':Ans} (h:Wtk w b D X fl nw ti st A) (hA:∀j,j<4->A' j=A j):Wtk w b D X fl nw ti st A':=
 ⟨h.c0,h.c1,h.c2,h.c3,h.c4,h.dd,h.c9,h.c10,h.fz,⟨h.parts.space,h.parts.floor,h.parts.now,fun j hj m hm=>by rw[hA j hj];exact h.parts.due j hj m hm,h.parts.own0,h.parts.own1,h.parts.own2,h.parts.own3⟩⟩
end Wtk
structure zd (w:y) (b:Nat) (D:Wtd) (w':y) (D':Wtd):Prop where
 but:But (D.F b) w w'
 own:∀k,D'.F b k->D.F b k\/w.heap.size<=k
theorem zd.trans {w1 w2:y} {D1 D2:Wtd} (h:zd w b D w1 D1) (h':zd w1 b D1 w2 D2):zd w b D w2 D2:=
 ⟨h.but.trans h'.but fun i hi hk=>(h.own i hk).resolve_right (by omega),fun k hk=>(h'.own k hk).elim (h.own k) fun e=> .inr (Nat.le_trans h.but.size e)⟩
theorem zd.below (hb:Lw w w'):zd w b D w' D:=⟨But.yhJ hb,fun _=> .inl⟩
theorem zd.set (o:Nat) (v:yZ) {D':Wtd} (hF:∀k,D'.F b k->D.F b k):zd w b D (w.setCell ⟨b,o,I⟩ v) D':=⟨(xE w b o v).mono fun _ _ e=> .inl e,fun k hk=> .inl (hF k hk)⟩
end
theorem ycu {b:Nat} {D:Wtd} {X:Pg.Spc} {fl nw:List Pg.Mp} {ti st:Int} {A:Ans} (j:Nat) (hj:j<4) (a f r:Int) (hd:D.d j≠I) (ha:(a,f,r) ∈ A j) (w:y) (h:Wtk w b D X fl nw ti st A):
 uv U 127 #[N (J ⟨b,0,I⟩),Y V j,yO #[Y V a,Y V f,Y V r]] w fun e w'=>e=O (yF ua)/\
  Wtk w' b {D with d:=fun i=>if i=j then I else D.d i} X fl nw ti st A/\zd w b D w' {D with d:=fun i=>if i=j then I else D.d i}:=by
 obtain⟨m,hm⟩:=Option.ne_none_iff_exists'.1 hd;obtain⟨W,hW⟩:=eY (w.alloc (yI #[Y V a,Y V f,Y V r] 34))
 have hB:Lw w W:=by rw[hW];exact zA (zR _) _
 have hg:=h.grow hB
 have x0:W.cell? ⟨w.heap.size,0,I⟩=J (Y V a):=by rw[hW];simp[go_sem]
 have x1:W.cell? ⟨w.heap.size,1,I⟩=J (Y V f):=by rw[hW];simp[go_sem]
 have x2:W.cell? ⟨w.heap.size,2,I⟩=J (Y V r):=by rw[hW];simp[go_sem]
 have hc:=hg.dd j hj;have hf:=hg.fz;have rY:=h.lb;rw[hm]at hc;have hl:∀W',Lw W W'->_:=fun W' hb=>((hg.grow hb).parts.due j hj m hm).look ha;unfold anV at hl;have l1:=hl W (zR _);have l2:=hl W.drew (zR _).drew;have l3:=fun o=>hl (W.alloc o).drew (zA (zR _) o).drew;have l4:=fun o=>hl (W.drew.alloc o) (zA (zR W).drew o);have l5:=fun o=>hl (W.alloc o) (zA (zR _) o);clear hl
 have FIN:Q (∀Wf,Below (W.setCell ⟨b,5+j,I⟩ (.map I)).heap.size (W.setCell ⟨b,5+j,I⟩ (.map I)) Wf->Wtk Wf b {D with d:=fun i=>if i=j then I else D.d i} X fl nw ti st A/\zd w b D Wf {D with d:=fun i=>if i=j then I else D.d i}):=fun Wf hb=>
  ⟨(hg.ended hj).grow hb,((zd.below hB).trans (.set _ _ fun k hk=>by
   rcases hk with hk|hk|hk|hk|⟨i,hi,hk⟩
   ·exact .inl hk
   ·exact .inr (.inl hk)
   ·exact .inr (.inr (.inl hk))
   ·exact .inr (.inr (.inr (.inl hk)))
   ·simp only at hk
    split at hk
    ·cases hk
    ·exact .inr (.inr (.inr (.inr ⟨i,hi,hk⟩))))).trans (.below hb)⟩
 clear h hg hd ha
 have rU:W.heap.size=w.heap.size+1:=by rw[hW];simp
 obtain rfl|rfl|rfl|rfl:j=0\/j=1\/j=2\/j=3:=by omega
 all_goals
  go_enter Tryz.func127,Tryz.ntmps127
  go_upto_region 1 with fail
  rw[<-hW];clear hW
  go_region
  all_goals
   go_wp2
   go_ret
   exact⟨rfl,FIN.out _ (by repeat (first|exact zR _|refine Below.drew ?_|refine zA ?_ _))⟩
theorem yag {b:Nat} {D:Wtd} {X:Pg.Spc} {fl nw:List Pg.Mp} {ti st:Int} {A:Ans} (j:Nat) (hj:j<4) (q k:Int) (u:Bool) (hq:Pg.fits q) (w:y) (h:Wtk w b D X fl nw ti st A):
 uv U 126 #[N (J ⟨b,0,I⟩),Y V j,yO #[Y V q,Y V k,yF u]] w fun e w'=>e=O (yV #[])/\∃D' m,
  Wtk w' b D' X fl nw ti st (fun i=>if i=j then [Pg.ans3 nw q k u,Pg.ans3 fl q k u]else A i)/\D'.d=(fun i=>if i=j then J m else D.d i)/\zd w b D w' D':=by
 have rY:=h.lb;obtain⟨W1,rC⟩:∃W,W=w.alloc (yI #[Y V q,Y V k,yF u] 41):=⟨_,rfl⟩;obtain⟨W2,Hy⟩:∃W,W=W1.alloc (.map #[] 0):=⟨_,rfl⟩;obtain⟨W,hW⟩:=eY (W2.setCell ⟨b,5+j,I⟩ (.map (J W1.heap.size)))
 have rG:W1.heap.size=w.heap.size+1:=by rw[rC];simp
 have hB:Lw w W2:=by rw[Hy,rC];exact zA (zA (zR _) _) _
 have B:But (fun k=>k=b) w W:=by rw[hW];exact(But.yhJ (F:=fun k=>k=b) hB).trans (xE _ _ _ _) fun _ _ e=>e
 have h2:=h.grow hB;have c2:=h2.dd j hj;have z2:=h2.fz
 obtain⟨D',Mj,T⟩:∃D',D'={D with d:=fun i=>if i=j then J W1.heap.size else D.d i,own:=fun k=>if k<w.heap.size then D.own k else 3+j}/\Q (Wtk W b D' X fl nw ti st (fun i=>if i=j then []else A i)):=
  ⟨_,rfl,by rw[Q,hW];exact h2.begun hj (fun k hk=>h.lt hk) (by omega) (by rw[Hy];exact yeu W1)⟩
 have hd:D'.d j=J W1.heap.size:=by rw[Mj];simp
 have x0:W.cell? ⟨w.heap.size,0,I⟩=J (Y V q):=by
  rw[hW,ue _ _ _ _ (fun h=>by have:=congrArg Addr.block h;simp at this;omega),Hy,rC];simp[go_sem]
 have x1:W.cell? ⟨w.heap.size,1,I⟩=J (Y V k):=by
  rw[hW,ue _ _ _ _ (fun h=>by have:=congrArg Addr.block h;simp at this;omega),Hy,rC];simp[go_sem]
 have x2:W.cell? ⟨w.heap.size,2,I⟩=J (yF u):=by
  rw[hW,ue _ _ _ _ (fun h=>by have:=congrArg Addr.block h;simp at this;omega),Hy,rC];simp[go_sem]
 have DN:Q (zd w b D W D'):=⟨B.mono fun i _ e=> .inl e,fun x hx=>by
  rw[Mj]at hx;rcases hx with hx|hx|hx|hx|⟨i,hi,hx⟩
  ·exact .inl (.inl hx)
  ·exact .inl (.inr (.inl hx))
  ·exact .inl (.inr (.inr (.inl hx)))
  ·exact .inl (.inr (.inr (.inr (.inl hx))))
  ·simp only at hx
   split at hx
   ·injection hx with hx
    exact .inr (by omega)
   ·exact .inl (.inr (.inr (.inr (.inr ⟨i,hi,hx⟩))))⟩
 have hdd:D'.d=fun i=>if i=j then J W1.heap.size else D.d i:=by rw[Mj]
 have HF:=fun d os=>qQ q k u hq _ (T.out.grow (below_regrown W d os)).parts.floor;have HN:=fun w3 (h3:Wtk w3 b D' X fl nw ti st (fun i=>if i=j then [(Pg.ansE fl q k u,Pg.ansF fl q k u,Pg.ansR fl q k u)]else A i)) d os=>qQ q k u hq _ (h3.grow (below_regrown w3 d os)).parts.now
 have STEP:Q (∀w3 w4 l l',Wtk w3 b D' X fl nw ti st (fun i=>if i=j then l else A i)->vr w4 W1.heap.size l'->But (fun k=>k=W1.heap.size) w3 w4->Wtk w4 b D' X fl nw ti st (fun i=>if i=j then l' else A i)):=fun w3 w4 l l' h3 a4 Hl=>
  (h3.more hj hd a4 Hl).congr fun i _=>by
    by_cases e:i=j
    ·rw[iP e,iP e]
    ·rw[iN e,iN e,iN e]
 have Cx:Q (∀w3 l,Wtk w3 b D' X fl nw ti st (fun i=>if i=j then l else A i)->vr w3 W1.heap.size l):=fun w3 l h3=>by
  have:=h3.parts.due j hj _ hd;rw[iP rfl]at this;exact this
 have CD:Q (∀w3 l,Wtk w3 b D' X fl nw ti st (fun i=>if i=j then l else A i)->w3.cell? ⟨b,5+j,I⟩=J (.map (J W1.heap.size))):=fun w3 l h3=>by
  rw[<-hd];exact h3.dd j hj
 have Mc:Q (∀k,k=W1.heap.size->D'.F b k):=fun k e=> .inr (.inr (.inr (.inr ⟨j,hj,by rw[e];exact hd⟩)));have cd:=T.out.dd j hj;rw[hd]at cd;have g0:=Z x0;have g1:=Z x1;have g2:=Z x2;have g3:=Z cd;have g4:=Z T.out.c1
 have hM:w.heap.size<W1.heap.size:=by omega
 have hbM:b≠W1.heap.size:=by omega
 clear Mj h h2 B hB rG
 have oW:∀w:y,(Instr.makeMap 88 I).run U w= .ok (.map (J w.heap.size)) (w.alloc (.map #[] 0)):=fun w=>by kernel_rfl
 subst Hy;have rU:w.heap.size<W.heap.size:=kh _ _ x0;have Mt:b<W.heap.size:=kh _ _ cd
 obtain rfl|rfl|rfl|rfl:j=0\/j=1\/j=2\/j=3:=by omega
 all_goals
  simp only[yL,yA]at hW g3 cd c2
  go_enter Tryz.func126,Tryz.ntmps126
  go_upto_region 1 with fail
  rw[<-rC];clear rC
  go_upto_region 2 with fail
  rw[<-hW];clear hW z2 oW c2;refine Loose.yhL 12 (by kernel_rfl) (by kernel_rfl) ?_;simp only[un,yP,ur,yS]
  repeat (
   refine Loose.zS (fun k hk=> ?_)
   go_simp
   first
    | (refine hk _ ?_;clear hk k)
    | (apply Exists.intro
       refine⟨fun _=> ?_,hk _ ?_⟩
       (go_at_call 164;exact Loose.calls (HF _ _))
       clear hk k))
  refine Loose.yhM ?_;intro w3 He;have T3:Q _:=T.out.grow He;have x0:=yE He x0;have x1:=yE He x1;have x2:=yE He x2;have D3:Q (zd w b D w3 D'):=DN.out.trans (.below He);have kV:w.heap.size<w3.heap.size:=ki rU He.size;have HA:=vE (Pg.ansE fl q k u) (Pg.ansF fl q k u) (Pg.ansR fl q k u) w3 (Cx.out _ _ T3.out);clear He g0 g1 g2 g3 g4 HF cd T DN
  go_wp2_with fail
  refine HA.mono ?_;rintro e w4 ⟨rfl,a4,Hl⟩;have T4:Q _:=STEP.out _ _ _ _ T3.out a4 Hl;have D4:Q (zd w b D w4 D'):=D3.out.trans ⟨Hl.mono fun i _ e=>Mc.out i e,fun _=> .inl⟩;have hw4:w.heap.size<w4.heap.size:=ki kV Hl.size;have x0:=(Hl.cell (a:=⟨w.heap.size,0,I⟩) kV (yK hM)).trans x0;have x1:=(Hl.cell (a:=⟨w.heap.size,1,I⟩) kV (yK hM)).trans x1;have x2:=(Hl.cell (a:=⟨w.heap.size,2,I⟩) kV (yK hM)).trans x2;have HF:=HN w4 T4.out;have cd:=CD.out _ _ T4.out;simp only[yL,yA]at cd;have g0:=Z x0;have g1:=Z x1;have g2:=Z x2;have g3:=Z cd;have g4:=Z T4.out.c2;clear Hl a4 T3 D3 HA HN kV rU Mt
  go_upto_region 3 with fail
  refine Loose.yhL 12 (by kernel_rfl) (by kernel_rfl) ?_;simp only[un,yP,ur,yS]
  repeat (
   refine Loose.zS (fun k hk=> ?_)
   go_simp
   first
    | (refine hk _ ?_;clear hk k)
    | (apply Exists.intro
       refine⟨fun _=> ?_,hk _ ?_⟩
       (go_at_call 164;exact Loose.calls (HF _ _))
       clear hk k))
  refine Loose.yhM ?_;intro w5 rD;have T5:Q _:=T4.out.grow rD;have D5:Q (zd w b D w5 D'):=D4.out.trans (.below rD);have HA:=vE (Pg.ansE nw q k u) (Pg.ansF nw q k u) (Pg.ansR nw q k u) w5 (Cx.out _ _ T5.out);clear rD g0 g1 g2 g3 g4 HF cd T4 D4 x0 x1 x2 hw4
  go_wp2_with fail
  refine HA.mono ?_;rintro e w6 ⟨rfl,a6,ru⟩;have T6:Q _:=STEP.out _ _ _ _ T5.out a6 ru;have D6:Q (zd w b D w6 D'):=D5.out.trans ⟨ru.mono fun i _ e=>Mc.out i e,fun _=> .inl⟩;clear a6 ru HA T5 D5
  go_wp2
  go_end0
  exact⟨rfl,D',_,T6.out,hdd,D6.out⟩
end
section
open Go.Sort
theorem ygK {ad:Option Addr} {cap:Nat} {L:List Int} (n:Int) (w:y) (h:zq w ad L) (hl:L.length<=20000):
 uv U 82 #[ud ad L.length cap,Y V n] w fun e w'=>e=O (yF (decide (n ∈ L)))/\w'=w:=by
 have HA:Q (zq w ad L):=h;clear h
 go_enter Tryz.func82,Tryz.ntmps82
 go_wp2
 go_loopw [5] (fun i wr=>∃j:Nat,j<=L.length/\i=Y V j/\Q (wr=w/\∀k,k<j->L.getD k 0≠n)) (fun i _=>L.length-(intOf i).toNat)
 case atStart=>exact⟨0,by omega,rfl,rfl,fun k hk=>by omega⟩
 case round=>
  obtain⟨j,hj,rfl,HR⟩:=hrel
  have i0:(0:Int)<=(j:Int):=by omega
  have hw:=HR.out.1;subst hw
  by_cases Hf:j<L.length
  ·obtain⟨g,rfl,hg,hm⟩:=HA.out j Hf
   have i1:(j:Int)<(L.length:Int):=by omega
   have HJ:Q (L.getD j 0≠n->∀k,k<j+1->L.getD k 0≠n):=fun Ho k hk=>by
    by_cases e:k=j
    ·rw[e];exact Ho
    ·exact HR.out.2 k (by omega)
   have WF:Q (L.getD j 0 ∈ L):=by simp[Q,List.getD,Hf]
   generalize L.getD j 0=x at*
   by_cases hx:x=n
   ·have UV:(x==n)=ua:=by simpa using hx
    have HD:Q (ua=decide (n ∈ L)):=by rw[Q,eq_comm,decide_eq_true_eq,<-hx];exact WF.out
    go_wp2
    go_ret
    exact⟨zV HD.out,rfl⟩
   ·have UV:(x==n)=z:=by simpa using hx
    have WG:Q _:=HJ.out hx;clear hx
    go_wp2_with fail
    exact⟨⟨j+1,by omega,by go_num,by first|trivial|rfl,WG.out⟩,by simp[intOf];omega⟩
  ·have i1:¬(j:Int)<(L.length:Int):=by omega
   have HD:Q (z=decide (n ∈ L)):=by
    rw[Q,eq_comm,decide_eq_false_iff_not];intro hm;obtain⟨k,hk,e⟩:=List.mem_iff_getElem.1 hm;exact HR.out.2 k (by omega) (by simpa[List.getD,hk]using e)
   go_wp2
   go_ret
   exact⟨zV HD.out,rfl⟩
set_option linter.unusedSimpArgs false
theorem yaf {n:Int} (h0: -9223372036854775808<=n) (h1:n<=9223372036854775807):wrap64 n=n:=by
 unfold wrap64;omega
theorem yfO {pn N8 k:Nat} (h1:pn<4096) (h2:k<=3):wrap64 (wrap64 (wrap64 ((pn:Int)/(N8:Int))*4)+(k:Int))=((pn/N8*4+k:Nat):Int):=by
 have q1:(pn:Int)/(N8:Int)=((pn/N8:Nat):Int):=by simp
 have q2:pn/N8<=pn:=Nat.div_le_self _ _;rw[q1];generalize pn/N8=d at*;rw[yaf (n:=(d:Int)) (by omega) (by omega),yaf (n:=(d:Int)*4) (by omega) (by omega),yaf (n:=(d:Int)*4+(k:Int)) (by omega) (by omega)];omega
def jX (m:Pg.Mp):Nat->List Int
 | 0=>[]
 | l+1=>if m.s<((l+1:Nat):Int)then((m.p.toNat/8^(l+1)*4+(l+1):Nat):Int)::jX m l else []
theorem ydZ (pn sn l:Nat) (f r:Int) (h:sn<l+1):jX ⟨(pn:Int),(sn:Int),f,r⟩ (l+1)=((pn/8^(l+1)*4+(l+1):Nat):Int)::jX ⟨(pn:Int),(sn:Int),f,r⟩ l:=by
 rw[jX,iP (by show(sn:Int)<((l+1:Nat):Int);omega)];simp only[kp]
theorem yf1 (k:Int) (r A:List Int):Pg.see (k::r) A=Pg.see r (if k ∈ A then A else A++[k]):=rfl
theorem yfP {m:Pg.Mp} (h0:0<=m.s) (h1:m.s<=2):jX m 3=Pg.yjk m:=by
 have:m.s=0\/m.s=1\/m.s=2:=by omega
 rcases this with e|e|e<;>simp[jX,Pg.yjk,e]
theorem yaa {s:Int} (h:Pg.span s≠0):0<=s/\s<=2:=by
 unfold Pg.span at h
 by_cases h0:s=0
 ·omega
 ·by_cases h1:s=1
  ·omega
  ·by_cases h2:s=2
   ·omega
   ·simp[h0,h1,h2]at h
structure ygk (w wr:y) (vs:yZ) (A:List Int):Prop where
 bel:Lw w wr
 own:wr.ownsRow w.heap.size 3 1 vs A.length (xn A)
theorem yd1 {ad:Option Addr} {cap:Nat} {L:List Pg.Mp} (hg:∀m,m ∈ L->m.code=0) (w:y) (h:zm w ad L) (hl:L.length<=5000):
 uv U 42 #[ud ad L.length cap] w fun e w'=>e=O (Y V (Pg.needed L))/\Lw w w':=by
 have HA:Q (zm w ad L):=h;have HG:Q _:=hg;clear h hg;obtain⟨R,hR⟩:=eY (Pg.seen L);have mD:Q (Pg.see (L.flatMap Pg.yjk) []=R):=hR.symm
 have HN:Q (Pg.needed L=(R.length:Int)+1):=by rw[Q,hR];rfl
 clear hR
 go_enter Tryz.func42,Tryz.ntmps42
 go_wp2
 go_loopw [3,4] (fun vs iv wr=>∃(i:Nat) (A:List Int),i<=L.length/\iv=Y V (i:Int)/\A.length<=3*i/\Q (ygk w wr vs A/\Pg.see ((L.drop i).flatMap Pg.yjk) A=R)) (fun _ iv _=>L.length-(intOf iv).toNat)
 case atStart=>exact⟨0,[],by omega,rfl,by simp,⟨zR _,yM _ _ _ _⟩,mD.out⟩
 case round=>
  obtain⟨i,A,hi,rfl,hAl,HR⟩:=hrel
  have i0:(0:Int)<=(i:Int):=by omega
  obtain⟨va,vc,hvs⟩:=zF HR.out.1.own;subst hvs
  by_cases Hf:i<L.length
  ·have i1:(i:Int)<(L.length:Int):=by omega
   obtain⟨g,rfl,hgl,k0,k1,k2,k3⟩:=zm.below HA.out HR.out.1.bel i Hf
   have WH:Q (∀w',Lw w w'->w'.cell? ⟨g,i*4+1,I⟩=J (Y V (L.getD i .zz).s)):=fun w' hb=>by
    obtain⟨g',e',_,hm⟩:=zm.below HA.out hb i Hf;cases e';exact hm.2.1
   have Hz:(L.getD i .zz).code=0:=HG.out _ (by simp[List.getD,Hf])
   have gz:L.drop i=L.getD i .zz::L.drop (i+1):=by
    rw[List.drop_eq_getElem_cons Hf];simp[List.getD,Hf]
   have FJ:Q (Pg.see (jX (L.getD i .zz) 3++(L.drop (i+1)).flatMap Pg.yjk) A=R):=by
    obtain⟨z0,z1,z2,z3,z4,z5,z6,z7,z8⟩:=Pg.yhT Hz;have:=HR.out.2;rw[gz,List.flatMap_cons]at this;rw[Q,yfP (yaa z0).1 (yaa z0).2];exact this
   obtain⟨z0,z1,z2,z3,z4,z5,z6,z7,z8⟩:=Pg.yhT Hz;generalize L.getD i .zz=m at*;obtain⟨mp,ms,mf,mr⟩:=m;simp only at k0 k1 k2 k3 z0 z1 z2 z3 z4 z5 z6 z7 z8;obtain⟨s0,s2⟩:=yaa z0;obtain⟨pn,rfl⟩:=yN z1;obtain⟨sn,rfl⟩:=yN s0
   have hsn:sn<=2:=by omega
   have hpn:pn<4096:=by omega
   clear z0 z1 z2 z3 z4 z5 z6 z7 z8 s0 s2 Hz gz k2 k3
   go_wp2_with fail
   generalize wr.heap.size=bx at*
   go_loopw [3,6] (fun vs lv wi=>∃(l:Nat) (A':List Int),l<=3/\sn<=l/\lv=Y V (l:Int)/\A'.length+l<=3*i+3/\Q (ygk w wi vs A'/\Pg.see (jX ⟨(pn:Int),(sn:Int),mf,mr⟩ l++(L.drop (i+1)).flatMap Pg.yjk) A'=R)) (fun _ lv _=>(intOf lv).toNat)
   case atStart=>exact⟨3,A,by omega,by omega,rfl,by omega,HR.out.1,FJ.out⟩
   case round=>
    obtain⟨l,A',lN,lw,rfl,hAl',wM⟩:=hrel;obtain⟨AU,Og,UQ⟩:=zF wM.out.1.own;subst UQ;have ks:=WH.out _ wM.out.1.bel
    by_cases hsl2:sn<l
    ·have l1:(sn:Int)<(l:Int):=by omega
     have WC:Q (zq wr AU A'):=qk (cap:=Og) (n:=A'.length) wM.out.1.own;have Le:Q _:=wM.out.1.own
     go_wp2
     go_loopw [7,8] (fun nv kv wk=>∃k:Nat,k<=l/\kv=Y V (k:Int)/\nv=Y V ((8^k:Nat):Int)/\Q (wk=wr)) (fun _ kv _=>l-(intOf kv).toNat)
     case atStart=>exact⟨0,by omega,rfl,rfl,rfl⟩
     case round=>
      obtain⟨k,hk,rfl,rfl,HW⟩:=hrel;have ew:=HW.out;subst ew
      by_cases gp:k<l
      ·have k1:(k:Int)<(l:Int):=by omega
       obtain⟨N8,SV,Ia,hNb⟩:∃N8:Nat,N8=8^k/\N8*8=8^(k+1)/\N8<=64:=by
        refine⟨8^k,rfl,(Nat.pow_succ ..).symm,?_⟩
        have bG:k=0\/k=1\/k=2:=by omega
        rcases bG with rfl|rfl|rfl<;>decide
       rw[<-SV];have Lb:Q _:=Ia;clear SV Ia
       go_wp2_with fail
       exact⟨⟨k+1,by omega,by go_num,by rw[<-Lb.out];simp,by first|trivial|rfl⟩,by simp[intOf];omega⟩
      ·have KV:k=l:=by omega
       subst KV
       have k1:¬(k:Int)<(k:Int):=by omega
       have Kq:A'.length<=20000:=by omega
       obtain⟨lm,uw⟩:∃lm,k=lm+1:=⟨k-1,by omega⟩
       have UC:sn<lm+1:=by omega
       have hal3:A'.length+1+lm<=3*i+3:=by omega
       have wO:Q (Pg.see (jX ⟨(pn:Int),(sn:Int),mf,mr⟩ lm++(L.drop (i+1)).flatMap Pg.yjk) (if ((pn/8^k*4+k:Nat):Int) ∈ A' then A' else A'++[((pn/8^k*4+k:Nat):Int)])=R):=by
        have:=wM.out.2;rw[uw,ydZ pn sn lm mf mr UC,List.cons_append,yf1]at this;rw[uw];exact this
       have KT:wrap64 (wrap64 (wrap64 ((pn:Int)/((8^k:Nat):Int))*4)+(k:Int))=((pn/8^k*4+k:Nat):Int):=yfO hpn lN
       have Ke:(1:Int)<=((8^k:Nat):Int):=by
        have:0<8^k:=Nat.pow_pos (by decide);exact Int.ofNat_le.2 this
       generalize ((pn/8^k*4+k:Nat):Int)=key at*;obtain⟨N8,SV⟩:∃N8:Nat,N8=8^k:=⟨_,rfl⟩;rw[<-SV]at KT Ke
       have hN0:¬(N8:Int)=0:=fun e=>by rw[e]at Ke;exact absurd Ke (by decide)
       rw[<-SV];have HI:=ygK (cap:=Og) key wr WC.out Kq;have HB:Q _:=wM.out.1.bel;have RV:Q _:=uw;clear SV wM uw
       have MK:(k:Int)-1=(lm:Int):=by have:=RV.out;omega
       have dL:(1:Int)<=(k:Int):=by have:=RV.out;omega
       have Bc:lm<=3:=by have:=RV.out;omega
       have BH:sn<=lm:=by omega
       by_cases dD:key ∈ A'
       ·have hd:decide (key ∈ A')=ua:=by simpa using dD
        rw[hd]at HI
        have wN:Q (Pg.see (jX ⟨(pn:Int),(sn:Int),mf,mr⟩ lm++(L.drop (i+1)).flatMap Pg.yjk) A'=R):=by have:=wO.out;rw[iP dD]at this;exact this
        clear dD hd wO
        go_wp2_with fail
        refine HI.mono ?_;rintro e w5 ⟨rfl,UR⟩;subst w5;clear HI
        go_wp2_with fail
        exact⟨⟨lm,A',Bc,BH,by first|go_num|simp[MK]|rfl,by omega,⟨HB.out,Le.out⟩,wN.out⟩,by have:=RV.out;simp[intOf];omega⟩
       ·have hd:decide (key ∈ A')=z:=by simpa using dD
        rw[hd]at HI
        have wN:Q (Pg.see (jX ⟨(pn:Int),(sn:Int),mf,mr⟩ lm++(L.drop (i+1)).flatMap Pg.yjk) (A'++[key])=R):=by have:=wO.out;rw[iN dD]at this;exact this
        obtain⟨q0,hq,rW,tJ,rX⟩:=info_parts qE;have Hq:=Le.out;have aX:w.heap.size<=wr.heap.size:=HB.out.size;clear dD hd wO
        go_wp2_with fail
        refine HI.mono ?_;rintro e w5 ⟨rfl,UR⟩;subst w5;clear HI
        go_wp2_with (first
         | (at_builtin;refine wpList_append_lies _ rfl _ _ 45 rfl w.heap.size 3 q0 (Y V 0) 1 8 Tryz.underlying45 hq rW tJ rX rfl (by decide) _ _ _ rfl (yH.alloc Hq _) ⟨wr.heap.size,0,I⟩ 1 1 [Y V key] rfl rfl ?c1 ?c2 (by decide) ?c3 ?c4 ?c5 (wr.heap.size+1) (by simp) ?_))
        case c1=>
         intro j u hj;exact yU (cs:=#[Y V key]) (yB wr _) j u hj
        case c2=>intro u hu;simp at hu;subst hu;rfl
        case c3=>unfold maxLen;omega
        case c4=>omega
        case c5=>simp;omega
        intro g9 dx w9 gF dC uY iU
        have fin:Q (ygk w w9 (ud (J ⟨g9,0,I⟩) (A'.length+1) dx) (A'++[key])):=by
         have gu:But (fun j=>(yG AU A'.length Og).ownBlock=J j) wr w9:=(But.yhJ (zA (zR wr) _)).grown dC fun k hk=> .inr hk;refine⟨HB.out.trans (gu.below aX fun j hj=>(yH.lt Le.out j hj).1),?_⟩
         have e1:xn (A'++[key])=xn A'++[Y V key]:=by simp[xn]
         rw[List.length_append,List.length_singleton,e1];exact gF
        clear gF dC uY iU Hq
        go_wp2_with fail
        exact⟨⟨lm,A'++[key],Bc,BH,by first|go_num|simp[MK]|rfl,by simp;omega,fin.out,wN.out⟩,by have:=RV.out;simp[intOf];omega⟩
    ·have PP:l=sn:=by omega
     subst PP
     have l1:¬(l:Int)<(l:Int):=by omega
     have fin:Q (Pg.see ((L.drop (i+1)).flatMap Pg.yjk) A'=R):=by
      have:=wM.out.2
      have e:jX ⟨(pn:Int),(l:Int),mf,mr⟩ l=[]:=by cases l<;>simp[jX]
      rw[e]at this;exact this
     go_wp2_with fail
     exact⟨⟨i+1,A',by omega,by go_num,by omega,wM.out.1,fin.out⟩,by simp[intOf];omega⟩
  ·have i1:¬(i:Int)<(L.length:Int):=by omega
   have dw:Q (A=R):=by
    have:=HR.out.2;rw[List.drop_eq_nil_of_le (by omega)]at this;exact this
   have kg:A.length<=15000:=by omega
   have WM:Q ((A.length:Int)+1=Pg.needed L):=by rw[Q,HN.out,dw.out]
   have HB:Q _:=HR.out.1.bel;generalize A.length=al at*
   go_wp2
   go_ret
   exact⟨zy WM.out,HB.out⟩
end
end Go.Proofs.YtdphiompijbelaaGreat
