import Derived.Test.YtkhnelgommaioaaGreatDvG
import Derived.Test.YtkhnelgommaioaaGreatCrC
namespace Go.Proofs.YtkhnelgommaioaaGreat
open Go.RowKit Go.Sort
set_option linter.unusedVariables false
set_option linter.unusedSimpArgs false
set_option maxRecDepth 100000
attribute [local go_sem] Loose.gent
theorem DvDone.grow {w w' w'':World} {b:Nat} {D:Dsd} {X X':Pg.Spc} (h:DvDone w b D X X' w') (hb:Below w'.heap.size w' w''):DvDone w b D X X' w'':=by
 obtain⟨D',h1,h2,h3⟩:=h
 exact⟨D',h1.grow hb,h2.trans (But.of_below (F:=fun _=>False) hb) (fun _ _ h=>h.elim),h3⟩
theorem Dsk.done {w w':World} {b k:Nat} {D:Dsd} {X:Pg.Spc} {C':Pg.Cr} {S':Pg.Fs} {Fc FM':Nat->Prop} (h:Dsk w b D X) (hk:k<X.C.length) (hC:CrAt w' (D.cb k) 0 C' Fc) (hm:FrAt w' D.bm S' FM') (hb:But (fun j=>D.cF k j\/D.FM j) w w') (hF:∀x,Fc x->D.cF k x\/w.heap.size<=x) (hF2:∀x,FM' x->D.FM x\/w.heap.size<=x) (hne:∀x,Fc x->¬FM' x):
 DvDone w b D X {X with S:=S',C:=X.C.set k C'} w':=by
 have hl:(X.C.set k C').length=X.C.length:=List.length_set
 refine⟨_,h.walked hk hC hm hb hF hF2 hne,hb.mono (fun x _ e=>e.elim (fun e=>⟨k+5,hk,e⟩) (fun e=>⟨1,e⟩)),fun x hx=> ?_⟩
 simp only[hl]at hx
 exact dsF_walked hk hF hF2 x hx
theorem Dsk.done1 {w w':World} {b k:Nat} {D:Dsd} {X:Pg.Spc} {C':Pg.Cr} {Fc:Nat->Prop} (h:Dsk w b D X) (hk:k<X.C.length) (hC:CrAt w' (D.cb k) 0 C' Fc) (hb:But (D.cF k) w w') (hF:∀x,Fc x->D.cF k x\/w.heap.size<=x):
 DvDone w b D X {X with C:=X.C.set k C'} w':=by
 have hl:(X.C.set k C').length=X.C.length:=List.length_set
 refine⟨_,h.asked hk hC hb hF,hb.mono (fun x _ e=>⟨k+5,hk,e⟩),fun x hx=> ?_⟩
 simp only[hl]at hx
 exact dsF_asked hk hF x hx
theorem Dsk.apart {w:World} {b k:Nat} {D:Dsd} {X:Pg.Spc} (h:Dsk w b D X) (hk:k<X.C.length):∀j,D.cF k j->¬D.FM j:=fun j hj hm=>by
 have:=h.part (k+5) 1 j ⟨hk,hj⟩ hm
 omega
set_option maxHeartbeats 1000000 in
theorem dvCore_range {b:Nat} {D:Dsd} {X:Pg.Spc} (x:Pg.Sx) (hc:x.core<0\/(X.C.length:Int)<=x.core) (w:World) (h:Dsk w b D X):
 Calls Tryz.prog 54 #[.pointer (some ⟨b,0,none⟩),x.val] w fun e w'=>e= .returned (Pg.Ev.code 1).val/\Below w.heap.size w w':=by
 obtain⟨W,hW⟩:∃W,W=chW w x:=⟨_,rfl⟩
 have CW:Hid (ChW w W x):=by rw[hW];exact chW_is w x
 have HH:=dvHas_any x.core W (h.grow CW.out.bel)
 rw[show(decide (0<=x.core)&&decide (x.core<(X.C.length:Int)))=false by simp;omega]at HH
 have hWs:W.heap.size=w.heap.size+2:=CW.out.size
 have x1:=CW.out.x1
 clear h hc
 obtain⟨kd,co,⟨p,s,f,r⟩,q,k,u⟩:=x
 simp only at x1 HH
 simp only[chW,Pg.Sx.val]at hW ⊢
 go_enter Tryz.func54,Tryz.ntmps54
 go_upto_region 1 with fail
 rw[<-hW]
 clear hW
 go_wp2_with fail
 refine HH.mono ?_
 rintro e w1 ⟨rfl,hw⟩
 subst w1
 go_wp2_with fail
 refine(dvRefused_any 1 _).mono ?_
 rintro e w2 ⟨rfl,hb2⟩
 obtain⟨⟨z0,z1,z2,z3,z4,z5⟩,zf⟩:=row6a ((hb2.block _ (by omega)).trans CW.out.ev)
 have hs2:w.heap.size+1<w2.heap.size:=by have:=hb2.size;omega
 have HB2:Hid (Below w.heap.size w w2):=zT CW.out.bel hb2
 clear hb2
 simp only[Pg.Ev.val,Pg.Ev.code]
 go_wp2_with fail
 refine bodyPost_ret (v:=(Pg.Ev.code 1).val) ?_ rfl ⟨rfl,?_⟩
 ·simp[results,Tryz.results54,go_sem,z0,z1,z2,z3,z4,z5,hs2,Pg.Ev.val,Pg.Ev.code]
 ·exact bset6 HB2.out _ (by omega) _ _ _ _ _ _
set_option maxHeartbeats 1000000 in
theorem dvCore_access {b:Nat} {D:Dsd} {X:Pg.Spc} {c:Nat} (x:Pg.Sx) (hx:x.kind=4) (hc:x.core=(c:Int)) (hl:c<X.C.length) (w:World) (h:Dsk w b D X):
 Calls Tryz.prog 54 #[.pointer (some ⟨b,0,none⟩),x.val] w fun e w'=>e= .returned ((X.C.getD c Pg.Cr.new).bgT x.q x.k x.u).ev.val/\DvDone w b D X {X with C:=X.C.set c ((X.C.getD c Pg.Cr.new).bgN 0 x.q x.k x.u)} w':=by
 obtain⟨W,hW⟩:∃W,W=chW w x:=⟨_,rfl⟩
 have CW:Hid (ChW w W x):=by rw[hW];exact chW_is w x
 have PW:Hid _:=h.grow CW.out.bel
 have HH:=dvHas_any x.core W PW.out
 rw[show(decide (0<=x.core)&&decide (x.core<(X.C.length:Int)))=true by rw[hc];simp[hl]]at HH
 have LT:Hid (∀x,dsF D b X.C.length X.G x->x<w.heap.size):=h.owns
 have hWs:W.heap.size=w.heap.size+2:=CW.out.size
 have x1:=CW.out.x1
 have g2:=cell_regrown PW.out.c2
 have gc:=cell_regrown (PW.out.row c hl)
 have y1:=cell_regrown CW.out.x1
 clear h
 obtain⟨kd,co,⟨p,s,f,r⟩,q,k,u⟩:=x
 simp only at hx hc x1 y1 HH
 subst hx hc
 have i0:(0:Int)<=(c:Int):=by omega
 have i1:(c:Int)<(X.C.length:Int):=by omega
 have HBG:=fun w' (h:CrAt w' (D.cb c) 0 (X.C.getD c Pg.Cr.new) (D.cF c))=>crBegin_any q k u w' h
 generalize hT:(X.C.getD c Pg.Cr.new).bgT q k u=T at*
 generalize hC':(X.C.getD c Pg.Cr.new).bgN 0 q k u=C' at*
 clear hT hC'
 obtain⟨ta,tf,tr,te,tc⟩:=T
 simp only[Pg.Tl.val,Pg.Tl.ev]at HBG ⊢
 simp only[chW,Pg.Sx.val]at hW ⊢
 go_enter Tryz.func54,Tryz.ntmps54
 go_upto_region 1 with fail
 rw[<-hW]
 clear hW
 go_wp2_with fail
 refine HH.mono ?_
 rintro e w1 ⟨rfl,hw⟩
 subst w1
 go_upto_region 3 with fail
 clear HH x1
 refine Loose.wp_region_late 8 (by kernel_rfl) (by kernel_rfl) ?_
 simp only[List.take_succ_cons,List.take_zero,List.drop_succ_cons,List.drop_zero]
 repeat (
  refine Loose.zS (fun k hk=> ?_)
  go_simp
  (refine hk _ ?_;clear hk k))
 refine Loose.wpGent_nil ?_
 intro w3 hb3
 have P3:Hid _:=PW.out.grow hb3
 have B3:Hid (Below w.heap.size w w3):=zT CW.out.bel hb3
 have E3:Hid (w3.heap[w.heap.size+1]?=_):=(hb3.block _ (by omega)).trans CW.out.ev
 have hs3:w.heap.size+1<w3.heap.size:=by have:=hb3.size;omega
 have x0:=(hb3.cell (p:=⟨w.heap.size,0,none⟩) (show w.heap.size<_ by omega)).trans CW.out.x0
 have x1:=(hb3.cell (p:=⟨w.heap.size,1,none⟩) (show w.heap.size<_ by omega)).trans CW.out.x1
 have x6:=(hb3.cell (p:=⟨w.heap.size,6,none⟩) (show w.heap.size<_ by omega)).trans CW.out.x6
 have x7:=(hb3.cell (p:=⟨w.heap.size,7,none⟩) (show w.heap.size<_ by omega)).trans CW.out.x7
 have x8:=(hb3.cell (p:=⟨w.heap.size,8,none⟩) (show w.heap.size<_ by omega)).trans CW.out.x8
 simp only at x0 x1 x6 x7 x8
 clear hb3 g2 gc y1 PW CW
 have HBG:=HBG w3 (P3.out.core c hl)
 go_wp2_with fail
 refine HBG.mono ?_
 rintro e w4 ⟨rfl,hc4,hb4⟩
 have D4:Hid _:=P3.out.done1 hl hc4 hb4 (fun x hx=> .inl hx)
 clear hc4 hb4 HBG P3
 go_wp2_with fail
 refine(dvEventOf_any ta tf tr tc te _).mono ?_
 rintro e w5 ⟨rfl,hb5⟩
 have D5:Hid _:=D4.out.grow hb5
 clear hb5 D4
 have FIN:Hid (∀Wf,But (fun x=>x=w.heap.size+1) w5 Wf->DvDone w b D X {X with C:=X.C.set c C'} Wf):=fun Wf hb=>D5.out.behind B3.out LT.out (fun x e=>by omega) hb
 obtain⟨e5,hz5⟩:=D5.out.block (w:=w) (r:=w.heap.size+1) LT.out (by omega) (by omega)
 obtain⟨⟨z0,z1,z2,z3,z4,z5⟩,zf⟩:=row6a (e5.trans E3.out)
 clear e5 D5 E3 B3 x0 x1 x6 x7 x8
 simp only[Pg.Ev.val,Pg.Ev.code]
 go_wp2_with fail
 refine bodyPost_ret (v:=Pg.Ev.val ⟨tc,te,ta,tf,tr,false⟩) ?_ rfl ⟨rfl,FIN.out _ ?_⟩
 ·simp[results,Tryz.results54,go_sem,z0,z1,z2,z3,z4,z5,hz5,Pg.Ev.val,Pg.Ev.code]
 ·exact but6 _ _ _ _ _ _ _ _
set_option maxHeartbeats 1000000 in
theorem dvCore_walk {b:Nat} {D:Dsd} {X:Pg.Spc} {c:Nat} (x:Pg.Sx) (hx:x.kind=5) (hc:x.core=(c:Int)) (hl:c<X.C.length) (w:World) (h:Dsk w b D X):
 Calls Tryz.prog 54 #[.pointer (some ⟨b,0,none⟩),x.val] w fun e w'=>e= .returned ((X.C.getD c Pg.Cr.new).stT X.S 0).ev.val/\DvDone w b D X {X with S:=(X.C.getD c Pg.Cr.new).stS X.S 0,C:=X.C.set c ((X.C.getD c Pg.Cr.new).stN X.S 0)} w':=by
 obtain⟨W,hW⟩:∃W,W=chW w x:=⟨_,rfl⟩
 have CW:Hid (ChW w W x):=by rw[hW];exact chW_is w x
 have PW:Hid _:=h.grow CW.out.bel
 have HH:=dvHas_any x.core W PW.out
 rw[show(decide (0<=x.core)&&decide (x.core<(X.C.length:Int)))=true by rw[hc];simp[hl]]at HH
 have LT:Hid (∀x,dsF D b X.C.length X.G x->x<w.heap.size):=h.owns
 have hWs:W.heap.size=w.heap.size+2:=CW.out.size
 have x1:=CW.out.x1
 have g2:=cell_regrown PW.out.c2
 have gc:=cell_regrown (PW.out.row c hl)
 have y1:=cell_regrown CW.out.x1
 clear h
 obtain⟨kd,co,⟨p,s,f,r⟩,q,k,u⟩:=x
 simp only at hx hc x1 y1 HH
 subst hx hc
 have i0:(0:Int)<=(c:Int):=by omega
 have i1:(c:Int)<(X.C.length:Int):=by omega
 have HBG:=fun w' (h:CrAt w' (D.cb c) 0 (X.C.getD c Pg.Cr.new) (D.cF c)) (hm:FrAt w' D.bm X.S D.FM) hne=>crStep_any w' h hm hne
 generalize hT:(X.C.getD c Pg.Cr.new).stT X.S 0=T at*
 generalize hC':(X.C.getD c Pg.Cr.new).stN X.S 0=C' at*
 generalize hS':(X.C.getD c Pg.Cr.new).stS X.S 0=S' at*
 clear hT hC' hS'
 obtain⟨ta,tf,tr,te,tc⟩:=T
 simp only[Pg.Tl.val,Pg.Tl.ev]at HBG ⊢
 simp only[chW,Pg.Sx.val]at hW ⊢
 go_enter Tryz.func54,Tryz.ntmps54
 go_upto_region 1 with fail
 rw[<-hW]
 clear hW
 go_wp2_with fail
 refine HH.mono ?_
 rintro e w1 ⟨rfl,hw⟩
 subst w1
 go_upto_region 3 with fail
 clear HH x1
 refine Loose.wp_region_late 8 (by kernel_rfl) (by kernel_rfl) ?_
 simp only[List.take_succ_cons,List.take_zero,List.drop_succ_cons,List.drop_zero]
 repeat (
  refine Loose.zS (fun k hk=> ?_)
  go_simp
  (refine hk _ ?_;clear hk k))
 refine Loose.wpGent_nil ?_
 intro w3 hb3
 have P3:Hid _:=PW.out.grow hb3
 have B3:Hid (Below w.heap.size w w3):=zT CW.out.bel hb3
 have E3:Hid (w3.heap[w.heap.size+1]?=_):=(hb3.block _ (by omega)).trans CW.out.ev
 have hs3:w.heap.size+1<w3.heap.size:=by have:=hb3.size;omega
 have x0:=(hb3.cell (p:=⟨w.heap.size,0,none⟩) (show w.heap.size<_ by omega)).trans CW.out.x0
 have x1:=(hb3.cell (p:=⟨w.heap.size,1,none⟩) (show w.heap.size<_ by omega)).trans CW.out.x1
 have x6:=(hb3.cell (p:=⟨w.heap.size,6,none⟩) (show w.heap.size<_ by omega)).trans CW.out.x6
 have x7:=(hb3.cell (p:=⟨w.heap.size,7,none⟩) (show w.heap.size<_ by omega)).trans CW.out.x7
 have x8:=(hb3.cell (p:=⟨w.heap.size,8,none⟩) (show w.heap.size<_ by omega)).trans CW.out.x8
 simp only at x0 x1 x6 x7 x8
 clear hb3 g2 gc y1 PW CW
 have HBG:=HBG w3 (P3.out.core c hl) P3.out.mem (P3.out.apart hl)
 have c0:=P3.out.c0
 go_wp2_with fail
 refine HBG.mono ?_
 rintro e w4 ⟨rfl,Fc,FM,hc4,hm4,hb4,hF4,hF5,hne⟩
 have D4:Hid _:=P3.out.done hl hc4 hm4 hb4 hF4 hF5 hne
 clear hc4 hb4 HBG P3 hm4 hF4 hF5 hne c0
 go_wp2_with fail
 refine(dvEventOf_any ta tf tr tc te _).mono ?_
 rintro e w5 ⟨rfl,hb5⟩
 have D5:Hid _:=D4.out.grow hb5
 clear hb5 D4
 have FIN:Hid (∀Wf,But (fun x=>x=w.heap.size+1) w5 Wf->DvDone w b D X {X with S:=S',C:=X.C.set c C'} Wf):=fun Wf hb=>D5.out.behind B3.out LT.out (fun x e=>by omega) hb
 obtain⟨e5,hz5⟩:=D5.out.block (w:=w) (r:=w.heap.size+1) LT.out (by omega) (by omega)
 obtain⟨⟨z0,z1,z2,z3,z4,z5⟩,zf⟩:=row6a (e5.trans E3.out)
 clear e5 D5 E3 B3 x0 x1 x6 x7 x8
 simp only[Pg.Ev.val,Pg.Ev.code]
 go_wp2_with fail
 refine bodyPost_ret (v:=Pg.Ev.val ⟨tc,te,ta,tf,tr,false⟩) ?_ rfl ⟨rfl,FIN.out _ ?_⟩
 ·simp[results,Tryz.results54,go_sem,z0,z1,z2,z3,z4,z5,hz5,Pg.Ev.val,Pg.Ev.code]
 ·exact but6 _ _ _ _ _ _ _ _
set_option maxHeartbeats 1000000 in
theorem dvCore_ack {b:Nat} {D:Dsd} {X:Pg.Spc} {c:Nat} (x:Pg.Sx) (hx:x.kind=6) (hc:x.core=(c:Int)) (hl:c<X.C.length) (w:World) (h:Dsk w b D X):
 Calls Tryz.prog 54 #[.pointer (some ⟨b,0,none⟩),x.val] w fun e w'=>e= .returned (X.akE c).val/\DvDone w b D X (X.akN c) w':=by
 obtain⟨W,hW⟩:∃W,W=chW w x:=⟨_,rfl⟩
 have CW:Hid (ChW w W x):=by rw[hW];exact chW_is w x
 have PW:Hid _:=h.grow CW.out.bel
 have HH:=dvHas_any x.core W PW.out
 rw[show(decide (0<=x.core)&&decide (x.core<(X.C.length:Int)))=true by rw[hc];simp[hl]]at HH
 have LT:Hid (∀x,dsF D b X.C.length X.G x->x<w.heap.size):=h.owns
 have hWs:W.heap.size=w.heap.size+2:=CW.out.size
 have x1:=CW.out.x1
 have g2:=cell_regrown PW.out.c2
 have gc:=cell_regrown (PW.out.row c hl)
 have y1:=cell_regrown CW.out.x1
 clear h
 obtain⟨kd,co,⟨p,s,f,r⟩,q,k,u⟩:=x
 simp only at hx hc x1 y1 HH
 subst hx hc
 have i0:(0:Int)<=(c:Int):=by omega
 have i1:(c:Int)<(X.C.length:Int):=by omega
 have HBG:=fun w' (h:Dsk w' b D X)=>dvAck_any hl w' h
 generalize hT:X.akE c=T at*
 generalize hC':X.akN c=X' at*
 clear hT hC'
 obtain⟨tc,te,ta,tf,tr,tb⟩:=T
 simp only[chW,Pg.Sx.val]at hW ⊢
 go_enter Tryz.func54,Tryz.ntmps54
 go_upto_region 1 with fail
 rw[<-hW]
 clear hW
 go_wp2_with fail
 refine HH.mono ?_
 rintro e w1 ⟨rfl,hw⟩
 subst w1
 go_upto_region 3 with fail
 clear HH x1
 refine Loose.wp_region_late 8 (by kernel_rfl) (by kernel_rfl) ?_
 simp only[List.take_succ_cons,List.take_zero,List.drop_succ_cons,List.drop_zero]
 repeat (
  refine Loose.zS (fun k hk=> ?_)
  go_simp
  (refine hk _ ?_;clear hk k))
 refine Loose.wpGent_nil ?_
 intro w3 hb3
 have P3:Hid _:=PW.out.grow hb3
 have B3:Hid (Below w.heap.size w w3):=zT CW.out.bel hb3
 have E3:Hid (w3.heap[w.heap.size+1]?=_):=(hb3.block _ (by omega)).trans CW.out.ev
 have hs3:w.heap.size+1<w3.heap.size:=by have:=hb3.size;omega
 have x0:=(hb3.cell (p:=⟨w.heap.size,0,none⟩) (show w.heap.size<_ by omega)).trans CW.out.x0
 have x1:=(hb3.cell (p:=⟨w.heap.size,1,none⟩) (show w.heap.size<_ by omega)).trans CW.out.x1
 have x6:=(hb3.cell (p:=⟨w.heap.size,6,none⟩) (show w.heap.size<_ by omega)).trans CW.out.x6
 have x7:=(hb3.cell (p:=⟨w.heap.size,7,none⟩) (show w.heap.size<_ by omega)).trans CW.out.x7
 have x8:=(hb3.cell (p:=⟨w.heap.size,8,none⟩) (show w.heap.size<_ by omega)).trans CW.out.x8
 simp only at x0 x1 x6 x7 x8
 clear hb3 g2 gc y1 PW CW
 have HBG:=HBG w3 P3.out
 go_wp2_with fail
 refine HBG.mono ?_
 rintro e w4 ⟨rfl,d4⟩
 have D5:Hid _:=d4
 clear d4 HBG P3
 have FIN:Hid (∀Wf,But (fun x=>x=w.heap.size+1) w4 Wf->DvDone w b D X X' Wf):=fun Wf hb=>D5.out.behind B3.out LT.out (fun x e=>by omega) hb
 obtain⟨e5,hz5⟩:=D5.out.block (w:=w) (r:=w.heap.size+1) LT.out (by omega) (by omega)
 obtain⟨⟨z0,z1,z2,z3,z4,z5⟩,zf⟩:=row6a (e5.trans E3.out)
 clear e5 D5 E3 B3 x0 x1 x6 x7 x8
 simp only[Pg.Ev.val,Pg.Ev.code]
 go_wp2_with fail
 refine bodyPost_ret (v:=Pg.Ev.val ⟨tc,te,ta,tf,tr,tb⟩) ?_ rfl ⟨rfl,FIN.out _ ?_⟩
 ·simp[results,Tryz.results54,go_sem,z0,z1,z2,z3,z4,z5,hz5,Pg.Ev.val,Pg.Ev.code]
 ·exact but6 _ _ _ _ _ _ _ _
set_option maxHeartbeats 1000000 in
theorem dvCore_evict {b:Nat} {D:Dsd} {X:Pg.Spc} {c:Nat} (x:Pg.Sx) (hx:x.kind=7) (hc:x.core=(c:Int)) (hl:c<X.C.length) (w:World) (h:Dsk w b D X):
 Calls Tryz.prog 54 #[.pointer (some ⟨b,0,none⟩),x.val] w fun e w'=>e= .returned (if (X.C.getD c Pg.Cr.new).L=[]then Pg.Ev.code 9 else Pg.Ev.code 0).val/\DvDone w b D X {X with C:=X.C.set c (X.C.getD c Pg.Cr.new).evict} w':=by
 obtain⟨W,hW⟩:∃W,W=chW w x:=⟨_,rfl⟩
 have CW:Hid (ChW w W x):=by rw[hW];exact chW_is w x
 have PW:Hid _:=h.grow CW.out.bel
 have HH:=dvHas_any x.core W PW.out
 rw[show(decide (0<=x.core)&&decide (x.core<(X.C.length:Int)))=true by rw[hc];simp[hl]]at HH
 have LT:Hid (∀x,dsF D b X.C.length X.G x->x<w.heap.size):=h.owns
 have hWs:W.heap.size=w.heap.size+2:=CW.out.size
 have x1:=CW.out.x1
 have g2:=cell_regrown PW.out.c2
 have gc:=cell_regrown (PW.out.row c hl)
 have y1:=cell_regrown CW.out.x1
 clear h
 obtain⟨kd,co,⟨p,s,f,r⟩,q,k,u⟩:=x
 simp only at hx hc x1 y1 HH
 subst hx hc
 have i0:(0:Int)<=(c:Int):=by omega
 have i1:(c:Int)<(X.C.length:Int):=by omega
 have HBG:=fun w' (h:CrAt w' (D.cb c) 0 (X.C.getD c Pg.Cr.new) (D.cF c))=>dvEvict_any w' h
 generalize hT:(if (X.C.getD c Pg.Cr.new).L=[]then Pg.Ev.code 9 else Pg.Ev.code 0)=T at*
 generalize hC':(X.C.getD c Pg.Cr.new).evict=C' at*
 clear hT hC'
 obtain⟨tc,te,ta,tf,tr,tb⟩:=T
 simp only[chW,Pg.Sx.val]at hW ⊢
 go_enter Tryz.func54,Tryz.ntmps54
 go_upto_region 1 with fail
 rw[<-hW]
 clear hW
 go_wp2_with fail
 refine HH.mono ?_
 rintro e w1 ⟨rfl,hw⟩
 subst w1
 go_upto_region 3 with fail
 clear HH x1
 refine Loose.wp_region_late 8 (by kernel_rfl) (by kernel_rfl) ?_
 simp only[List.take_succ_cons,List.take_zero,List.drop_succ_cons,List.drop_zero]
 repeat (
  refine Loose.zS (fun k hk=> ?_)
  go_simp
  (refine hk _ ?_;clear hk k))
 refine Loose.wpGent_nil ?_
 intro w3 hb3
 have P3:Hid _:=PW.out.grow hb3
 have B3:Hid (Below w.heap.size w w3):=zT CW.out.bel hb3
 have E3:Hid (w3.heap[w.heap.size+1]?=_):=(hb3.block _ (by omega)).trans CW.out.ev
 have hs3:w.heap.size+1<w3.heap.size:=by have:=hb3.size;omega
 have x0:=(hb3.cell (p:=⟨w.heap.size,0,none⟩) (show w.heap.size<_ by omega)).trans CW.out.x0
 have x1:=(hb3.cell (p:=⟨w.heap.size,1,none⟩) (show w.heap.size<_ by omega)).trans CW.out.x1
 have x6:=(hb3.cell (p:=⟨w.heap.size,6,none⟩) (show w.heap.size<_ by omega)).trans CW.out.x6
 have x7:=(hb3.cell (p:=⟨w.heap.size,7,none⟩) (show w.heap.size<_ by omega)).trans CW.out.x7
 have x8:=(hb3.cell (p:=⟨w.heap.size,8,none⟩) (show w.heap.size<_ by omega)).trans CW.out.x8
 simp only at x0 x1 x6 x7 x8
 clear hb3 g2 gc y1 PW CW
 have HBG:=HBG w3 (P3.out.core c hl)
 go_wp2_with fail
 refine HBG.mono ?_
 rintro e w4 ⟨rfl,Fc,hc4,hb4,hF4⟩
 have D5:Hid _:=P3.out.done1 hl hc4 hb4 hF4
 clear hc4 hb4 hF4 HBG P3
 have FIN:Hid (∀Wf,But (fun x=>x=w.heap.size+1) w4 Wf->DvDone w b D X {X with C:=X.C.set c C'} Wf):=fun Wf hb=>D5.out.behind B3.out LT.out (fun x e=>by omega) hb
 obtain⟨e5,hz5⟩:=D5.out.block (w:=w) (r:=w.heap.size+1) LT.out (by omega) (by omega)
 obtain⟨⟨z0,z1,z2,z3,z4,z5⟩,zf⟩:=row6a (e5.trans E3.out)
 clear e5 D5 E3 B3 x0 x1 x6 x7 x8
 simp only[Pg.Ev.val,Pg.Ev.code]
 go_wp2_with fail
 refine bodyPost_ret (v:=Pg.Ev.val ⟨tc,te,ta,tf,tr,tb⟩) ?_ rfl ⟨rfl,FIN.out _ ?_⟩
 ·simp[results,Tryz.results54,go_sem,z0,z1,z2,z3,z4,z5,hz5,Pg.Ev.val,Pg.Ev.code]
 ·exact but6 _ _ _ _ _ _ _ _
theorem dvChange_any {b:Nat} {D:Dsd} {X:Pg.Spc} (x:Pg.Sx) (hx:1<=x.kind/\x.kind<=3) (w:World) (h:Dsk w b D X):
 Calls Tryz.prog 53 #[.pointer (some ⟨b,0,none⟩),x.val] w fun e w'=>e= .returned (X.chE x).val/\DvDone w b D X (X.chN x) w':=by
 unfold Pg.Spc.chE Pg.Spc.chN
 cases hb:X.busy
 ·simp only[Bool.false_eq_true,if_false]
  by_cases h1:x.kind=1
  ·rw[if_pos h1,if_pos h1]
   exact dvChange_map x h1 hb w h
  ·rw[if_neg h1,if_neg h1]
   by_cases h2:x.kind=2
   ·rw[if_pos h2,if_pos h2]
    exact dvChange_unmap x h2 hb w h (fun e=>if_pos e) (fun e=>if_neg e)
   ·rw[if_neg h2,if_neg h2]
    exact dvChange_protect x (by omega) hb w h (fun e=>if_pos e) (fun e=>if_neg e)
 ·simp only[if_true]
  refine(dvChange_busy x hb w h).mono ?_
  rintro e w' ⟨rfl,hbl⟩
  exact⟨rfl,.same h hbl⟩
theorem dvCore_any {b:Nat} {D:Dsd} {X:Pg.Spc} (x:Pg.Sx) (hx:4<=x.kind/\x.kind<=7) (w:World) (h:Dsk w b D X):
 Calls Tryz.prog 54 #[.pointer (some ⟨b,0,none⟩),x.val] w fun e w'=>e= .returned (X.goE x).val/\DvDone w b D X (X.goN x) w':=by
 unfold Pg.Spc.goE Pg.Spc.goN
 rw[if_neg (show ¬(1<=x.kind/\x.kind<=3) by omega),if_neg (show ¬(1<=x.kind/\x.kind<=3) by omega),if_neg (show ¬(x.kind<1\/7<x.kind) by omega),if_neg (show ¬(x.kind<1\/7<x.kind) by omega)]
 by_cases hr:x.core<0\/(X.C.length:Int)<=x.core
 ·rw[if_pos hr,if_pos hr]
  refine(dvCore_range x hr w h).mono ?_
  rintro e w' ⟨rfl,hbl⟩
  exact⟨rfl,.same h hbl⟩
 ·rw[if_neg hr,if_neg hr]
  obtain⟨c,hc⟩:=Int.eq_ofNat_of_zero_le (show 0<=x.core by omega)
  have hl:c<X.C.length:=by omega
  have ea:X.at' x.core=X.C.getD c Pg.Cr.new:=by unfold Pg.Spc.at';rw[hc,Int.toNat_natCast]
  have et:x.core.toNat=c:=by rw[hc,Int.toNat_natCast]
  rw[ea,et]
  by_cases h4:x.kind=4
  ·rw[if_pos h4,if_pos h4]
   exact dvCore_access x h4 hc hl w h
  ·rw[if_neg h4,if_neg h4]
   by_cases h5:x.kind=5
   ·rw[if_pos h5,if_pos h5]
    exact dvCore_walk x h5 hc hl w h
   ·rw[if_neg h5,if_neg h5]
    by_cases h6:x.kind=6
    ·rw[if_pos h6,if_pos h6,hc]
     exact dvCore_ack x h6 hc hl w h
    ·rw[if_neg h6,if_neg h6]
     exact dvCore_evict x (by omega) hc hl w h
set_option maxHeartbeats 1000000 in
theorem dvDo_change {b:Nat} {D:Dsd} {X:Pg.Spc} (x:Pg.Sx) (hx:x.kind=1\/x.kind=2\/x.kind=3) (w:World) (h:Dsk w b D X):
 Calls Tryz.prog 13 #[.pointer (some ⟨b,0,none⟩),x.val] w fun e w'=>e= .returned (X.chE x).val/\DvDone w b D X (X.chN x) w':=by
 obtain⟨W,hW⟩:∃W,W=chW w x:=⟨_,rfl⟩
 have CW:Hid (ChW w W x):=by rw[hW];exact chW_is w x
 have LT:Hid (∀x,dsF D b X.C.length X.G x->x<w.heap.size):=h.owns
 have HC:=dvChange_any x (by omega) W (h.grow CW.out.bel)
 have hWs:W.heap.size=w.heap.size+2:=CW.out.size
 obtain⟨x0,x1,x2,x3,x4,x5,x6,x7,x8⟩:=(⟨CW.out.x0,CW.out.x1,CW.out.x2,CW.out.x3,CW.out.x4,CW.out.x5,CW.out.x6,CW.out.x7,CW.out.x8⟩:_/\_/\_/\_/\_/\_/\_/\_/\_)
 clear h
 generalize hE:X.chE x=E at*
 generalize hN:X.chN x=X' at*
 clear hE hN
 obtain⟨kd,co,⟨p,s,f,r⟩,q,k,u⟩:=x
 simp only[chW,Pg.Sx.val]at hW HC hx x0 x1 x2 x3 x4 x5 x6 x7 x8 ⊢
 obtain⟨ec,en,ea,ef,er,eb⟩:=E
 simp only[Pg.Ev.val]at HC ⊢
 rcases hx with rfl|rfl|rfl
 all_goals
  go_enter Tryz.func13,Tryz.ntmps13
  go_upto_region 1 with fail
  rw[<-hW]
  clear hW
  go_wp2_with fail
  refine HC.mono ?_
  rintro e w1 ⟨rfl,d1⟩
  have D1:Hid _:=d1
  obtain⟨e1,hs1⟩:=d1.block (w:=w) (r:=w.heap.size+1) LT.out (by omega) (by omega)
  obtain⟨⟨z0,z1,z2,z3,z4,z5⟩,zf⟩:=row6a (e1.trans CW.out.ev)
  have FIN:Hid (∀Wf,But (fun x=>x=w.heap.size+1) w1 Wf->DvDone w b D X X' Wf):=fun Wf hb=>D1.out.behind CW.out.bel LT.out (fun x e=>by omega) hb
  clear d1 D1 e1 HC x0 x1 x2 x3 x4 x5 x6 x7 x8 CW
  go_wp2_with fail
  refine bodyPost_ret (v:= .agg #[.int .i64 ec,.bool en,.int .i64 ea,.int .i64 ef,.int .i64 er,.bool eb]) ?_ rfl ⟨rfl,FIN.out _ ?_⟩
  ·simp[results,Tryz.results13,go_sem,z0,z1,z2,z3,z4,z5,hs1]
  ·exact but6 _ _ _ _ _ _ _ _
set_option maxHeartbeats 1000000 in
theorem dvDo_core {b:Nat} {D:Dsd} {X:Pg.Spc} (x:Pg.Sx) (hx:x.kind=4\/x.kind=5\/x.kind=6\/x.kind=7) (w:World) (h:Dsk w b D X):
 Calls Tryz.prog 13 #[.pointer (some ⟨b,0,none⟩),x.val] w fun e w'=>e= .returned (X.goE x).val/\DvDone w b D X (X.goN x) w':=by
 obtain⟨W,hW⟩:∃W,W=chW w x:=⟨_,rfl⟩
 have CW:Hid (ChW w W x):=by rw[hW];exact chW_is w x
 have LT:Hid (∀x,dsF D b X.C.length X.G x->x<w.heap.size):=h.owns
 have HC:=dvCore_any x (by omega) W (h.grow CW.out.bel)
 have hWs:W.heap.size=w.heap.size+2:=CW.out.size
 obtain⟨x0,x1,x2,x3,x4,x5,x6,x7,x8⟩:=(⟨CW.out.x0,CW.out.x1,CW.out.x2,CW.out.x3,CW.out.x4,CW.out.x5,CW.out.x6,CW.out.x7,CW.out.x8⟩:_/\_/\_/\_/\_/\_/\_/\_/\_)
 clear h
 generalize hE:X.goE x=E at*
 generalize hN:X.goN x=X' at*
 clear hE hN
 obtain⟨kd,co,⟨p,s,f,r⟩,q,k,u⟩:=x
 simp only[chW,Pg.Sx.val]at hW HC hx x0 x1 x2 x3 x4 x5 x6 x7 x8 ⊢
 obtain⟨ec,en,ea,ef,er,eb⟩:=E
 simp only[Pg.Ev.val]at HC ⊢
 rcases hx with rfl|rfl|rfl|rfl
 all_goals
  go_enter Tryz.func13,Tryz.ntmps13
  go_upto_region 1 with fail
  rw[<-hW]
  clear hW
  go_wp2_with fail
  refine HC.mono ?_
  rintro e w1 ⟨rfl,d1⟩
  have D1:Hid _:=d1
  obtain⟨e1,hs1⟩:=d1.block (w:=w) (r:=w.heap.size+1) LT.out (by omega) (by omega)
  obtain⟨⟨z0,z1,z2,z3,z4,z5⟩,zf⟩:=row6a (e1.trans CW.out.ev)
  have FIN:Hid (∀Wf,But (fun x=>x=w.heap.size+1) w1 Wf->DvDone w b D X X' Wf):=fun Wf hb=>D1.out.behind CW.out.bel LT.out (fun x e=>by omega) hb
  clear d1 D1 e1 HC x0 x1 x2 x3 x4 x5 x6 x7 x8 CW
  go_wp2_with fail
  refine bodyPost_ret (v:= .agg #[.int .i64 ec,.bool en,.int .i64 ea,.int .i64 ef,.int .i64 er,.bool eb]) ?_ rfl ⟨rfl,FIN.out _ ?_⟩
  ·simp[results,Tryz.results13,go_sem,z0,z1,z2,z3,z4,z5,hs1]
  ·exact but6 _ _ _ _ _ _ _ _
set_option maxHeartbeats 1000000 in
theorem dvDo_kind {b:Nat} {D:Dsd} {X:Pg.Spc} (x:Pg.Sx) (hx:x.kind<1\/7<x.kind) (w:World) (h:Dsk w b D X):
 Calls Tryz.prog 13 #[.pointer (some ⟨b,0,none⟩),x.val] w fun e w'=>e= .returned (Pg.Ev.code 2).val/\Below w.heap.size w w':=by
 obtain⟨W,hW⟩:∃W,W=chW w x:=⟨_,rfl⟩
 have CW:Hid (ChW w W x):=by rw[hW];exact chW_is w x
 have hWs:W.heap.size=w.heap.size+2:=CW.out.size
 have x0:=CW.out.x0
 clear h
 obtain⟨kd,co,⟨p,s,f,r⟩,q,k,u⟩:=x
 simp only[chW,Pg.Sx.val]at hW hx x0 ⊢
 have k1:(kd==1)=false:=by simp;omega
 have k2:(kd==2)=false:=by simp;omega
 have k3:(kd==3)=false:=by simp;omega
 have k4:(kd==4)=false:=by simp;omega
 have k5:(kd==5)=false:=by simp;omega
 have k6:(kd==6)=false:=by simp;omega
 have k7:(kd==7)=false:=by simp;omega
 clear hx
 go_enter Tryz.func13,Tryz.ntmps13
 go_upto_region 1 with fail
 rw[<-hW]
 clear hW
 go_wp2_with fail
 refine(dvRefused_any 2 _).mono ?_
 rintro e w2 ⟨rfl,hb2⟩
 obtain⟨⟨z0,z1,z2,z3,z4,z5⟩,zf⟩:=row6a ((hb2.block _ (by omega)).trans CW.out.ev)
 have hs2:w.heap.size+1<w2.heap.size:=by have:=hb2.size;omega
 have HB2:Hid (Below w.heap.size w w2):=zT CW.out.bel hb2
 clear hb2
 simp only[Pg.Ev.val,Pg.Ev.code]
 go_wp2_with fail
 refine bodyPost_ret (v:=(Pg.Ev.code 2).val) ?_ rfl ⟨rfl,?_⟩
 ·simp[results,Tryz.results13,go_sem,z0,z1,z2,z3,z4,z5,hs2,Pg.Ev.val,Pg.Ev.code]
 ·exact bset6 HB2.out _ (by omega) _ _ _ _ _ _
theorem dvDo_any {b:Nat} {X:Pg.Spc} {F:Nat->Prop} (x:Pg.Sx) (w:World) (h:DvAt w b X F):
 Calls Tryz.prog 13 #[.pointer (some ⟨b,0,none⟩),x.val] w fun e w'=>e= .returned (X.goE x).val/\∃F',DvAt w' b (X.goN x) F'/\But F w w'/\∀k,F' k->F k\/w.heap.size<=k:=by
 obtain⟨D,h,rfl⟩:=h
 have key:Calls Tryz.prog 13 #[.pointer (some ⟨b,0,none⟩),x.val] w fun e w'=>e= .returned (X.goE x).val/\DvDone w b D X (X.goN x) w':=by
  by_cases hk:1<=x.kind/\x.kind<=3
  ·have e1:X.goE x=X.chE x:=by unfold Pg.Spc.goE;rw[if_pos hk]
   have e2:X.goN x=X.chN x:=by unfold Pg.Spc.goN;rw[if_pos hk]
   rw[e1,e2]
   exact dvDo_change x (by omega) w h
  ·by_cases hk2:x.kind<1\/7<x.kind
   ·have e1:X.goE x= .code 2:=by unfold Pg.Spc.goE;rw[if_neg hk,if_pos hk2]
    have e2:X.goN x=X:=by unfold Pg.Spc.goN;rw[if_neg hk,if_pos hk2]
    rw[e1,e2]
    refine(dvDo_kind x hk2 w h).mono ?_
    rintro e w' ⟨rfl,hbl⟩
    exact⟨rfl,.same h hbl⟩
   ·exact dvDo_core x (by omega) w h
 refine key.mono ?_
 rintro e w' ⟨rfl,D',h1,h3,h4⟩
 exact⟨rfl,_,⟨D',h1,rfl⟩,h3,h4⟩
end Go.Proofs.YtkhnelgommaioaaGreat
