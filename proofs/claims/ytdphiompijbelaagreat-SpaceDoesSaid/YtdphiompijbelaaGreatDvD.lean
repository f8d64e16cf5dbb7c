import Derived.Test.YtdphiompijbelaaGreatTabI
import Derived.Test.YtdphiompijbelaaGreatLooseD
set_option linter.all false
set_option maxRecDepth 100000
open Go.Obj renaming cells->kP
open Go renaming bodyPost_ret->A,cell_regrown->H,World->m,Calls->kI,heap_alloc_new->kJ
open Go.RowKit renaming Hid->O
open Bool renaming false->U,true->kY
open Go.Proofs.Tryz renaming prog->Q
open Go.Ending renaming returned->V
open Nat renaming lt_of_lt_of_le->R,le_refl->kC
open Option renaming none->P,some->E
open Int renaming toNat_natCast->B,eq_ofNat_of_zero_le->kS
open Go.IntKind renaming i64->J
open Go.Value renaming int->I,pointer->Z,bool->o,slice->kR,tuple->kN
set_option maxHeartbeats 2000000
namespace Go.Proofs.YtdphiompijbelaaGreat
open Go.RowKit Go.Sort
section
attribute [local go_sem] Loose.gent
theorem xj (w:m):Below w.heap.size w w.drew:=(zR w).drew
theorem zY (c:Int) (w:m):kI Q 54 #[I J c] w fun e w'=>e=V (Pg.Ev.code c).val/\Below w.heap.size w w':=by
 go_enter Tryz.func54,Tryz.ntmps54
 go_wp2_with fail
 refine A (v:=(Pg.Ev.code c).val) ?_ rfl ⟨rfl,?_⟩
 ·simp[results,Tryz.results54,go_sem,Pg.Ev.val,Pg.Ev.code]
 ·exact zA (zR w) _
theorem jk (a f r c:Int) (en:Bool) (w:m):kI Q 92 #[.agg #[I J a,I J f,I J r],o en,I J c] w fun e w'=>e=V (Pg.Ev.val ⟨c,en,a,f,r,U⟩)/\Below w.heap.size w w':=by
 go_enter Tryz.func92,Tryz.ntmps92
 go_wp2_with fail
 refine A (v:=(Pg.Ev.val ⟨c,en,a,f,r,U⟩)) ?_ rfl ⟨rfl,?_⟩
 ·simp[results,Tryz.results92,go_sem,Pg.Ev.val]
 ·exact zA (zA (zR w) _) _
section
variable {b:Nat} {D:Dsd} {X:Pg.Spc}
theorem xZ (k:Int) (w:m) (h:Dsk w b D X):kI Q 61 #[Z (E ⟨b,0,P⟩),I J k] w fun e w'=>e=V (o (decide (0<=k)&&decide (k<(X.C.length:Int))))/\w'=w:=by
 have c2:=h.c2;clear h
 by_cases h0:0<=k
 ·have d0:decide (0<=k)=kY:=by simpa using h0
  go_enter Tryz.func61,Tryz.ntmps61
  go_wp2_with fail
  go_ret
  exact⟨by simp[h0],rfl⟩
 ·have d0:decide (0<=k)=U:=by simpa using h0
  go_enter Tryz.func61,Tryz.ntmps61
  go_wp2_with fail
  go_ret
  exact⟨by simp[h0],rfl⟩
theorem xW (w:m) (h:Dsk w b D X):kI Q 20 #[Z (E ⟨b,0,P⟩)] w fun e w'=>e=V (o X.busy)/\w'=w:=by
 have c3:=h.c3;have HO:=yax w h.tl;rw[Pg.yhW (by rw[h.len];exact h.le)]at HO;unfold Pg.Spc.busy;generalize X.W.any id=z at*;clear h
 go_enter Tryz.func20,Tryz.ntmps20
 go_wp2_with fail
 refine HO.mono ?_;rintro e w1 ⟨rfl,hw⟩;subst w1
 go_wp2_with fail
 go_ret
 exact⟨by simp,rfl⟩
theorem yah (w:m) (h:Dsk w b D X):kI Q 21 #[Z (E ⟨b,0,P⟩)] w fun e w'=>e=V (I J X.S.free)/\Below w.heap.size w w':=by
 have c0:=h.c0;have HO:=yan w h.mem;clear h
 go_enter Tryz.func21,Tryz.ntmps21
 go_wp2_with fail
 refine HO.mono ?_;rintro e w1 ⟨rfl,hb⟩;have HB:O _:=hb;clear hb
 go_wp2_with fail
 go_ret
 exact⟨rfl,HB.out⟩
theorem ycS (w:m) (h:Dsk w b D X):kI Q 23 #[Z (E ⟨b,0,P⟩)] w fun e w'=>e=V (I J X.G.length)/\w'=w:=by
 have c4:=h.c4;clear h
 go_enter Tryz.func23,Tryz.ntmps23
 go_wp2_with fail
 go_ret
 exact⟨rfl,rfl⟩
theorem ybX (w:m) (h:Dsk w b D X):kI Q 24 #[Z (E ⟨b,0,P⟩)] w fun e w'=>e=V (I J X.C.length)/\w'=w:=by
 have c2:=h.c2;clear h
 go_enter Tryz.func24,Tryz.ntmps24
 go_wp2_with fail
 go_ret
 exact⟨rfl,rfl⟩
theorem vk (k:Int) (w:m) (h:Dsk w b D X):kI Q 25 #[Z (E ⟨b,0,P⟩),I J k] w fun e w'=>e=V (o (X.waitsOf k))/\w'=w:=by
 have c3:=h.c3;have HO:=jf k w h.tl
 have e:Pg.ygO (fun k=>X.W.getD k U) k=X.waitsOf k:=by
  unfold Pg.ygO Pg.Spc.waitsOf
  by_cases h0:0<=k
  ·by_cases h4:k<4
   ·simp[h0,h4]
   ·have hl:=h.len
    have h5:=h.le
    have:X.W.length<=k.toNat:=by omega
    rw[List.getD,List.getElem?_eq_none this];simp[h0,h4]
  ·simp[h0]
 rw[e]at HO;generalize X.waitsOf k=z at*;clear h e
 go_enter Tryz.func25,Tryz.ntmps25
 go_wp2_with fail
 refine HO.mono ?_;rintro e w1 ⟨rfl,hw⟩;subst w1
 go_wp2_with fail
 go_ret
 exact⟨rfl,rfl⟩
theorem yai (k:Int) (w:m) (h:Dsk w b D X):kI Q 26 #[Z (E ⟨b,0,P⟩),I J k] w fun e w'=>∃ad cap,e=V (kR ad (X.linesOf k).length cap)/\xh w' ad (X.linesOf k)/\Below w.heap.size w w':=by
 have HH:=xZ k w h
 by_cases hin:0<=k/\k<(X.C.length:Int)
 ·obtain⟨n,rfl⟩:=kS hin.1
  have hl:n<X.C.length:=by omega
  have e:X.linesOf (n:Int)=(X.C.getD n Pg.Cr.new).L:=by unfold Pg.Spc.linesOf;rw[if_pos hin.1,B]
  rw[e];rw[show(decide (0<=(n:Int))&&decide ((n:Int)<(X.C.length:Int)))=kY by simp[hl]]at HH;obtain⟨bt,bk,Ft,hC,_⟩:=h.core n hl;have HO:=ydg w hC.tb;have c2:=h.c2;have cr:=h.row n hl;have k0:=hC.c0
  have i0:(0:Int)<=(n:Int):=by omega
  have i1:(n:Int)<(X.C.length:Int):=by omega
  generalize (X.C.getD n Pg.Cr.new).L=L at*;clear h hC hin e
  go_enter Tryz.func26,Tryz.ntmps26
  go_wp2_with fail
  refine HH.mono ?_;rintro e w1 ⟨rfl,hw⟩;subst w1
  go_wp2_with fail
  refine HO.mono ?_;rintro e w1 ⟨ad,cap,rfl,hA,hb,_⟩;have HF:O (xh w1 ad L/\Below w.heap.size w w1):=⟨hA,hb⟩;clear hA hb HO
  go_wp2_with fail
  go_ret
  exact⟨ad,cap,rfl,HF.out.1,HF.out.2⟩
 ·have e:X.linesOf k=[]:=by
   unfold Pg.Spc.linesOf;split
   ·have:X.C.length<=k.toNat:=by omega
    simp[List.getD,this,Pg.Cr.new]
   ·rfl
  rw[e];rw[show(decide (0<=k)&&decide (k<(X.C.length:Int)))=U by simp;omega]at HH;clear h hin e
  go_enter Tryz.func26,Tryz.ntmps26
  go_wp2_with fail
  refine HH.mono ?_;rintro e w1 ⟨rfl,hw⟩;subst w1
  go_wp2_with fail
  go_ret
  exact⟨P,0,rfl,fun j hj=>by simp at hj,zR w⟩
theorem yet (k:Int) (w:m) (h:Dsk w b D X):kI Q 15 #[Z (E ⟨b,0,P⟩),I J k] w fun e w'=>e=V (kN #[.agg #[I J (X.walkOf k).q,I J (X.walkOf k).k,o (X.walkOf k).u],o (X.walkOf k).on])/\Below w.heap.size w w':=by
 obtain⟨W,hW⟩:∃W,W=w.alloc (kP #[I J 0,I J 0,o U] 41):=⟨_,rfl⟩
 have hB:Below w.heap.size w W:=by rw[hW];exact zA (zR _) _
 have HW:=h.grow hB;have HH:=xZ k W HW;obtain⟨⟨z0,z1,z2⟩,zf⟩:=ych (show W.heap[w.heap.size]?=E (kP #[I J 0,I J 0,o U] 41 (0,0)) by rw[hW];exact kJ _ _)
 by_cases hin:0<=k/\k<(X.C.length:Int)
 ·obtain⟨n,rfl⟩:=kS hin.1
  have hl:n<X.C.length:=by omega
  have e:X.walkOf (n:Int)=(X.C.getD n Pg.Cr.new).K:=by unfold Pg.Spc.walkOf;rw[if_pos hin.1,B]
  rw[e];rw[show(decide (0<=(n:Int))&&decide ((n:Int)<(X.C.length:Int)))=kY by simp[hl]]at HH;obtain⟨bt,bk,Ft,hC,hF⟩:=HW.core n hl;have hC2:=HW.core n hl;have HA:=fun d os=>yb5 _ (hC.grow (below_regrown W d os)).wk;have HO:=fun d os=>qm _ (hC2.grow (below_regrown W d os));have c2:=H HW.c2;have cr:=H (HW.row n hl);have k1:=H hC.c1
  have i0:(0:Int)<=(n:Int):=by omega
  have i1:(n:Int)<(X.C.length:Int):=by omega
  have HB:O _:=hB;have hs:w.heap.size<W.heap.size:=World.block_lt_of_cell? _ _ z0;generalize (X.C.getD n Pg.Cr.new).K=K at*;generalize X.C.length=cl at*;clear h hC hC2 hF hin e HW hB
  go_enter Tryz.func15,Tryz.ntmps15
  go_upto_region 1 with fail
  rw[<-hW];clear hW
  go_wp2_with fail
  refine HH.mono ?_;rintro e w1 ⟨rfl,hw⟩;subst w1
  go_upto_region 3 with fail
  refine Loose.ygt 19 (by kernel_rfl) (by kernel_rfl) ?_;simp only[List.take_succ_cons,List.take_zero,List.drop_succ_cons,List.drop_zero]
  repeat (
   refine Loose.zS (fun k hk=> ?_)
   go_simp
   first
    | (refine hk _ ?_;clear hk k)
    | (apply Exists.intro
       refine⟨fun _=> ?_,hk _ ?_⟩
       (first
         | (go_at_call 62;exact Loose.calls (HA _ _))
         | (go_at_call 63;exact Loose.ygB (HO _ _)))
       clear hk k))
  refine Loose.ygs ?_;intro w3 hb3;have y0:=(hb3.cell (p:=⟨w.heap.size,0,P⟩) hs).trans z0;have y1:=(hb3.cell (p:=⟨w.heap.size,1,P⟩) hs).trans z1;have y2:=(hb3.cell (p:=⟨w.heap.size,2,P⟩) hs).trans z2;have yf:∀p,w3.frozen? ⟨w.heap.size,p,P⟩=U:=fun p=>(hb3.frozen (p:=⟨w.heap.size,p,P⟩) hs).trans (zf p);have hs3:w.heap.size<w3.heap.size:=R hs hb3.size;have HB3:O (Below w.heap.size w w3):=zT HB.out hb3;clear hb3 z0 z1 z2 zf HA HO c2 cr k1 HH
  go_wp2_with fail
  refine A (v:=kN #[.agg #[I J K.q,I J K.k,o K.u],o K.on]) ?_ rfl ⟨rfl,?_⟩
  ·simp[results,Tryz.results15,go_sem,y0,y1,y2,hs3]
  ·exact xX HB3.out _ (kC _) _ _ _
 ·have e:X.walkOf k=Pg.Wk.off:=by
   unfold Pg.Spc.walkOf;split
   ·have:X.C.length<=k.toNat:=by omega
    simp[List.getD,this,Pg.Cr.new]
   ·rfl
  rw[e];rw[show(decide (0<=k)&&decide (k<(X.C.length:Int)))=U by simp;omega]at HH;have HB:O _:=hB;have hs:w.heap.size<W.heap.size:=World.block_lt_of_cell? _ _ z0;clear h hin e HW hB
  go_enter Tryz.func15,Tryz.ntmps15
  go_upto_region 1 with fail
  rw[<-hW];clear hW
  go_wp2_with fail
  refine HH.mono ?_;rintro e w1 ⟨rfl,hw⟩;subst w1
  go_wp2_with fail
  refine A (v:=kN #[.agg #[I J Pg.Wk.off.q,I J Pg.Wk.off.k,o Pg.Wk.off.u],o Pg.Wk.off.on]) ?_ rfl ⟨rfl,?_⟩
  ·simp[results,Tryz.results15,go_sem,z0,z1,z2,hs,Pg.Wk.off]
  ·exact xX HB.out _ (kC _) _ _ _
theorem yaj (w:m) (h:Dsk w b D X):kI Q 17 #[Z (E ⟨b,0,P⟩)] w fun e w'=>∃ad cap,e=V (kR ad X.maps.length cap)/\xx w' ad X.maps/\Below w.heap.size w w'/\∀g,ad=E ⟨g,0,P⟩->w.heap.size<=g:=by
 have c0:=h.c0;have c1:=h.c1;have HL:=yec 0 w.drew (h.grow (xj w)).mem;have HDR:O (Below w.heap.size w w.drew):=xj w;have hlb:b<w.heap.size:=h.lb;have EM:O (X.maps=if (Pg.thr X.S Pg.zW 3 0 0).2=0 then Pg.zM (Pg.thr X.S Pg.zW 3 0 0).1 else []):=rfl;generalize X.maps=M at*;generalize Pg.thr X.S Pg.zW 3 0 0=th at*;clear h
 go_enter Tryz.func17,Tryz.ntmps17
 go_wp2_with fail
 go_region_held3 (fun w'=>w'.cell? ⟨b,0,P⟩=E (Z (E ⟨D.bm,0,P⟩))/\w'.cell? ⟨b,1,P⟩=E (I J 0)) (go_keep) (
  (go_at_call 64;refine HL.mono ?_;rintro en w4 ⟨ad,cap,L,rfl,eL,hA,hN,hb0⟩
   have hb:Below w.heap.size w w4:=zT HDR.out hb0;have u0:w4.cell? ⟨b,0,P⟩=E (Z (E ⟨D.bm,0,P⟩)):=(hb.cell (p:=⟨b,0,P⟩) hlb).trans c0;have u1:w4.cell? ⟨b,1,P⟩=E (I J 0):=(hb.cell (p:=⟨b,1,P⟩) hlb).trans c1;have HF:O ((L=M)/\xx w4 ad L/\Below w.heap.size w w4/\∀g,ad=E ⟨g,0,P⟩->w.heap.size<=g):=⟨eL.trans EM.out.symm,hA,hb,hN⟩
   clear eL hA hN hb hb0))
 all_goals
  go_wp2_with fail
  go_ret
  obtain⟨rfl,h1,h2,h3⟩:=HF.out;exact⟨ad,cap,rfl,by first|exact h1|exact h1.below (zR _).drew,by first|exact h2|exact h2.drew,h3⟩
theorem ybd (w:m) (h:Dsk w b D X):kI Q 19 #[Z (E ⟨b,0,P⟩)] w fun e w'=>∃ad cap,e=V (kR ad X.tabs.length cap)/\zh w' ad X.tabs/\X.tabs.length<=cap/\Below w.heap.size w w':=by
 have c0:=h.c0;have c1:=h.c1;have HL:=yco 0 w.drew (h.grow (xj w)).mem;have HDR:O (Below w.heap.size w w.drew):=xj w;have hlb:b<w.heap.size:=h.lb;have EM:O (X.tabs=if (Pg.thr X.S Pg.zW 3 0 0).2=0 then 0::Pg.zU (Pg.thr X.S Pg.zW 3 0 0).1 else []):=rfl;generalize X.tabs=M at*;generalize Pg.thr X.S Pg.zW 3 0 0=th at*;clear h
 go_enter Tryz.func19,Tryz.ntmps19
 go_wp2_with fail
 go_region_held3 (fun w'=>w'.cell? ⟨b,0,P⟩=E (Z (E ⟨D.bm,0,P⟩))/\w'.cell? ⟨b,1,P⟩=E (I J 0)) (go_keep) (
  (go_at_call 65;refine HL.mono ?_;rintro en w4 ⟨ad,cap,L,rfl,eL,hA,hN,hb0⟩
   have hb:Below w.heap.size w w4:=zT HDR.out hb0;have u0:w4.cell? ⟨b,0,P⟩=E (Z (E ⟨D.bm,0,P⟩)):=(hb.cell (p:=⟨b,0,P⟩) hlb).trans c0;have u1:w4.cell? ⟨b,1,P⟩=E (I J 0):=(hb.cell (p:=⟨b,1,P⟩) hlb).trans c1;have HF:O ((L=M)/\zh w4 ad L/\Below w.heap.size w w4/\L.length<=cap):=⟨eL.trans EM.out.symm,hA,hb,hN⟩
   clear eL hA hN hb hb0))
 all_goals
  go_wp2_with fail
  go_ret
  obtain⟨rfl,h1,h2,h3⟩:=HF.out;exact⟨ad,cap,rfl,by first|exact h1|exact h1.below (zR _).drew,h3,by first|exact h2|exact h2.drew⟩
end
theorem Pg.yhN:∀(G:List Int) (x:Int) (S:Pg.Fs),Pg.gives (G++[x]) S=(Pg.gives G S).give x
 | [],x,S=>rfl
 | y::G,x,S=>Pg.yhN G x (S.give y)
theorem Pg.gives_upto (G:List Int) (S:Pg.Fs) {t:Nat} (ht:t<G.length):Pg.gives (G.take (t+1)) S=(Pg.gives (G.take t) S).give (G.getD t 0):=by
 rw[show G.take (t+1)=G.take t++[G.getD t 0]from by rw[List.take_succ_eq_append_getElem ht];simp[List.getD,ht],Pg.yhN]
theorem ybM (w:m) (r:Nat) (x0 x1 x2 x3 x4 x5:Value):But (fun x=>x=r) w ((((((w.setCell ⟨r,0,P⟩ x0).setCell ⟨r,1,P⟩ x1).setCell ⟨r,2,P⟩ x2).setCell ⟨r,3,P⟩ x3).setCell ⟨r,4,P⟩ x4).setCell ⟨r,5,P⟩ x5):=qB (But.refl (fun x=>x=r) w) r (.inr rfl) _ _ _ _ _ _
structure ze (w:m) (b:Nat) (D:Dsd) (X X':Pg.Spc) (w':m):Prop where
 ex:∃D',Dsk w' b D' X'/\But (dsF D b X.C.length X.G) w w'/\∀x,dsF D' b X'.C.length X'.G x->dsF D b X.C.length X.G x\/w.heap.size<=x
section
variable {w w' W W' Wf:m} {b:Nat} {D D':Dsd} {X X' X'':Pg.Spc}
theorem ze.same (h:Dsk w b D X) (hb:Below w.heap.size w w'):ze w b D X X w':=⟨D,h.grow hb,But.ygr hb,fun x hx=> .inl hx⟩
theorem ze.behind {Y:Nat->Prop} (hB:Below w.heap.size w W) (h:ze W b D X X' W') (lt:∀x,dsF D b X.C.length X.G x->x<w.heap.size) (hY:∀x,Y x->w.heap.size<=x/\x<W.heap.size) (hb:But Y W' Wf):ze w b D X X' Wf:=by
 obtain⟨D',h1,h3,h4⟩:=h;refine⟨D',h1.keep hb (fun x hx hy=> ?_),((But.ygr hB).trans h3 (fun _ _ h=>h)).trans hb (fun x hx hy=>by have:=hY x hy;omega),fun x hx=>(h4 x hx).imp id (fun h=>by have:=hB.size;omega)⟩;have:=hY x hy;rcases h4 x hx with h|h
 ·have:=lt x h
  omega
 ·omega
theorem ze.block (h:ze W b D X X' W') (lt:∀x,dsF D b X.C.length X.G x->x<w.heap.size) {r:Nat} (h1:w.heap.size<=r) (h2:r<W.heap.size):W'.heap[r]?=W.heap[r]?/\r<W'.heap.size:=by
 obtain⟨D',_,h3,_⟩:=h;exact⟨h3.block r h2 (fun e=>by have:=lt r e;omega),R h2 h3.size⟩
theorem ze.next (h3:But (dsF D b X.C.length X.G) w W) (h4:∀x,dsF D' b X'.C.length X'.G x->dsF D b X.C.length X.G x\/w.heap.size<=x) (h':ze W b D' X' X'' Wf):ze w b D X X'' Wf:=by
 obtain⟨D'',k1,k3,k4⟩:=h';refine⟨D'',k1,h3.trans k3 (fun x hx e=> ?_),fun x hx=> ?_⟩
 ·rcases h4 x e with h|h
  ·exact h
  ·omega
 ·have:=h3.size
  rcases k4 x hx with h|h
  ·exact h4 x h
  ·exact .inr (by omega)
end
theorem Dsk.owns {w:m} {b:Nat} {D:Dsd} {X:Pg.Spc} (h:Dsk w b D X):∀x,dsF D b X.C.length X.G x->x<w.heap.size:=fun x ⟨i,hx⟩=>h.lt hx
theorem ycR {b:Nat} {D:Dsd} {X:Pg.Spc} (w:m) (h:Dsk w b D X):
 kI Q 149 #[Z (E ⟨b,0,P⟩)] w fun e w'=>e=V (kN #[])/\ze w b D X {X with S:=Pg.gives X.G X.S,G:=[]} w':=by
 have c4:=h.c4;have HX:O _:=h;have hfew:=h.few;clear h
 go_enter Tryz.func149,Tryz.ntmps149
 go_wp2_with fail
 go_loopw [9,3] (fun i _ wq=>∃t:Nat,t<=X.G.length/\i=I J t/\O (∃FM,Dsk wq b {D with FM:=FM} {X with S:=Pg.gives (X.G.take t) X.S}/\But (dsF D b X.C.length X.G) w wq/\∀x,dsF {D with FM:=FM} b X.C.length X.G x->dsF D b X.C.length X.G x\/w.heap.size<=x)) (fun i _ _=>X.G.length-(intOf i).toNat)
 case atStart=>exact⟨0,by omega,rfl,⟨D.FM,HX.out,But.refl _ _,fun x hx=> .inl hx⟩⟩
 case round=>
  obtain⟨t,ht,rfl,HR⟩:=hrel;obtain⟨FM,hd,hb,hF⟩:=HR.out;have HD:O _:=hd;have HB:O _:=hb;have HF:O _:=hF;clear HR hd hb hF c4
  have i0:(0:Int)<=(t:Int):=by omega
  by_cases hlt:t<X.G.length
  ·have i1:(t:Int)<(X.G.length:Int):=by omega
   have k4:=HD.out.c4;have k0:=HD.out.c0;obtain⟨g,eg,hgl,hgc⟩:=HD.out.gone t hlt;simp only at eg k4 k0 hgc;rw[eg]at k4;have HG:=ycV (X.G.getD t 0) wr HD.out.mem;simp only at HG;rw[<-Pg.gives_upto X.G X.S hlt]at HG;generalize X.G.getD t 0=gv at*;generalize (Pg.gives (X.G.take t) X.S).has gv=hv at*;rw[eg]
   go_wp2_with fail
   refine HG.mono ?_;rintro e w2 ⟨rfl,FM2,hm2,hb2,hF2⟩;have D2:=HD.out.frames hm2 hb2 hF2
   have HN:O (∃FM,Dsk w2 b {D with FM:=FM} {X with S:=Pg.gives (X.G.take (t+1)) X.S}/\But (dsF D b X.C.length X.G) w w2/\∀x,dsF {D with FM:=FM} b X.C.length X.G x->dsF D b X.C.length X.G x\/w.heap.size<=x):=by
    refine⟨FM2,D2,HB.out.trans hb2 (fun x hx e=> ?_),fun x hx=> ?_⟩
    ·rcases HF.out x ⟨1,e⟩with h|h
     ·exact h
     ·omega
    ·have hs:=HB.out.size
     rcases qn (D:={D with FM:=FM}) hF2 x hx with h|h
     ·exact HF.out x h
     ·exact .inr (by omega)
   clear hm2 hb2 hF2 D2 HG HD HB HF k4 k0 hgc
   go_wp2_with fail
   go_roundw
   case rel=>exact⟨t+1,by omega,by go_num,by rw[<-eg];exact HN⟩
   case measure=>simp[intOf];omega
  ·have i1:¬(t:Int)<(X.G.length:Int):=by omega
   have et:t=X.G.length:=by omega
   subst et;have k4:=HD.out.c4;have kf:=HD.out.fb;have hl:=HD.out.lb;obtain⟨D5,B5⟩:=HD.out.goes (G:=[]) (ag:=P) (cg:=0) (fun j hj=>by simp at hj) (fun g e=>by cases e) (by simp);simp only[List.length_nil,List.take_length]at D5 B5
   have FIN:O (ze w b D X {X with S:=Pg.gives X.G X.S,G:=[]} (wr.setCell ⟨b,4,P⟩ (kR P 0 0))):=by
    refine⟨_,D5,HB.out.trans B5 (fun x hx e=>⟨0,e⟩),fun x hx=> ?_⟩;rcases yes (D:={D with FM:=FM}) (G:=X.G) (N:=w.heap.size) (fun x _ e=>absurd rfl e) x hx with h|h
    ·exact HF.out x h
    ·exact .inr h
   clear D5 B5 HD HB HF;simp only at k4
   go_wp2_with fail
   go_end0
   exact⟨rfl,FIN.out⟩
theorem ybZ {b:Nat} {root:Int} {C:Pg.Cr} {F:Nat->Prop} (w:m) (h:qg w b root C F):
 kI Q 96 #[Z (E ⟨b,0,P⟩)] w fun e w'=>e=V (if C.L=[]then Pg.Ev.code 9 else Pg.Ev.code 0).val/\∃F',qg w' b root C.yhc F'/\But F w w'/\∀k,F' k->F k\/w.heap.size<=k:=by
 obtain⟨W,hW⟩:∃W,W=w.alloc (kP #[I J 0,o U,I J 0,I J 0,I J 0,o U] 36):=⟨_,rfl⟩
 have hB:Below w.heap.size w W:=by rw[hW];exact zA (zR _) _
 have hWs:w.heap.size<W.heap.size:=by rw[hW];simp
 have RZ:O (W.heap[w.heap.size]?=E (kP #[I J 0,o U,I J 0,I J 0,I J 0,o U] 36 (0,0))):=by rw[O,hW];exact kJ _ _
 have LT:O (∀x,F x->x<w.heap.size):=fun x hx=>h.lt hx;obtain⟨bt,bk,Ft,hk,rfl⟩:=h;have HK:O _:=hk.grow hB;have HE:=vK W HK.out.tb;have k0:=HK.out.c0;have HB:O _:=hB;clear hB hk;obtain⟨L,K⟩:=C;simp only[Pg.Cr.yhc]at*
 have fin:O (∀w1 Ft' Wf,jy w1 bt 0 (L.drop 1) Ft'->But Ft W w1->(∀k,Ft' k->Ft k\/W.heap.size<=k)->But (fun x=>x=w.heap.size\/w1.heap.size<=x) w1 Wf->∃F',qg Wf b root ⟨L.drop 1,K⟩ F'/\But (crF b bk Ft) w Wf/\∀k,F' k->crF b bk Ft k\/w.heap.size<=k):=fun w1 Ft' Wf ht hb hF hf=>by
  have h1:=HK.out.stepT ht hb hF
  have own:∀k,crF b bk Ft' k->crF b bk Ft k\/W.heap.size<=k:=fun k hk=>by
   rcases hk with hk|hk|hk
   ·exact .inl (.inl hk)
   ·exact .inl (.inr (.inl hk))
   ·exact(hF k hk).imp (fun h=> .inr (.inr h)) id
  refine⟨_,⟨bt,bk,Ft',h1.keep hf (fun k hk e=> ?_),rfl⟩,((But.ygr HB.out).trans hb (fun _ _ h=> .inr (.inr h))).trans hf (fun x hx e=> ?_),fun k hk=>(own k hk).imp id (fun h=>by omega)⟩
  ·have:=h1.lt hk
   rcases own k hk with h|h
   ·have:=LT.out k h
    omega
   ·omega
  ·have:=hb.size
   omega
 cases L with
 | nil=>
   simp only[List.length_nil,List.drop_nil,Nat.lt_irrefl,decide_false,if_true]at HE fin ⊢
   go_enter Tryz.func96,Tryz.ntmps96
   go_upto_region 1 with fail
   rw[<-hW];clear hW
   go_wp2_with fail
   refine HE.mono ?_;rintro e w1 ⟨rfl,Ft',ht,hc,hF⟩;have Z1:O (w1.heap[w.heap.size]?=_):=(hc.but.block _ hWs (fun e=>by have:=LT.out _ (.inr (.inr e));omega)).trans RZ.out;have hs1:w.heap.size<w1.heap.size:=R hWs hc.but.size;have FIN:O _:=fun Wf=>fin.out w1 Ft' Wf ht hc.but hF;clear ht hc hF HE k0 fin
   go_wp2_with fail
   refine(zY 9 _).mono ?_;rintro e w2 ⟨rfl,hb2⟩;obtain⟨⟨z0,z1,z2,z3,z4,z5⟩,zf⟩:=zp ((hb2.block _ hs1).trans Z1.out);have hs2:w.heap.size<w2.heap.size:=R hs1 hb2.size;have HB2:O _:=hb2;clear hb2;simp only[Pg.Ev.val,Pg.Ev.code]
   go_wp2_with fail
   refine A (v:=(Pg.Ev.code 9).val) ?_ rfl ⟨rfl,FIN.out _ ?_⟩
   ·simp[results,Tryz.results96,go_sem,z0,z1,z2,z3,z4,z5,hs2,Pg.Ev.val,Pg.Ev.code]
   ·exact qB ((But.ygr HB2.out).mono (fun _ _ h=>h)) _ (.inr (.inl rfl)) _ _ _ _ _ _
 | cons l L=>
   simp only[List.length_cons,Nat.zero_lt_succ,decide_true,reduceCtorEq,if_false]at HE fin ⊢
   go_enter Tryz.func96,Tryz.ntmps96
   go_upto_region 1 with fail
   rw[<-hW];clear hW
   go_wp2_with fail
   refine HE.mono ?_;rintro e w1 ⟨rfl,Ft',ht,hc,hF⟩;have Z1:O (w1.heap[w.heap.size]?=_):=(hc.but.block _ hWs (fun e=>by have:=LT.out _ (.inr (.inr e));omega)).trans RZ.out;have hs1:w.heap.size<w1.heap.size:=R hWs hc.but.size;have FIN:O _:=fun Wf=>fin.out w1 Ft' Wf ht hc.but hF;clear ht hc hF HE k0 fin;obtain⟨⟨z0,z1,z2,z3,z4,z5⟩,zf⟩:=zp Z1.out
   go_wp2_with fail
   refine A (v:=(Pg.Ev.code 0).val) ?_ rfl ⟨rfl,FIN.out _ ?_⟩
   ·simp[results,Tryz.results96,go_sem,z0,z1,z2,z3,z4,z5,hs1,Pg.Ev.val,Pg.Ev.code]
   ·exact qB (But.refl _ _) _ (.inr (.inl rfl)) _ _ _ _ _ _
def Pg.Spc.tld (X:Pg.Spc) (k:Nat):Pg.Spc:={X with C:=X.C.set k ((X.C.getD k Pg.Cr.new).told 0 X.T),W:=X.W.set k U}
theorem yeL {w:m} {r:Nat} {v0 v1 v2 v3:Value} {t:TypeId} (h:w.heap[r]?=E (kP #[v0,v1,v2,v3] t (0,0))):
 (w.cell? ⟨r,0,P⟩=E v0/\w.cell? ⟨r,1,P⟩=E v1/\w.cell? ⟨r,2,P⟩=E v2/\w.cell? ⟨r,3,P⟩=E v3)/\∀i,w.frozen? ⟨r,i,P⟩=U:=
 ⟨by simp[World.cell?,h],fun i=>by simp[World.frozen?,h]⟩
theorem ycM {b:Nat} {D:Dsd} {X:Pg.Spc} {k:Nat} (hk:k<X.C.length) (hw:X.W.getD k U=U) (w:m) (h:Dsk w b D X):
 kI Q 95 #[Z (E ⟨b,0,P⟩),I J (k:Int)] w fun e w'=>e=V (Pg.Ev.code 9).val/\Below w.heap.size w w':=by
 obtain⟨W,hW⟩:∃W,W=w.alloc (kP #[I J 0,o U,I J 0,I J 0,I J 0,o U] 36):=⟨_,rfl⟩
 have hB:Below w.heap.size w W:=by rw[hW];exact zA (zR _) _
 have hWs:w.heap.size<W.heap.size:=by rw[hW];simp
 have RZ:O (W.heap[w.heap.size]?=E (kP #[I J 0,o U,I J 0,I J 0,I J 0,o U] 36 (0,0))):=by rw[O,hW];exact kJ _ _
 have HW:=h.grow hB;have c3:=HW.c3;have HA:=yeS (k:Int) W HW.tl (by unfold Pg.ygO;simp only[B];rw[hw];simp);simp only[Pg.Mp.val,Pg.Mp.zz]at HA;have HB:O _:=hB;clear h HW hw hB
 go_enter Tryz.func95,Tryz.ntmps95
 go_upto_region 1 with fail
 rw[<-hW];clear hW
 go_wp2_with fail
 refine HA.mono ?_;rintro e w1 ⟨rfl,hb1⟩;have HB1:O (Below w.heap.size w w1):=zT HB.out hb1;have Z1:O (w1.heap[w.heap.size]?=_):=(hb1.block _ hWs).trans RZ.out;have hs1:w.heap.size<w1.heap.size:=R hWs hb1.size;clear hb1 HA c3
 go_wp2_with fail
 refine(zY 9 _).mono ?_;rintro e w2 ⟨rfl,hb2⟩;have hb3:=zA (zR w1) (kP #[I J 0,I J 0,I J 0,I J 0] 39);obtain⟨⟨z0,z1,z2,z3,z4,z5⟩,zf⟩:=zp ((hb2.block _ (by simp;omega)).trans ((hb3.block _ hs1).trans Z1.out))
 have hs2:w.heap.size<w2.heap.size:=by have:=hb2.size;simp at this;omega
 have HB2:O (Below w.heap.size w w2):=zT (zT HB1.out hb3) hb2;clear hb2 hb3;simp only[Pg.Ev.val,Pg.Ev.code]
 go_wp2_with fail
 refine A (v:=(Pg.Ev.code 9).val) ?_ rfl ⟨rfl,?_⟩
 ·simp[results,Tryz.results95,go_sem,z0,z1,z2,z3,z4,z5,hs2,Pg.Ev.val,Pg.Ev.code]
 ·exact jj HB2.out _ (kC _) _ _ _ _ _ _
theorem ycN {b:Nat} {D:Dsd} {X:Pg.Spc} {k:Nat} (hk:k<X.C.length) (hw:X.W.getD k U=kY) (w:m) (h:Dsk w b D X):
 kI Q 95 #[Z (E ⟨b,0,P⟩),I J (k:Int)] w fun e w'=>e=V (X.akE k).val/\ze w b D X (X.akN k) w':=by
 obtain⟨W,hW⟩:∃W,W=w.alloc (kP #[I J 0,o U,I J 0,I J 0,I J 0,o U] 36):=⟨_,rfl⟩
 have hB:Below w.heap.size w W:=by rw[hW];exact zA (zR _) _
 have hWs:W.heap.size=w.heap.size+1:=by rw[hW];simp
 have RZ:O (W.heap[w.heap.size]?=E (kP #[I J 0,o U,I J 0,I J 0,I J 0,o U] 36 (0,0))):=by rw[O,hW];exact kJ _ _
 have LT:O (∀x,dsF D b X.C.length X.G x->x<w.heap.size):=h.owns;have HW:O _:=h.grow hB;have c3:=HW.out.c3
 have hk4:k<4:=by have:=h.le;omega
 have HA:=yd4 k W HW.out.tl hk4 hw;rw[Pg.ack_waits' (by rw[h.len];exact hk)]at HA;have HWK:O (X.W.getD k U=kY):=hw;have HLN:O (X.W.length=X.C.length):=h.len;have HFT:O (Pg.fits X.T.p):=h.told;have HB:O _:=hB;clear h hw hB;simp only[Pg.Mp.val]at HA
 go_enter Tryz.func95,Tryz.ntmps95
 go_upto_region 1 with fail
 rw[<-hW];clear hW
 go_wp2_with fail
 refine HA.mono ?_;rintro e w1 ⟨rfl,hs1,hb1⟩;have P1:O (Dsk w1 b D {X with W:=X.W.set k U}):=HW.out.shot hs1 hb1 (by rw[List.length_set];exact HLN.out) HFT.out;have hgw:D.bs<w.heap.size:=LT.out _ ⟨3,rfl⟩;have Z1:O (w1.heap[w.heap.size]?=_):=(hb1.block _ (by omega) (fun e=>by omega)).trans RZ.out;have B1:O (But (dsF D b X.C.length X.G) W w1):=hb1.mono (fun x _ e=>⟨3,e⟩)
 have hz1:w.heap.size<w1.heap.size:=by have:=hb1.size;omega
 clear hs1 hb1 HA c3 HW;obtain⟨W2,hW2⟩:∃W2,W2=w1.alloc (kP #[I J X.T.p,I J X.T.s,I J X.T.f,I J X.T.r] 39):=⟨_,rfl⟩
 have hb2:Below w1.heap.size w1 W2:=by rw[hW2];exact zA (zR _) _
 have P2:O _:=P1.out.grow hb2;have Z2:O (W2.heap[w.heap.size]?=_):=(hb2.block _ hz1).trans Z1.out;have B2:O (But (dsF D b X.C.length X.G) W W2):=B1.out.trans (But.ygr (F:=fun _=>False) hb2) (fun _ _ h=>h.elim);have hz2:w.heap.size<W2.heap.size:=R hz1 hb2.size;obtain⟨⟨m0,m1,m2,m3⟩,mf⟩:=yeL (show W2.heap[w1.heap.size]?=E (kP #[I J X.T.p,I J X.T.s,I J X.T.f,I J X.T.r] 39 (0,0)) by rw[hW2];exact kJ _ _);have q0:=H m0;have q1:=H m1;have q2:=H m2;have q3:=H m3;have g2:=H P2.out.c2;have gk:=H (P2.out.row k hk);simp only at g2 gk
 have i0:(0:Int)<=(k:Int):=by omega
 have i1:(k:Int)<(X.C.length:Int):=by omega
 go_upto_region 4 with fail
 rw[<-hW2];clear hW2 hb2 P1 Z1 B1 hz1 m0 m1 m2 m3 mf;generalize w1.heap.size=mb at*;refine Loose.ygt 8 (by kernel_rfl) (by kernel_rfl) ?_;simp only[List.take_succ_cons,List.take_zero,List.drop_succ_cons,List.drop_zero]
 repeat (
  refine Loose.zS (fun k hk=> ?_)
  go_simp
  (refine hk _ ?_;clear hk k))
 refine Loose.ygs ?_;intro w3 hb3;have P3:O _:=P2.out.grow hb3;have Z3:O (w3.heap[w.heap.size]?=_):=(hb3.block _ hz2).trans Z2.out;have B3:O (But (dsF D b X.C.length X.G) W w3):=B2.out.trans (But.ygr (F:=fun _=>False) hb3) (fun _ _ h=>h.elim);have hz3:w.heap.size<w3.heap.size:=R hz2 hb3.size;have HT:=ycL X.T HFT.out w3 (P3.out.core k hk);simp only[Pg.Mp.val]at HT;clear hb3 q0 q1 q2 q3 g2 gk P2 Z2 B2 hz2
 go_wp2_with fail
 refine HT.mono ?_;rintro e w4 ⟨rfl,Fc,hc4,hb4,hF4⟩;have hb4':But (D.cF k) w3 w4:=hb4;have n4:(X.tld k).C.length=X.C.length:=List.length_set
 have D4:O (ze W b D X (X.tld k) w4):=by
  refine⟨_,P3.out.asked hk hc4 hb4 hF4,B3.out.trans hb4 (fun x _ e=>⟨k+5,hk,e⟩),fun x hx=> ?_⟩;rw[n4]at hx;exact(ya6 hk hF4 x hx).imp id (fun h=>by have:=B3.out.size;omega)
 have Z4:O (w4.heap[w.heap.size]?=_):=(hb4.block _ hz3 (fun e=>by have:=LT.out _ ⟨k+5,hk,e⟩;omega)).trans Z3.out;have hz4:w.heap.size<w4.heap.size:=R hz3 hb4.size;obtain⟨D',P4,B4,F4⟩:=D4.out;have P4:O _:=P4;have B4:O _:=B4;have F4:O _:=F4;have HBU:=xW w4 P4.out;have eb:(X.tld k).busy=(X.W.set k U).any id:=rfl;rw[eb]at HBU;clear hc4 hb4 hF4 HT P3 B3 Z3 hz3;cases hany:(X.W.set k U).any id
 ·rw[hany]at HBU
  have eE:X.akE k=⟨0,U,0,0,0,kY⟩:=by
   unfold Pg.Spc.akE;rw[B,if_neg (by rw[HWK.out];decide),if_neg (by rw[hany];decide)]
  have eN:X.akN k={X.tld k with S:=Pg.gives X.G X.S,G:=[]}:=by
   unfold Pg.Spc.akN;rw[B,if_neg (by rw[HWK.out];decide),if_neg (by rw[hany];decide)];unfold Pg.Spc.tld Pg.Spc.at';rw[B]
  have HE:O _:=eE;have HN:O _:=eN;have HG:=ycR w4 P4.out;clear eE eN hany
  go_wp2_with fail
  refine HBU.mono ?_;rintro e w5 ⟨rfl,hw5⟩;subst w5
  go_wp2_with fail
  refine HG.mono ?_;rintro e w6 ⟨rfl,d6⟩;have D6:O (ze W b D X {X.tld k with S:=Pg.gives X.G X.S,G:=[]} w6):=ze.next B4.out F4.out d6;obtain⟨e6,hz6⟩:=D6.out.block (w:=w) LT.out (kC _) (by omega);obtain⟨⟨z0,z1,z2,z3,z4,z5⟩,zf⟩:=zp (e6.trans RZ.out)
  have FIN:O (∀Wf,But (fun x=>x=w.heap.size) w6 Wf->ze w b D X (X.akN k) Wf):=fun Wf hb=>by
   rw[HN.out];exact D6.out.behind HB.out LT.out (fun x e=>by omega) hb
  clear d6 HG HBU e6 D6 D4 Z4 P4 B4 F4
  go_wp2_with fail
  refine A (v:=(X.akE k).val) ?_ rfl ⟨rfl,FIN.out _ ?_⟩
  ·simp[results,Tryz.results95,go_sem,z0,z1,z2,z3,z4,z5,hz6,Pg.Ev.val,HE.out]
  ·exact ybM _ _ _ _ _ _ _ _
 ·rw[hany]at HBU
  have eE:X.akE k= .code 0:=by
   unfold Pg.Spc.akE;rw[B,if_neg (by rw[HWK.out];decide),if_pos hany]
  have eN:X.akN k=X.tld k:=by
   unfold Pg.Spc.akN;rw[B,if_neg (by rw[HWK.out];decide),if_pos hany];unfold Pg.Spc.tld Pg.Spc.at';rw[B]
  have HE:O _:=eE;have HN:O _:=eN;clear eE eN hany
  go_wp2_with fail
  refine HBU.mono ?_;rintro e w5 ⟨rfl,hw5⟩;subst w5;obtain⟨⟨z0,z1,z2,z3,z4,z5⟩,zf⟩:=zp Z4.out
  have FIN:O (∀Wf,But (fun x=>x=w.heap.size) w4 Wf->ze w b D X (X.akN k) Wf):=fun Wf hb=>by
   rw[HN.out];exact D4.out.behind HB.out LT.out (fun x e=>by omega) hb
  clear HBU D4 P4 B4 F4
  go_wp2_with fail
  refine A (v:=(X.akE k).val) ?_ rfl ⟨rfl,FIN.out _ ?_⟩
  ·simp[results,Tryz.results95,go_sem,z0,z1,z2,z3,z4,z5,hz4,Pg.Ev.val,Pg.Ev.code,HE.out]
  ·exact ybM _ _ _ _ _ _ _ _
theorem ydt {b:Nat} {D:Dsd} {X:Pg.Spc} {k:Nat} (hk:k<X.C.length) (w:m) (h:Dsk w b D X):
 kI Q 95 #[Z (E ⟨b,0,P⟩),I J (k:Int)] w fun e w'=>e=V (X.akE k).val/\ze w b D X (X.akN k) w':=by
 cases hw:X.W.getD k U
 ·have e1:X.akE k= .code 9:=by unfold Pg.Spc.akE;rw[B,if_pos hw]
  have e2:X.akN k=X:=by unfold Pg.Spc.akN;rw[B,if_pos hw]
  rw[e1,e2];refine(ycM hk hw w h).mono ?_;rintro e w' ⟨rfl,hb⟩;exact⟨rfl,.same h hb⟩
 ·exact ycN hk hw w h
end
end Go.Proofs.YtdphiompijbelaaGreat
