import Derived.Test.YtdphiompijbelaaGreatDoorDkZ
set_option linter.all false
set_option maxRecDepth 100000
open Go.Obj renaming cells->kN
open Go.World renaming cell?_of_block->kB,frozen?_of_block->kR,cell?_setCell_other->kF,cell?_setCell_same->kV,block_lt_of_cell?->kZ,frozen?_setCell->kK
open Go renaming World->kJ,bodyPost_ret->kS,cell_regrown->kC,heap_alloc_new->kY,Calls->kT,Value->kX
open Go.Proofs.Tryz renaming prog->A
open Go.Ending renaming returned->E
open Nat renaming lt_of_lt_of_le->O,le_trans->kU,le_refl->kO
open Go.RowKit renaming Hid->U
open Int renaming toNat_natCast->Z,eq_ofNat_of_zero_le->kQ
open Bool renaming false->Q,true->kM
open Go.Value renaming int->R,slice->H,pointer->m,bool->kI,ownBlock->kP,tuple->kE,slice->kD,int->kA,agg->kH
open Go.IntKind renaming i64->J
open Option renaming none->I,some->V
set_option maxHeartbeats 2000000
namespace Go.Proofs.YtdphiompijbelaaGreatDoor
open Go.RowKit Go.Sort
section
attribute [local go_sem] Loose.gent
theorem xb (w:kJ):Below w.heap.size w w.drew:=(zR w).drew
theorem zX (c:Int) (w:kJ):kT A 155 #[R J c] w fun e w'=>e=E (Pg.Ev.code c).val/\Below w.heap.size w w':=by
 go_enter Tryz.func155,Tryz.ntmps155
 go_wp2_with fail
 refine kS (v:=(Pg.Ev.code c).val) ?_ rfl ⟨rfl,?_⟩
 ·simp[results,Tryz.results155,go_sem,Pg.Ev.val,Pg.Ev.code]
 ·exact zA (zR w) _
theorem jp (a f r c:Int) (en:Bool) (w:kJ):kT A 183 #[kH #[R J a,R J f,R J r],kI en,R J c] w fun e w'=>e=E (Pg.Ev.val ⟨c,en,a,f,r,Q⟩)/\Below w.heap.size w w':=by
 go_enter Tryz.func183,Tryz.ntmps183
 go_wp2_with fail
 refine kS (v:=(Pg.Ev.val ⟨c,en,a,f,r,Q⟩)) ?_ rfl ⟨rfl,?_⟩
 ·simp[results,Tryz.results183,go_sem,Pg.Ev.val]
 ·exact zA (zA (zR w) _) _
section
variable {b:Nat} {D:Dsd} {X:Pg.Spc}
theorem xB (k:Int) (w:kJ) (h:Dsk w b D X):kT A 111 #[m (V ⟨b,0,I⟩),R J k] w fun e w'=>e=E (kI (decide (0<=k)&&decide (k<(X.C.length:Int))))/\w'=w:=by
 have c2:=h.c2;clear h
 by_cases h0:0<=k
 ·have d0:decide (0<=k)=kM:=by simpa using h0
  go_enter Tryz.func111,Tryz.ntmps111
  go_wp2_with fail
  go_ret
  exact⟨by simp[h0],rfl⟩
 ·have d0:decide (0<=k)=Q:=by simpa using h0
  go_enter Tryz.func111,Tryz.ntmps111
  go_wp2_with fail
  go_ret
  exact⟨by simp[h0],rfl⟩
theorem xN (w:kJ) (h:Dsk w b D X):kT A 178 #[m (V ⟨b,0,I⟩)] w fun e w'=>e=E (kI X.busy)/\w'=w:=by
 have c3:=h.c3;have HO:=yaA w h.tl;rw[Pg.ykz (by rw[h.len];exact h.le)]at HO;unfold Pg.Spc.busy;generalize X.W.any id=z at*;clear h
 go_enter Tryz.func178,Tryz.ntmps178
 go_wp2_with fail
 refine HO.mono ?_;rintro e w1 ⟨rfl,hw⟩;subst w1
 go_wp2_with fail
 go_ret
 exact⟨by simp,rfl⟩
theorem yao (w:kJ) (h:Dsk w b D X):kT A 75 #[m (V ⟨b,0,I⟩)] w fun e w'=>e=E (R J X.S.free)/\Below w.heap.size w w':=by
 have c0:=h.c0;have HO:=yat w h.mem;clear h
 go_enter Tryz.func75,Tryz.ntmps75
 go_wp2_with fail
 refine HO.mono ?_;rintro e w1 ⟨rfl,hb⟩;have HB:U _:=hb;clear hb
 go_wp2_with fail
 go_ret
 exact⟨rfl,HB.out⟩
theorem vh (w:kJ) (h:Dsk w b D X):kT A 147 #[m (V ⟨b,0,I⟩)] w fun e w'=>e=E (R J X.C.length)/\w'=w:=by
 have c2:=h.c2;clear h
 go_enter Tryz.func147,Tryz.ntmps147
 go_wp2_with fail
 go_ret
 exact⟨rfl,rfl⟩
theorem yb8 (k:Int) (w:kJ) (h:Dsk w b D X):kT A 148 #[m (V ⟨b,0,I⟩),R J k] w fun e w'=>e=E (kI (X.waitsOf k))/\w'=w:=by
 have c3:=h.c3;have HO:=jl k w h.tl
 have e:Pg.yhY (fun k=>X.W.getD k Q) k=X.waitsOf k:=by
  unfold Pg.yhY Pg.Spc.waitsOf
  by_cases h0:0<=k
  ·by_cases h4:k<4
   ·simp[h0,h4]
   ·have hl:=h.len
    have h5:=h.le
    have:X.W.length<=k.toNat:=by omega
    rw[List.getD,List.getElem?_eq_none this];simp[h0,h4]
  ·simp[h0]
 rw[e]at HO;generalize X.waitsOf k=z at*;clear h e
 go_enter Tryz.func148,Tryz.ntmps148
 go_wp2_with fail
 refine HO.mono ?_;rintro e w1 ⟨rfl,hw⟩;subst w1
 go_wp2_with fail
 go_ret
 exact⟨rfl,rfl⟩
theorem yfP (k:Int) (w:kJ) (h:Dsk w b D X):kT A 71 #[m (V ⟨b,0,I⟩),R J k] w fun e w'=>∃ad cap,e=E (H ad (X.linesOf k).length cap)/\xC w' ad (X.linesOf k)/\Below w.heap.size w w':=by
 have HH:=xB k w h
 by_cases hin:0<=k/\k<(X.C.length:Int)
 ·obtain⟨n,rfl⟩:=kQ hin.1
  have hl:n<X.C.length:=by omega
  have e:X.linesOf (n:Int)=(X.C.getD n Pg.Cr.new).L:=by unfold Pg.Spc.linesOf;rw[if_pos hin.1,Z]
  rw[e];rw[show(decide (0<=(n:Int))&&decide ((n:Int)<(X.C.length:Int)))=kM by simp[hl]]at HH;obtain⟨bt,bk,Ft,hC,_⟩:=h.core n hl;have HO:=yaD w hC.tb;have c2:=h.c2;have cr:=h.row n hl;have k0:=hC.c0
  have i0:(0:Int)<=(n:Int):=by omega
  have i1:(n:Int)<(X.C.length:Int):=by omega
  generalize (X.C.getD n Pg.Cr.new).L=L at*;clear h hC hin e
  go_enter Tryz.func71,Tryz.ntmps71
  go_wp2_with fail
  refine HH.mono ?_;rintro e w1 ⟨rfl,hw⟩;subst w1
  go_wp2_with fail
  refine HO.mono ?_;rintro e w1 ⟨ad,cap,rfl,hA,hb,_⟩;have HF:U (xC w1 ad L/\Below w.heap.size w w1):=⟨hA,hb⟩;clear hA hb HO
  go_wp2_with fail
  go_ret
  exact⟨ad,cap,rfl,HF.out.1,HF.out.2⟩
 ·have e:X.linesOf k=[]:=by
   unfold Pg.Spc.linesOf;split
   ·have:X.C.length<=k.toNat:=by omega
    simp[List.getD,this,Pg.Cr.new]
   ·rfl
  rw[e];rw[show(decide (0<=k)&&decide (k<(X.C.length:Int)))=Q by simp;omega]at HH;clear h hin e
  go_enter Tryz.func71,Tryz.ntmps71
  go_wp2_with fail
  refine HH.mono ?_;rintro e w1 ⟨rfl,hw⟩;subst w1
  go_wp2_with fail
  go_ret
  exact⟨I,0,rfl,fun j hj=>by simp at hj,zR w⟩
theorem yeN (k:Int) (w:kJ) (h:Dsk w b D X):kT A 177 #[m (V ⟨b,0,I⟩),R J k] w fun e w'=>e=E (kE #[kH #[R J (X.walkOf k).q,R J (X.walkOf k).k,kI (X.walkOf k).u],kI (X.walkOf k).on])/\Below w.heap.size w w':=by
 obtain⟨W,hW⟩:∃W,W=w.alloc (kN #[R J 0,R J 0,kI Q] 78):=⟨_,rfl⟩
 have hB:Below w.heap.size w W:=by rw[hW];exact zA (zR _) _
 have HW:=h.grow hB;have HH:=xB k W HW;obtain⟨⟨z0,z1,z2⟩,zf⟩:=ydn (show W.heap[w.heap.size]?=V (kN #[R J 0,R J 0,kI Q] 78 (0,0)) by rw[hW];exact kY _ _)
 by_cases hin:0<=k/\k<(X.C.length:Int)
 ·obtain⟨n,rfl⟩:=kQ hin.1
  have hl:n<X.C.length:=by omega
  have e:X.walkOf (n:Int)=(X.C.getD n Pg.Cr.new).K:=by unfold Pg.Spc.walkOf;rw[if_pos hin.1,Z]
  rw[e];rw[show(decide (0<=(n:Int))&&decide ((n:Int)<(X.C.length:Int)))=kM by simp[hl]]at HH;obtain⟨bt,bk,Ft,hC,hF⟩:=HW.core n hl;have hC2:=HW.core n hl;have HA:=fun d os=>yce _ (hC.grow (below_regrown W d os)).wk;have HO:=fun d os=>qe _ (hC2.grow (below_regrown W d os));have c2:=kC HW.c2;have cr:=kC (HW.row n hl);have k1:=kC hC.c1
  have i0:(0:Int)<=(n:Int):=by omega
  have i1:(n:Int)<(X.C.length:Int):=by omega
  have HB:U _:=hB;have hs:w.heap.size<W.heap.size:=kZ _ _ z0;generalize (X.C.getD n Pg.Cr.new).K=K at*;generalize X.C.length=cl at*;clear h hC hC2 hF hin e HW hB
  go_enter Tryz.func177,Tryz.ntmps177
  go_upto_region 1 with fail
  rw[<-hW];clear hW
  go_wp2_with fail
  refine HH.mono ?_;rintro e w1 ⟨rfl,hw⟩;subst w1
  go_upto_region 3 with fail
  refine Loose.yhn 19 (by kernel_rfl) (by kernel_rfl) ?_;simp only[List.take_succ_cons,List.take_zero,List.drop_succ_cons,List.drop_zero]
  repeat (
   refine Loose.zS (fun k hk=> ?_)
   go_simp
   first
    | (refine hk _ ?_;clear hk k)
    | (apply Exists.intro
       refine⟨fun _=> ?_,hk _ ?_⟩
       (first
         | (go_at_call 211;exact Loose.calls (HA _ _))
         | (go_at_call 212;exact Loose.yjW (HO _ _)))
       clear hk k))
  refine Loose.yho ?_;intro w3 hb3;have y0:=(hb3.cell (p:=⟨w.heap.size,0,I⟩) hs).trans z0;have y1:=(hb3.cell (p:=⟨w.heap.size,1,I⟩) hs).trans z1;have y2:=(hb3.cell (p:=⟨w.heap.size,2,I⟩) hs).trans z2;have yf:∀p,w3.frozen? ⟨w.heap.size,p,I⟩=Q:=fun p=>(hb3.frozen (p:=⟨w.heap.size,p,I⟩) hs).trans (zf p);have hs3:w.heap.size<w3.heap.size:=O hs hb3.size;have HB3:U (Below w.heap.size w w3):=zT HB.out hb3;clear hb3 z0 z1 z2 zf HA HO c2 cr k1 HH
  go_wp2_with fail
  refine kS (v:=kE #[kH #[R J K.q,R J K.k,kI K.u],kI K.on]) ?_ rfl ⟨rfl,?_⟩
  ·simp[results,Tryz.results177,go_sem,y0,y1,y2,hs3]
  ·exact xO HB3.out _ (kO _) _ _ _
 ·have e:X.walkOf k=Pg.Wk.off:=by
   unfold Pg.Spc.walkOf;split
   ·have:X.C.length<=k.toNat:=by omega
    simp[List.getD,this,Pg.Cr.new]
   ·rfl
  rw[e];rw[show(decide (0<=k)&&decide (k<(X.C.length:Int)))=Q by simp;omega]at HH;have HB:U _:=hB;have hs:w.heap.size<W.heap.size:=kZ _ _ z0;clear h hin e HW hB
  go_enter Tryz.func177,Tryz.ntmps177
  go_upto_region 1 with fail
  rw[<-hW];clear hW
  go_wp2_with fail
  refine HH.mono ?_;rintro e w1 ⟨rfl,hw⟩;subst w1
  go_wp2_with fail
  refine kS (v:=kE #[kH #[R J Pg.Wk.off.q,R J Pg.Wk.off.k,kI Pg.Wk.off.u],kI Pg.Wk.off.on]) ?_ rfl ⟨rfl,?_⟩
  ·simp[results,Tryz.results177,go_sem,z0,z1,z2,hs,Pg.Wk.off]
  ·exact xO HB.out _ (kO _) _ _ _
theorem jE (w:kJ) (h:Dsk w b D X):kT A 72 #[m (V ⟨b,0,I⟩)] w fun e w'=>∃ad cap,e=E (H ad X.maps.length cap)/\xg w' ad X.maps/\Below w.heap.size w w'/\∀g,ad=V ⟨g,0,I⟩->w.heap.size<=g:=by
 have c0:=h.c0;have c1:=h.c1;have HL:=yev 0 w.drew (h.grow (xb w)).mem;have HDR:U (Below w.heap.size w w.drew):=xb w;have hlb:b<w.heap.size:=h.lb;have EM:U (X.maps=if (Pg.thr X.S Pg.zW 3 0 0).2=0 then Pg.zM (Pg.thr X.S Pg.zW 3 0 0).1 else []):=rfl;generalize X.maps=M at*;generalize Pg.thr X.S Pg.zW 3 0 0=th at*;clear h
 go_enter Tryz.func72,Tryz.ntmps72
 go_wp2_with fail
 go_region_held3 (fun w'=>w'.cell? ⟨b,0,I⟩=V (m (V ⟨D.bm,0,I⟩))/\w'.cell? ⟨b,1,I⟩=V (R J 0)) (go_keep) (
  (go_at_call 113;refine HL.mono ?_;rintro en w4 ⟨ad,cap,L,rfl,eL,hA,hN,hb0⟩
   have hb:Below w.heap.size w w4:=zT HDR.out hb0;have u0:w4.cell? ⟨b,0,I⟩=V (m (V ⟨D.bm,0,I⟩)):=(hb.cell (p:=⟨b,0,I⟩) hlb).trans c0;have u1:w4.cell? ⟨b,1,I⟩=V (R J 0):=(hb.cell (p:=⟨b,1,I⟩) hlb).trans c1;have HF:U ((L=M)/\xg w4 ad L/\Below w.heap.size w w4/\∀g,ad=V ⟨g,0,I⟩->w.heap.size<=g):=⟨eL.trans EM.out.symm,hA,hb,hN⟩
   clear eL hA hN hb hb0))
 all_goals
  go_wp2_with fail
  go_ret
  obtain⟨rfl,h1,h2,h3⟩:=HF.out;exact⟨ad,cap,rfl,by first|exact h1|exact h1.below (zR _).drew,by first|exact h2|exact h2.drew,h3⟩
theorem jN (w:kJ) (h:Dsk w b D X):kT A 76 #[m (V ⟨b,0,I⟩)] w fun e w'=>∃ad cap,e=E (H ad X.tabs.length cap)/\zl w' ad X.tabs/\X.tabs.length<=cap/\Below w.heap.size w w':=by
 have c0:=h.c0;have c1:=h.c1;have HL:=ycy 0 w.drew (h.grow (xb w)).mem;have HDR:U (Below w.heap.size w w.drew):=xb w;have hlb:b<w.heap.size:=h.lb;have EM:U (X.tabs=if (Pg.thr X.S Pg.zW 3 0 0).2=0 then 0::Pg.zU (Pg.thr X.S Pg.zW 3 0 0).1 else []):=rfl;generalize X.tabs=M at*;generalize Pg.thr X.S Pg.zW 3 0 0=th at*;clear h
 go_enter Tryz.func76,Tryz.ntmps76
 go_wp2_with fail
 go_region_held3 (fun w'=>w'.cell? ⟨b,0,I⟩=V (m (V ⟨D.bm,0,I⟩))/\w'.cell? ⟨b,1,I⟩=V (R J 0)) (go_keep) (
  (go_at_call 118;refine HL.mono ?_;rintro en w4 ⟨ad,cap,L,rfl,eL,hA,hN,hb0⟩
   have hb:Below w.heap.size w w4:=zT HDR.out hb0;have u0:w4.cell? ⟨b,0,I⟩=V (m (V ⟨D.bm,0,I⟩)):=(hb.cell (p:=⟨b,0,I⟩) hlb).trans c0;have u1:w4.cell? ⟨b,1,I⟩=V (R J 0):=(hb.cell (p:=⟨b,1,I⟩) hlb).trans c1;have HF:U ((L=M)/\zl w4 ad L/\Below w.heap.size w w4/\L.length<=cap):=⟨eL.trans EM.out.symm,hA,hb,hN⟩
   clear eL hA hN hb hb0))
 all_goals
  go_wp2_with fail
  go_ret
  obtain⟨rfl,h1,h2,h3⟩:=HF.out;exact⟨ad,cap,rfl,by first|exact h1|exact h1.below (zR _).drew,h3,by first|exact h2|exact h2.drew⟩
end
theorem Pg.yjY:∀(G:List Int) (x:Int) (S:Pg.Fs),Pg.gives (G++[x]) S=(Pg.gives G S).give x
 | [],x,S=>rfl
 | y::G,x,S=>Pg.yjY G x (S.give y)
theorem Pg.gives_upto (G:List Int) (S:Pg.Fs) {t:Nat} (ht:t<G.length):Pg.gives (G.take (t+1)) S=(Pg.gives (G.take t) S).give (G.getD t 0):=by
 rw[show G.take (t+1)=G.take t++[G.getD t 0]from by rw[List.take_succ_eq_append_getElem ht];simp[List.getD,ht],Pg.yjY]
theorem ybT (w:kJ) (r:Nat) (x0 x1 x2 x3 x4 x5:kX):But (fun x=>x=r) w ((((((w.setCell ⟨r,0,I⟩ x0).setCell ⟨r,1,I⟩ x1).setCell ⟨r,2,I⟩ x2).setCell ⟨r,3,I⟩ x3).setCell ⟨r,4,I⟩ x4).setCell ⟨r,5,I⟩ x5):=ycx (But.refl (fun x=>x=r) w) r (.inr rfl) _ _ _ _ _ _
structure zi (w:kJ) (b:Nat) (D:Dsd) (X X':Pg.Spc) (w':kJ):Prop where
 ex:∃D',Dsk w' b D' X'/\But (dsF D b X.C.length X.G) w w'/\∀x,dsF D' b X'.C.length X'.G x->dsF D b X.C.length X.G x\/w.heap.size<=x
section
variable {w w' W W' Wf:kJ} {b:Nat} {D D':Dsd} {X X' X'':Pg.Spc}
theorem zi.same (h:Dsk w b D X) (hb:Below w.heap.size w w'):zi w b D X X w':=⟨D,h.grow hb,But.yhl hb,fun x hx=> .inl hx⟩
theorem zi.behind {Y:Nat->Prop} (hB:Below w.heap.size w W) (h:zi W b D X X' W') (lt:∀x,dsF D b X.C.length X.G x->x<w.heap.size) (hY:∀x,Y x->w.heap.size<=x/\x<W.heap.size) (hb:But Y W' Wf):zi w b D X X' Wf:=by
 obtain⟨D',h1,h3,h4⟩:=h;refine⟨D',h1.keep hb (fun x hx hy=> ?_),((But.yhl hB).trans h3 (fun _ _ h=>h)).trans hb (fun x hx hy=>by have:=hY x hy;omega),fun x hx=>(h4 x hx).imp id (fun h=>by have:=hB.size;omega)⟩;have:=hY x hy;rcases h4 x hx with h|h
 ·have:=lt x h
  omega
 ·omega
theorem zi.block (h:zi W b D X X' W') (lt:∀x,dsF D b X.C.length X.G x->x<w.heap.size) {r:Nat} (h1:w.heap.size<=r) (h2:r<W.heap.size):W'.heap[r]?=W.heap[r]?/\r<W'.heap.size:=by
 obtain⟨D',_,h3,_⟩:=h;exact⟨h3.block r h2 (fun e=>by have:=lt r e;omega),O h2 h3.size⟩
theorem zi.next (h3:But (dsF D b X.C.length X.G) w W) (h4:∀x,dsF D' b X'.C.length X'.G x->dsF D b X.C.length X.G x\/w.heap.size<=x) (h':zi W b D' X' X'' Wf):zi w b D X X'' Wf:=by
 obtain⟨D'',k1,k3,k4⟩:=h';refine⟨D'',k1,h3.trans k3 (fun x hx e=> ?_),fun x hx=> ?_⟩
 ·rcases h4 x e with h|h
  ·exact h
  ·omega
 ·have:=h3.size
  rcases k4 x hx with h|h
  ·exact h4 x h
  ·exact .inr (by omega)
end
theorem Dsk.owns {w:kJ} {b:Nat} {D:Dsd} {X:Pg.Spc} (h:Dsk w b D X):∀x,dsF D b X.C.length X.G x->x<w.heap.size:=fun x ⟨i,hx⟩=>h.lt hx
theorem yda {b:Nat} {D:Dsd} {X:Pg.Spc} (w:kJ) (h:Dsk w b D X):
 kT A 230 #[m (V ⟨b,0,I⟩)] w fun e w'=>e=E (kE #[])/\zi w b D X {X with S:=Pg.gives X.G X.S,G:=[]} w':=by
 have c4:=h.c4;have HX:U _:=h;have hfew:=h.few;clear h
 go_enter Tryz.func230,Tryz.ntmps230
 go_wp2_with fail
 go_loopw [9,3] (fun i _ wq=>∃t:Nat,t<=X.G.length/\i=R J t/\U (∃FM,Dsk wq b {D with FM:=FM} {X with S:=Pg.gives (X.G.take t) X.S}/\But (dsF D b X.C.length X.G) w wq/\∀x,dsF {D with FM:=FM} b X.C.length X.G x->dsF D b X.C.length X.G x\/w.heap.size<=x)) (fun i _ _=>X.G.length-(intOf i).toNat)
 case atStart=>exact⟨0,by omega,rfl,⟨D.FM,HX.out,But.refl _ _,fun x hx=> .inl hx⟩⟩
 case round=>
  obtain⟨t,ht,rfl,HR⟩:=hrel;obtain⟨FM,hd,hb,hF⟩:=HR.out;have HD:U _:=hd;have HB:U _:=hb;have HF:U _:=hF;clear HR hd hb hF c4
  have i0:(0:Int)<=(t:Int):=by omega
  by_cases hlt:t<X.G.length
  ·have i1:(t:Int)<(X.G.length:Int):=by omega
   have k4:=HD.out.c4;have k0:=HD.out.c0;obtain⟨g,eg,hgl,hgc⟩:=HD.out.gone t hlt;simp only at eg k4 k0 hgc;rw[eg]at k4;have HG:=ydf (X.G.getD t 0) wr HD.out.mem;simp only at HG;rw[<-Pg.gives_upto X.G X.S hlt]at HG;generalize X.G.getD t 0=gv at*;generalize (Pg.gives (X.G.take t) X.S).has gv=hv at*;rw[eg]
   go_wp2_with fail
   refine HG.mono ?_;rintro e w2 ⟨rfl,FM2,hm2,hb2,hF2⟩;have D2:=HD.out.frames hm2 hb2 hF2
   have HN:U (∃FM,Dsk w2 b {D with FM:=FM} {X with S:=Pg.gives (X.G.take (t+1)) X.S}/\But (dsF D b X.C.length X.G) w w2/\∀x,dsF {D with FM:=FM} b X.C.length X.G x->dsF D b X.C.length X.G x\/w.heap.size<=x):=by
    refine⟨FM2,D2,HB.out.trans hb2 (fun x hx e=> ?_),fun x hx=> ?_⟩
    ·rcases HF.out x ⟨1,e⟩with h|h
     ·exact h
     ·omega
    ·have hs:=HB.out.size
     rcases qg (D:={D with FM:=FM}) hF2 x hx with h|h
     ·exact HF.out x h
     ·exact .inr (by omega)
   clear hm2 hb2 hF2 D2 HG HD HB HF k4 k0 hgc
   go_wp2_with fail
   go_roundw
   case rel=>exact⟨t+1,by omega,by go_num,by rw[<-eg];exact HN⟩
   case measure=>simp[intOf];omega
  ·have i1:¬(t:Int)<(X.G.length:Int):=by omega
   have et:t=X.G.length:=by omega
   subst et;have k4:=HD.out.c4;have kf:=HD.out.fb;have hl:=HD.out.lb;obtain⟨D5,B5⟩:=HD.out.goes (G:=[]) (ag:=I) (cg:=0) (fun j hj=>by simp at hj) (fun g e=>by cases e) (by simp);simp only[List.length_nil,List.take_length]at D5 B5
   have FIN:U (zi w b D X {X with S:=Pg.gives X.G X.S,G:=[]} (wr.setCell ⟨b,4,I⟩ (H I 0 0))):=by
    refine⟨_,D5,HB.out.trans B5 (fun x hx e=>⟨0,e⟩),fun x hx=> ?_⟩;rcases yeL (D:={D with FM:=FM}) (G:=X.G) (N:=w.heap.size) (fun x _ e=>absurd rfl e) x hx with h|h
    ·exact HF.out x h
    ·exact .inr h
   clear D5 B5 HD HB HF;simp only at k4
   go_wp2_with fail
   go_end0
   exact⟨rfl,FIN.out⟩
theorem yb7 {b:Nat} {root:Int} {C:Pg.Cr} {F:Nat->Prop} (w:kJ) (h:xY w b root C F):
 kT A 187 #[m (V ⟨b,0,I⟩)] w fun e w'=>e=E (if C.L=[]then Pg.Ev.code 9 else Pg.Ev.code 0).val/\∃F',xY w' b root C.yja F'/\But F w w'/\∀k,F' k->F k\/w.heap.size<=k:=by
 obtain⟨W,hW⟩:∃W,W=w.alloc (kN #[R J 0,kI Q,R J 0,R J 0,R J 0,kI Q] 73):=⟨_,rfl⟩
 have hB:Below w.heap.size w W:=by rw[hW];exact zA (zR _) _
 have hWs:w.heap.size<W.heap.size:=by rw[hW];simp
 have RZ:U (W.heap[w.heap.size]?=V (kN #[R J 0,kI Q,R J 0,R J 0,R J 0,kI Q] 73 (0,0))):=by rw[U,hW];exact kY _ _
 have LT:U (∀x,F x->x<w.heap.size):=fun x hx=>h.lt hx;obtain⟨bt,bk,Ft,hk,rfl⟩:=h;have HK:U _:=hk.grow hB;have HE:=vH W HK.out.tb;have k0:=HK.out.c0;have HB:U _:=hB;clear hB hk;obtain⟨L,K⟩:=C;simp only[Pg.Cr.yja]at*
 have fin:U (∀w1 Ft' Wf,jy w1 bt 0 (L.drop 1) Ft'->But Ft W w1->(∀k,Ft' k->Ft k\/W.heap.size<=k)->But (fun x=>x=w.heap.size\/w1.heap.size<=x) w1 Wf->∃F',xY Wf b root ⟨L.drop 1,K⟩ F'/\But (crF b bk Ft) w Wf/\∀k,F' k->crF b bk Ft k\/w.heap.size<=k):=fun w1 Ft' Wf ht hb hF hf=>by
  have h1:=HK.out.stepT ht hb hF
  have own:∀k,crF b bk Ft' k->crF b bk Ft k\/W.heap.size<=k:=fun k hk=>by
   rcases hk with hk|hk|hk
   ·exact .inl (.inl hk)
   ·exact .inl (.inr (.inl hk))
   ·exact(hF k hk).imp (fun h=> .inr (.inr h)) id
  refine⟨_,⟨bt,bk,Ft',h1.keep hf (fun k hk e=> ?_),rfl⟩,((But.yhl HB.out).trans hb (fun _ _ h=> .inr (.inr h))).trans hf (fun x hx e=> ?_),fun k hk=>(own k hk).imp id (fun h=>by omega)⟩
  ·have:=h1.lt hk
   rcases own k hk with h|h
   ·have:=LT.out k h
    omega
   ·omega
  ·have:=hb.size
   omega
 cases L with
 | nil=>
   simp only[List.length_nil,List.drop_nil,Nat.lt_irrefl,decide_false,if_true]at HE fin ⊢
   go_enter Tryz.func187,Tryz.ntmps187
   go_upto_region 1 with fail
   rw[<-hW];clear hW
   go_wp2_with fail
   refine HE.mono ?_;rintro e w1 ⟨rfl,Ft',ht,hc,hF⟩;have Z1:U (w1.heap[w.heap.size]?=_):=(hc.but.block _ hWs (fun e=>by have:=LT.out _ (.inr (.inr e));omega)).trans RZ.out;have hs1:w.heap.size<w1.heap.size:=O hWs hc.but.size;have FIN:U _:=fun Wf=>fin.out w1 Ft' Wf ht hc.but hF;clear ht hc hF HE k0 fin
   go_wp2_with fail
   refine(zX 9 _).mono ?_;rintro e w2 ⟨rfl,hb2⟩;obtain⟨⟨z0,z1,z2,z3,z4,z5⟩,zf⟩:=z9 ((hb2.block _ hs1).trans Z1.out);have hs2:w.heap.size<w2.heap.size:=O hs1 hb2.size;have HB2:U _:=hb2;clear hb2;simp only[Pg.Ev.val,Pg.Ev.code]
   go_wp2_with fail
   refine kS (v:=(Pg.Ev.code 9).val) ?_ rfl ⟨rfl,FIN.out _ ?_⟩
   ·simp[results,Tryz.results187,go_sem,z0,z1,z2,z3,z4,z5,hs2,Pg.Ev.val,Pg.Ev.code]
   ·exact ycx ((But.yhl HB2.out).mono (fun _ _ h=>h)) _ (.inr (.inl rfl)) _ _ _ _ _ _
 | cons l L=>
   simp only[List.length_cons,Nat.zero_lt_succ,decide_true,reduceCtorEq,if_false]at HE fin ⊢
   go_enter Tryz.func187,Tryz.ntmps187
   go_upto_region 1 with fail
   rw[<-hW];clear hW
   go_wp2_with fail
   refine HE.mono ?_;rintro e w1 ⟨rfl,Ft',ht,hc,hF⟩;have Z1:U (w1.heap[w.heap.size]?=_):=(hc.but.block _ hWs (fun e=>by have:=LT.out _ (.inr (.inr e));omega)).trans RZ.out;have hs1:w.heap.size<w1.heap.size:=O hWs hc.but.size;have FIN:U _:=fun Wf=>fin.out w1 Ft' Wf ht hc.but hF;clear ht hc hF HE k0 fin;obtain⟨⟨z0,z1,z2,z3,z4,z5⟩,zf⟩:=z9 Z1.out
   go_wp2_with fail
   refine kS (v:=(Pg.Ev.code 0).val) ?_ rfl ⟨rfl,FIN.out _ ?_⟩
   ·simp[results,Tryz.results187,go_sem,z0,z1,z2,z3,z4,z5,hs1,Pg.Ev.val,Pg.Ev.code]
   ·exact ycx (But.refl _ _) _ (.inr (.inl rfl)) _ _ _ _ _ _
def Pg.Spc.tld (X:Pg.Spc) (k:Nat):Pg.Spc:={X with C:=X.C.set k ((X.C.getD k Pg.Cr.new).told 0 X.T),W:=X.W.set k Q}
theorem ye5 {w:kJ} {r:Nat} {v0 v1 v2 v3:kX} {t:TypeId} (h:w.heap[r]?=V (kN #[v0,v1,v2,v3] t (0,0))):
 (w.cell? ⟨r,0,I⟩=V v0/\w.cell? ⟨r,1,I⟩=V v1/\w.cell? ⟨r,2,I⟩=V v2/\w.cell? ⟨r,3,I⟩=V v3)/\∀i,w.frozen? ⟨r,i,I⟩=Q:=
 ⟨by simp[World.cell?,h],fun i=>by simp[World.frozen?,h]⟩
theorem yc5 {b:Nat} {D:Dsd} {X:Pg.Spc} {k:Nat} (hk:k<X.C.length) (hw:X.W.getD k Q=Q) (w:kJ) (h:Dsk w b D X):
 kT A 186 #[m (V ⟨b,0,I⟩),R J (k:Int)] w fun e w'=>e=E (Pg.Ev.code 9).val/\Below w.heap.size w w':=by
 obtain⟨W,hW⟩:∃W,W=w.alloc (kN #[R J 0,kI Q,R J 0,R J 0,R J 0,kI Q] 73):=⟨_,rfl⟩
 have hB:Below w.heap.size w W:=by rw[hW];exact zA (zR _) _
 have hWs:w.heap.size<W.heap.size:=by rw[hW];simp
 have RZ:U (W.heap[w.heap.size]?=V (kN #[R J 0,kI Q,R J 0,R J 0,R J 0,kI Q] 73 (0,0))):=by rw[U,hW];exact kY _ _
 have HW:=h.grow hB;have c3:=HW.c3;have HA:=ye9 (k:Int) W HW.tl (by unfold Pg.yhY;simp only[Z];rw[hw];simp);simp only[Pg.Mp.val,Pg.Mp.zz]at HA;have HB:U _:=hB;clear h HW hw hB
 go_enter Tryz.func186,Tryz.ntmps186
 go_upto_region 1 with fail
 rw[<-hW];clear hW
 go_wp2_with fail
 refine HA.mono ?_;rintro e w1 ⟨rfl,hb1⟩;have HB1:U (Below w.heap.size w w1):=zT HB.out hb1;have Z1:U (w1.heap[w.heap.size]?=_):=(hb1.block _ hWs).trans RZ.out;have hs1:w.heap.size<w1.heap.size:=O hWs hb1.size;clear hb1 HA c3
 go_wp2_with fail
 refine(zX 9 _).mono ?_;rintro e w2 ⟨rfl,hb2⟩;have hb3:=zA (zR w1) (kN #[R J 0,R J 0,R J 0,R J 0] 76);obtain⟨⟨z0,z1,z2,z3,z4,z5⟩,zf⟩:=z9 ((hb2.block _ (by simp;omega)).trans ((hb3.block _ hs1).trans Z1.out))
 have hs2:w.heap.size<w2.heap.size:=by have:=hb2.size;simp at this;omega
 have HB2:U (Below w.heap.size w w2):=zT (zT HB1.out hb3) hb2;clear hb2 hb3;simp only[Pg.Ev.val,Pg.Ev.code]
 go_wp2_with fail
 refine kS (v:=(Pg.Ev.code 9).val) ?_ rfl ⟨rfl,?_⟩
 ·simp[results,Tryz.results186,go_sem,z0,z1,z2,z3,z4,z5,hs2,Pg.Ev.val,Pg.Ev.code]
 ·exact ycR HB2.out _ (kO _) _ _ _ _ _ _
theorem yc6 {b:Nat} {D:Dsd} {X:Pg.Spc} {k:Nat} (hk:k<X.C.length) (hw:X.W.getD k Q=kM) (w:kJ) (h:Dsk w b D X):
 kT A 186 #[m (V ⟨b,0,I⟩),R J (k:Int)] w fun e w'=>e=E (X.akE k).val/\zi w b D X (X.akN k) w':=by
 obtain⟨W,hW⟩:∃W,W=w.alloc (kN #[R J 0,kI Q,R J 0,R J 0,R J 0,kI Q] 73):=⟨_,rfl⟩
 have hB:Below w.heap.size w W:=by rw[hW];exact zA (zR _) _
 have hWs:W.heap.size=w.heap.size+1:=by rw[hW];simp
 have RZ:U (W.heap[w.heap.size]?=V (kN #[R J 0,kI Q,R J 0,R J 0,R J 0,kI Q] 73 (0,0))):=by rw[U,hW];exact kY _ _
 have LT:U (∀x,dsF D b X.C.length X.G x->x<w.heap.size):=h.owns;have HW:U _:=h.grow hB;have c3:=HW.out.c3
 have hk4:k<4:=by have:=h.le;omega
 have HA:=yej k W HW.out.tl hk4 hw;rw[Pg.ack_waits' (by rw[h.len];exact hk)]at HA;have HWK:U (X.W.getD k Q=kM):=hw;have HLN:U (X.W.length=X.C.length):=h.len;have HFT:U (Pg.fits X.T.p):=h.told;have HB:U _:=hB;clear h hw hB;simp only[Pg.Mp.val]at HA
 go_enter Tryz.func186,Tryz.ntmps186
 go_upto_region 1 with fail
 rw[<-hW];clear hW
 go_wp2_with fail
 refine HA.mono ?_;rintro e w1 ⟨rfl,hs1,hb1⟩;have P1:U (Dsk w1 b D {X with W:=X.W.set k Q}):=HW.out.shot hs1 hb1 (by rw[List.length_set];exact HLN.out) HFT.out;have hgw:D.bs<w.heap.size:=LT.out _ ⟨3,rfl⟩;have Z1:U (w1.heap[w.heap.size]?=_):=(hb1.block _ (by omega) (fun e=>by omega)).trans RZ.out;have B1:U (But (dsF D b X.C.length X.G) W w1):=hb1.mono (fun x _ e=>⟨3,e⟩)
 have hz1:w.heap.size<w1.heap.size:=by have:=hb1.size;omega
 clear hs1 hb1 HA c3 HW;obtain⟨W2,hW2⟩:∃W2,W2=w1.alloc (kN #[R J X.T.p,R J X.T.s,R J X.T.f,R J X.T.r] 76):=⟨_,rfl⟩
 have hb2:Below w1.heap.size w1 W2:=by rw[hW2];exact zA (zR _) _
 have P2:U _:=P1.out.grow hb2;have Z2:U (W2.heap[w.heap.size]?=_):=(hb2.block _ hz1).trans Z1.out;have B2:U (But (dsF D b X.C.length X.G) W W2):=B1.out.trans (But.yhl (F:=fun _=>False) hb2) (fun _ _ h=>h.elim);have hz2:w.heap.size<W2.heap.size:=O hz1 hb2.size;obtain⟨⟨m0,m1,m2,m3⟩,mf⟩:=ye5 (show W2.heap[w1.heap.size]?=V (kN #[R J X.T.p,R J X.T.s,R J X.T.f,R J X.T.r] 76 (0,0)) by rw[hW2];exact kY _ _);have q0:=kC m0;have q1:=kC m1;have q2:=kC m2;have q3:=kC m3;have g2:=kC P2.out.c2;have gk:=kC (P2.out.row k hk);simp only at g2 gk
 have i0:(0:Int)<=(k:Int):=by omega
 have i1:(k:Int)<(X.C.length:Int):=by omega
 go_upto_region 4 with fail
 rw[<-hW2];clear hW2 hb2 P1 Z1 B1 hz1 m0 m1 m2 m3 mf;generalize w1.heap.size=mb at*;refine Loose.yhn 8 (by kernel_rfl) (by kernel_rfl) ?_;simp only[List.take_succ_cons,List.take_zero,List.drop_succ_cons,List.drop_zero]
 repeat (
  refine Loose.zS (fun k hk=> ?_)
  go_simp
  (refine hk _ ?_;clear hk k))
 refine Loose.yho ?_;intro w3 hb3;have P3:U _:=P2.out.grow hb3;have Z3:U (w3.heap[w.heap.size]?=_):=(hb3.block _ hz2).trans Z2.out;have B3:U (But (dsF D b X.C.length X.G) W w3):=B2.out.trans (But.yhl (F:=fun _=>False) hb3) (fun _ _ h=>h.elim);have hz3:w.heap.size<w3.heap.size:=O hz2 hb3.size;have HT:=ycX X.T HFT.out w3 (P3.out.core k hk);simp only[Pg.Mp.val]at HT;clear hb3 q0 q1 q2 q3 g2 gk P2 Z2 B2 hz2
 go_wp2_with fail
 refine HT.mono ?_;rintro e w4 ⟨rfl,Fc,hc4,hb4,hF4⟩;have hb4':But (D.cF k) w3 w4:=hb4;have n4:(X.tld k).C.length=X.C.length:=List.length_set
 have D4:U (zi W b D X (X.tld k) w4):=by
  refine⟨_,P3.out.asked hk hc4 hb4 hF4,B3.out.trans hb4 (fun x _ e=>⟨k+5,hk,e⟩),fun x hx=> ?_⟩;rw[n4]at hx;exact(ybc hk hF4 x hx).imp id (fun h=>by have:=B3.out.size;omega)
 have Z4:U (w4.heap[w.heap.size]?=_):=(hb4.block _ hz3 (fun e=>by have:=LT.out _ ⟨k+5,hk,e⟩;omega)).trans Z3.out;have hz4:w.heap.size<w4.heap.size:=O hz3 hb4.size;obtain⟨D',P4,B4,F4⟩:=D4.out;have P4:U _:=P4;have B4:U _:=B4;have F4:U _:=F4;have HBU:=xN w4 P4.out;have eb:(X.tld k).busy=(X.W.set k Q).any id:=rfl;rw[eb]at HBU;clear hc4 hb4 hF4 HT P3 B3 Z3 hz3;cases hany:(X.W.set k Q).any id
 ·rw[hany]at HBU
  have eE:X.akE k=⟨0,Q,0,0,0,kM⟩:=by
   unfold Pg.Spc.akE;rw[Z,if_neg (by rw[HWK.out];decide),if_neg (by rw[hany];decide)]
  have eN:X.akN k={X.tld k with S:=Pg.gives X.G X.S,G:=[]}:=by
   unfold Pg.Spc.akN;rw[Z,if_neg (by rw[HWK.out];decide),if_neg (by rw[hany];decide)];unfold Pg.Spc.tld Pg.Spc.at';rw[Z]
  have HE:U _:=eE;have HN:U _:=eN;have HG:=yda w4 P4.out;clear eE eN hany
  go_wp2_with fail
  refine HBU.mono ?_;rintro e w5 ⟨rfl,hw5⟩;subst w5
  go_wp2_with fail
  refine HG.mono ?_;rintro e w6 ⟨rfl,d6⟩;have D6:U (zi W b D X {X.tld k with S:=Pg.gives X.G X.S,G:=[]} w6):=zi.next B4.out F4.out d6;obtain⟨e6,hz6⟩:=D6.out.block (w:=w) LT.out (kO _) (by omega);obtain⟨⟨z0,z1,z2,z3,z4,z5⟩,zf⟩:=z9 (e6.trans RZ.out)
  have FIN:U (∀Wf,But (fun x=>x=w.heap.size) w6 Wf->zi w b D X (X.akN k) Wf):=fun Wf hb=>by
   rw[HN.out];exact D6.out.behind HB.out LT.out (fun x e=>by omega) hb
  clear d6 HG HBU e6 D6 D4 Z4 P4 B4 F4
  go_wp2_with fail
  refine kS (v:=(X.akE k).val) ?_ rfl ⟨rfl,FIN.out _ ?_⟩
  ·simp[results,Tryz.results186,go_sem,z0,z1,z2,z3,z4,z5,hz6,Pg.Ev.val,HE.out]
  ·exact ybT _ _ _ _ _ _ _ _
 ·rw[hany]at HBU
  have eE:X.akE k= .code 0:=by
   unfold Pg.Spc.akE;rw[Z,if_neg (by rw[HWK.out];decide),if_pos hany]
  have eN:X.akN k=X.tld k:=by
   unfold Pg.Spc.akN;rw[Z,if_neg (by rw[HWK.out];decide),if_pos hany];unfold Pg.Spc.tld Pg.Spc.at';rw[Z]
  have HE:U _:=eE;have HN:U _:=eN;clear eE eN hany
  go_wp2_with fail
  refine HBU.mono ?_;rintro e w5 ⟨rfl,hw5⟩;subst w5;obtain⟨⟨z0,z1,z2,z3,z4,z5⟩,zf⟩:=z9 Z4.out
  have FIN:U (∀Wf,But (fun x=>x=w.heap.size) w4 Wf->zi w b D X (X.akN k) Wf):=fun Wf hb=>by
   rw[HN.out];exact D4.out.behind HB.out LT.out (fun x e=>by omega) hb
  clear HBU D4 P4 B4 F4
  go_wp2_with fail
  refine kS (v:=(X.akE k).val) ?_ rfl ⟨rfl,FIN.out _ ?_⟩
  ·simp[results,Tryz.results186,go_sem,z0,z1,z2,z3,z4,z5,hz4,Pg.Ev.val,Pg.Ev.code,HE.out]
  ·exact ybT _ _ _ _ _ _ _ _
theorem ydN {b:Nat} {D:Dsd} {X:Pg.Spc} {k:Nat} (hk:k<X.C.length) (w:kJ) (h:Dsk w b D X):
 kT A 186 #[m (V ⟨b,0,I⟩),R J (k:Int)] w fun e w'=>e=E (X.akE k).val/\zi w b D X (X.akN k) w':=by
 cases hw:X.W.getD k Q
 ·have e1:X.akE k= .code 9:=by unfold Pg.Spc.akE;rw[Z,if_pos hw]
  have e2:X.akN k=X:=by unfold Pg.Spc.akN;rw[Z,if_pos hw]
  rw[e1,e2];refine(yc5 hk hw w h).mono ?_;rintro e w' ⟨rfl,hb⟩;exact⟨rfl,.same h hb⟩
 ·exact yc6 hk hw w h
end
namespace St
variable {w0 w w':kJ} {k b:Nat} {F0:Nat->Prop} {S:Pg.Fs} {lv:Int} {e:Pg.En} {ts ps:List Int} {p:Int}
end St
theorem Mk.push1 {w w3 W:kJ} {B k b:Nat} {lv:Int} {e:Pg.En} {v1 v2:kX} {ts ps:List Int} {p:Int} (h:Mk w B k b lv e v1 v2 ts ps p) (hB:B<=w.heap.size) (hW:Below w.heap.size w W) (hg:W.grownBy w3 v1.ownBlock) {g cap:Nat} (hat:v1.ownBlock=V g\/w.heap.size<=g) (x:Int)
 (ho:w3.ownsRow B 3 1 (H (V ⟨g,0,I⟩) (ts.length+1) cap) (ts.length+1) (zv ts++[R J x])):
 Mk (w3.setCell ⟨k,8,I⟩ (H (V ⟨g,0,I⟩) (ts.length+1) cap)) B k b lv e (H (V ⟨g,0,I⟩) (ts.length+1) cap) v2 (ts++[x]) ps p/\But (fun j=>j=k\/v1.ownBlock=V j) w (w3.setCell ⟨k,8,I⟩ (H (V ⟨g,0,I⟩) (ts.length+1) cap))/\∀j,mkF k (H (V ⟨g,0,I⟩) (ts.length+1) cap) v2 j->mkF k v1 v2 j\/w.heap.size<=j:=by
 have hlk:=h.lb;have b1:But (fun j=>v1.ownBlock=V j) w w3:=(But.yhl hW).grown hg fun k hk=> .inr hk
 have hgk:g≠k:=by
  rcases hat with hat|hat
  ·exact fun e=>h.n1 (e▸hat)
  ·omega
 have hg2:∀j,g=j->v2.ownBlock≠V j:=by
  rintro j rfl;rcases hat with hat|hat
  ·exact h.ne g hat
  ·exact fun e=>by have:=(h.o2.lt g e).2;omega
 have hk3:w3.heap[k]?=w.heap[k]?:=b1.block k hlk h.n1
 have c:∀{o:Nat} {v:kX},o≠8->w.cell? ⟨k,o,I⟩=V v->(w3.setCell ⟨k,8,I⟩ (H (V ⟨g,0,I⟩) (ts.length+1) cap)).cell? ⟨k,o,I⟩=V v:=fun{o v} ho e=>
  (kF _ _ _ _ (fun e=>ho (by injection e with _ e;exact e.symm))).trans ((kB hk3).trans e)
 have b2:But (fun j=>j=k\/v1.ownBlock=V j) w (w3.setCell ⟨k,8,I⟩ (H (V ⟨g,0,I⟩) (ts.length+1) cap)):=(b1.mono fun _ _ h=> .inr h).setCell (a:=⟨k,8,I⟩) (.inr (.inl rfl)) _;refine⟨⟨c (by decide) h.c0,c (by decide) h.c1,c (by decide) h.c2,c (by decide) h.c3,c (by decide) h.c4,c (by decide) h.c5,c (by decide) h.c6,c (by decide) h.c7,kV _ _ _ ((kB hk3).trans h.c8),c (by decide) h.c9,c (by decide) h.c10,fun o=>by rw[kK];exact(kR hk3).trans (h.fz o),?_,?_,fun j hj=>hg2 j (by simpa[kP]using hj),fun e=>hgk (by simpa[kP]using e),h.n2,h.hi⟩,b2,fun j hj=> ?_⟩
 ·have e1:zv (ts++[x])=zv ts++[R J x]:=by simp[zv]
  rw[List.length_append,List.length_singleton,e1];exact zc ho fun j hj=>Below.heap_setCell _ _ _ _ fun e=>hgk ((by simpa[kP]using hj:g=j).trans e)
 ·exact zb h.o2 b2 fun j hj e=>by
   rcases e with e|e
   ·exact h.n2 (e▸hj)
   ·exact h.ne j e hj
 ·rcases hj with hj|hj|hj
  ·exact .inl (.inl hj)
  ·have:g=j:=by simpa[kP]using hj
   subst this;exact hat.imp (fun e=> .inr (.inl e)) id
  ·exact .inl (.inr (.inr hj))
theorem Mk.push2 {w w3 W:kJ} {B k b:Nat} {lv:Int} {e:Pg.En} {v1 v2:kX} {ts ps:List Int} {p:Int} (h:Mk w B k b lv e v1 v2 ts ps p) (hB:B<=w.heap.size) (hW:Below w.heap.size w W) (hg:W.grownBy w3 v2.ownBlock) {g cap:Nat} (hat:v2.ownBlock=V g\/w.heap.size<=g) (x:Int)
 (ho:w3.ownsRow B 3 1 (H (V ⟨g,0,I⟩) (ps.length+1) cap) (ps.length+1) (zv ps++[R J x])):
 Mk (w3.setCell ⟨k,9,I⟩ (H (V ⟨g,0,I⟩) (ps.length+1) cap)) B k b lv e v1 (H (V ⟨g,0,I⟩) (ps.length+1) cap) ts (ps++[x]) p/\But (fun j=>j=k\/v2.ownBlock=V j) w (w3.setCell ⟨k,9,I⟩ (H (V ⟨g,0,I⟩) (ps.length+1) cap))/\∀j,mkF k v1 (H (V ⟨g,0,I⟩) (ps.length+1) cap) j->mkF k v1 v2 j\/w.heap.size<=j:=by
 have hlk:=h.lb;have b1:But (fun j=>v2.ownBlock=V j) w w3:=(But.yhl hW).grown hg fun k hk=> .inr hk
 have hgk:g≠k:=by
  rcases hat with hat|hat
  ·exact fun e=>h.n2 (e▸hat)
  ·omega
 have hg2:v1.ownBlock≠V g:=by
  rcases hat with hat|hat
  ·exact fun e=>h.ne g e hat
  ·exact fun e=>by have:=(h.o1.lt g e).2;omega
 have hk3:w3.heap[k]?=w.heap[k]?:=b1.block k hlk h.n2
 have c:∀{o:Nat} {v:kX},o≠9->w.cell? ⟨k,o,I⟩=V v->(w3.setCell ⟨k,9,I⟩ (H (V ⟨g,0,I⟩) (ps.length+1) cap)).cell? ⟨k,o,I⟩=V v:=fun{o v} ho e=>
  (kF _ _ _ _ (fun e=>ho (by injection e with _ e;exact e.symm))).trans ((kB hk3).trans e)
 have b2:But (fun j=>j=k\/v2.ownBlock=V j) w (w3.setCell ⟨k,9,I⟩ (H (V ⟨g,0,I⟩) (ps.length+1) cap)):=(b1.mono fun _ _ h=> .inr h).setCell (a:=⟨k,9,I⟩) (.inr (.inl rfl)) _;refine⟨⟨c (by decide) h.c0,c (by decide) h.c1,c (by decide) h.c2,c (by decide) h.c3,c (by decide) h.c4,c (by decide) h.c5,c (by decide) h.c6,c (by decide) h.c7,c (by decide) h.c8,kV _ _ _ ((kB hk3).trans h.c9),c (by decide) h.c10,fun o=>by rw[kK];exact(kR hk3).trans (h.fz o),?_,?_,fun j hj e=>hg2 (by have:g=j:=(by simpa[kP]using e);rw[this];exact hj),h.n1,fun e=>hgk (by simpa[kP]using e),h.hi⟩,b2,fun j hj=> ?_⟩
 ·exact zb h.o1 b2 fun j hj e=>by
   rcases e with e|e
   ·exact h.n1 (e▸hj)
   ·exact h.ne j hj e
 ·have e1:zv (ps++[x])=zv ps++[R J x]:=by simp[zv]
  rw[List.length_append,List.length_singleton,e1];exact zc ho fun j hj=>Below.heap_setCell _ _ _ _ fun e=>hgk ((by simpa[kP]using hj:g=j).trans e)
 ·rcases hj with hj|hj|hj
  ·exact .inl (.inl hj)
  ·exact .inl (.inr (.inl hj))
  ·have:g=j:=by simpa[kP]using hj
   subst this;exact hat.imp (fun e=> .inr (.inr e)) id
theorem St.step {w0 w w':kJ} {B k b:Nat} {F0 F:Nat->Prop} {S:Pg.Fs} {lv lv':Int} {e e':Pg.En} {ts ts' ps ps':List Int} {p p':Int} {v1 v2 v1' v2':kX} {G:Nat->Prop} (hM:Mk w B k b lv e v1 v2 ts ps p) (hF:zh w b S F) (hB:But F0 w0 w) (h1:∀j,F j->F0 j\/w0.heap.size<=j) (h2:∀j,F j->¬mkF k v1 v2 j) (hBB:B<=w.heap.size) (hm:∀j,mkF k v1 v2 j->F0 j\/w0.heap.size<=j)
 (hM':Mk w' B k b lv' e' v1' v2' ts' ps' p') (hb:But G w w') (hG:∀j,G j->mkF k v1 v2 j) (hn:∀j,mkF k v1' v2' j->mkF k v1 v2 j\/w.heap.size<=j):St w0 w' k b F0 S lv' e' ts' ps' p':=
 ⟨B,v1',v2',F,hM',hF.keep hb fun j hj hg=>h2 j hj (hG j hg),hB.trans hb fun i hi hg=>(hm i (hG i hg)).elim id fun h=>by omega,h1,fun j hj hm=>by
  rcases hn j hm with h|h
  ·exact h2 j hj h
  ·have:=hF.lt hj;omega,kU hBB hb.size,fun j hj=>by
  rcases hn j hj with h|h
  ·exact hm j h
  ·have:=hB.size;exact .inr (by omega)⟩
theorem yds {w0 w:kJ} {k b:Nat} {F0:Nat->Prop} {S:Pg.Fs} {lv:Int} {e:Pg.En} {ts ps:List Int} {p:Int} (h:St w0 w k b F0 S lv e ts ps p):
 kT A 136 #[m (V ⟨b,0,I⟩)] w fun en w'=>en=E (R J S.takeN)/\St w0 w' k b F0 S.take lv e ts ps p:=by
 obtain⟨B,v1,v2,F,hM,hF,hB,h1,h2,hBB,hm⟩:=h.body;refine(yav w hF).mono ?_;rintro en w' ⟨rfl,F',f1,f2,f3⟩;refine⟨rfl,B,v1,v2,F',hM.keep f2 fun j hj hf=>h2 j hf hj,f1,hB.trans f2 fun i hi hf=> ?_,fun j hj=> ?_,fun j hj hm=> ?_,kU hBB f2.size,hm⟩
 ·rcases h1 i hf with h|h
  ·exact h
  ·omega
 ·rcases f3 j hj with h|h
  ·exact h1 j h
  ·have:=hB.size;exact .inr (by omega)
 ·rcases f3 j hj with h|h
  ·exact h2 j h hm
  ·have:=(hM.lt hm).2;omega
theorem ydc {w0 w:kJ} {k b:Nat} {F0:Nat->Prop} {S:Pg.Fs} {lv:Int} {e:Pg.En} {ts ps:List Int} {p t q:Int} (h:St w0 w k b F0 S lv e (ts++[t]) (ps++[q]) p) (hlen:ts.length=ps.length) (hl:ts.length<4000) (hv0:0<=lv) (hv1:lv<100):
 kT A 250 #[m (V ⟨k,0,I⟩)] w fun en w'=>en=E (kE #[])/\St w0 w' k b F0 (S.take.store t q (Pg.enc kM Q 7 Q Q S.takeN lv)) (lv-1) Pg.En.zero (ts++[t]++[S.takeN]) (ps++[q]++[Pg.index p (lv-1)]) p:=by
 have HT:=yds h;have HP:∀w1,St w0 w1 k b F0 S.take lv e (ts++[t]) (ps++[q]) p->kT A 215 #[m (V ⟨k,0,I⟩),kH #[kI kM,kI Q,R J 7,kI Q,kI Q,R J S.takeN]] w1 fun en w'=>en=E (kE #[])/\St w0 w' k b F0 (S.take.store t q (Pg.enc kM Q 7 Q Q S.takeN lv)) lv ⟨kM,Q,7,Q,Q,S.takeN⟩ (ts++[t]) (ps++[q]) p:=fun w1 h1=>vA ⟨kM,Q,7,Q,Q,S.takeN⟩ h1 hlen (by omega);have HI:=vo p (lv-1);generalize Pg.enc kM Q 7 Q Q S.takeN lv=v at*;generalize S.takeN=tk at*;generalize S.take=S1 at*;generalize S1.store t q v=S2 at*;generalize Pg.index p (lv-1)=ix at*
 have hlen1:(ts++[t]).length=ts.length+1:=by simp
 have hlen2:(ps++[q]).length=ts.length+1:=by simp[hlen]
 generalize ts++[t]=T at*;generalize ps++[q]=P at*;clear hlen;generalize ts.length=n at*;obtain⟨B,v1,v2,F,hM,hF,hB,h1,h2,hBB,hm⟩:=h.body;have k0:=hM.c0;clear hM hF hB h1 h2 h hBB hm
 go_enter Tryz.func250,Tryz.ntmps250
 go_wp2_with fail
 refine HT.mono ?_;rintro en w1 ⟨rfl,hS1⟩;have HP:=HP w1 hS1;clear HT hS1 k0
 go_wp2_with fail
 refine HP.mono ?_;rintro en w2 ⟨rfl,hS2⟩;obtain⟨B,v1,v2,F,hM,hF,hB,h1,h2,hBB,hm⟩:=hS2.body;have k1:=hM.c1;have k2:=hM.c2;have k3:=hM.c3;have k4:=hM.c4;have k5:=hM.c5;have k6:=hM.c6;have k7:=hM.c7;have k8:=hM.c8;have kf:=hM.fz;simp only at k2 k3 k4 k5 k6 k7;obtain⟨W3,hW3⟩:∃W3,W3=((((((w2.setCell ⟨k,1,I⟩ (R J (lv-1))).setCell ⟨k,2,I⟩ (kI Q)).setCell ⟨k,3,I⟩ (kI Q)).setCell ⟨k,4,I⟩ (R J 0)).setCell ⟨k,5,I⟩ (kI Q)).setCell ⟨k,6,I⟩ (kI Q)).setCell ⟨k,7,I⟩ (R J 0):=⟨_,rfl⟩
 have M3:Mk W3 B k b (lv-1) Pg.En.zero v1 v2 T P p:=by rw[hW3];exact(hM.yl6 (lv-1)).setE Pg.En.zero
 have bt3:But (fun j=>j=k) w2 W3:=by
  rw[hW3];exact((((((((But.refl (fun j=>j=k) w2).setCell (a:=⟨k,1,I⟩) (.inr rfl) _).setCell (a:=⟨k,2,I⟩) (.inr rfl) _).setCell (a:=⟨k,3,I⟩) (.inr rfl) _).setCell (a:=⟨k,4,I⟩) (.inr rfl) _).setCell (a:=⟨k,5,I⟩) (.inr rfl) _).setCell (a:=⟨k,6,I⟩) (.inr rfl) _).setCell (a:=⟨k,7,I⟩) (.inr rfl) _)
 have HM3:U _:=M3;have HF3:U (zh W3 b S2 F):=hF.keep bt3 fun j hj e=>h2 j hj (.inl e)
 have HBt3:U (But F0 w0 W3):=hB.trans bt3 fun i hi e=>(hm i (.inl e)).elim id fun h=>by omega
 have H1:U _:=h1;have H2:U _:=h2;have Hm:U _:=hm;have hsz:B<=W3.heap.size:=kU hBB bt3.size;clear hM hF hB h1 h2 HP hS2 bt3 M3 hBB hm;obtain⟨a1,c1,rfl⟩:=zF HM3.out.o1;have hown:=HM3.out.o1;have r8:=HM3.out.c8;have hlk:=HM3.out.lb;have hsz0:=HBt3.out.size;obtain⟨q0,hq,hz0,hz1,hz2⟩:=info_parts jY;rw[hlen1]at hown r8 k8
 have hsW:W3.heap.size=w2.heap.size:=by rw[hW3];simp
 have hown2:(((((((w2.setCell ⟨k,1,I⟩ (R J (lv-1))).setCell ⟨k,2,I⟩ (kI Q)).setCell ⟨k,3,I⟩ (kI Q)).setCell ⟨k,4,I⟩ (R J 0)).setCell ⟨k,5,I⟩ (kI Q)).setCell ⟨k,6,I⟩ (kI Q)).setCell ⟨k,7,I⟩ (R J 0)).ownsRow B 3 1 (H a1 (n+1) c1) (n+1) (zv T):=by rw[<-hW3];exact hown
 go_wp2_with (first
  | (at_builtin;refine wpList_append_lies _ rfl _ _ 58 rfl B 3 q0 (R J 0) 1 8 Tryz.underlying58 hq hz0 hz1 hz2 rfl (by decide) _ _ _ rfl (hown2.alloc _) ⟨w2.heap.size,0,I⟩ 1 1 [R J tk] rfl rfl ?c1 ?c2 (by decide) ?c3 ?c4 ?c5 (w2.heap.size+1) (by simp) ?_))
 case c1=>
  intro j u hj
  match j,hj with
  | 0,hj=>simp at hj;subst hj;simp[Addr.add,go_sem]
 case c2=>intro u hu;simp at hu;subst hu;rfl
 case c3=>unfold maxLen;omega
 case c4=>omega
 case c5=>simp;omega
 intro g cap w4 hown4 hgrow hat hlt4;rw[<-hW3]at hgrow;clear hW3 k1 k2 k3 k4 k5 k6 k7 k8 kf hown2;have hgl:g<w4.heap.size:=hlt4;obtain⟨M5,b5,n5⟩:=HM3.out.push1 (W:=W3.alloc (kN #[R J tk] 3)) (g:=g) (cap:=cap) hsz (zA (zR _) _) (by rw[hlen1];exact hgrow) (by rw[hlen1];exact hat.imp id fun h=>by omega) tk (by rw[hlen1];exact hown4);rw[hlen1]at M5 b5 n5;have hk4:w4.heap[k]?=W3.heap[k]?:=hgrow.block k (by simp;omega) (fun e=>HM3.out.n1 (by rw[hlen1];exact e.symm))|>.trans (Below.heap_alloc _ _ _ hlk);have e8:w4.cell? ⟨k,8,I⟩=V (H a1 (n+1) c1):=(kB hk4).trans r8;have ef8:w4.frozen? ⟨k,8,I⟩=Q:=(kR hk4).trans (HM3.out.fz 8);have HM5:U _:=M5;have HB5:U _:=b5;have HN5:U _:=n5;clear M5 b5 n5 hk4 hgrow hat hown4 hlt4 hown r8 HP
 go_wp2_with fail
 clear e8 ef8;generalize hW5:w4.setCell ⟨k,8,I⟩ (H (V ⟨g,0,I⟩) (n+1+1) cap)=W5 at*;clear hW5;obtain⟨a2,c2,rfl⟩:=zF HM5.out.o2;have k9:=HM5.out.c9;have k10:=HM5.out.c10;have k1:=HM5.out.c1;have kf:=HM5.out.fz
 have hown:W5.ownsRow B 3 1 (H a2 (n+1) c2) (n+1) (zv P):=by have:=HM5.out.o2;rw[hlen2]at this;exact this
 rw[hlen2]at k9;have hlk5:=HM5.out.lb;have hs5:=HB5.out.size;have HF5:U (zh W5 b S2 F):=zh.keep HF3.out HB5.out fun j hj hg=>H2.out j hj (by rw[hlen1];exact hg.imp id fun h=> .inl h)
 have HBt5:U (But F0 w0 W5):=HBt3.out.trans HB5.out fun i hi hg=>(Hm.out i (by rw[hlen1];exact hg.imp id fun h=> .inl h)).elim id fun h=>by omega
 have Hm5:U (∀j,mkF k (H (V ⟨g,0,I⟩) (n+1+1) cap) (H a2 P.length c2) j->F0 j\/w0.heap.size<=j):=fun j hj=>by
  rcases HN5.out j hj with h|h
  ·exact Hm.out j (by rw[hlen1];exact h)
  ·exact .inr (by omega)
 have H25:U (∀j,F j->¬mkF k (H (V ⟨g,0,I⟩) (n+1+1) cap) (H a2 P.length c2) j):=fun j hj hm=>by
  rcases HN5.out j hm with h|h
  ·exact H2.out j hj (by rw[hlen1];exact h)
  ·have:=zh.lt HF3.out hj;omega
 have hs05:B<=W5.heap.size:=by omega
 have hnk:¬k=W5.heap.size:=by omega
 clear HB5 HN5 HM3 HF3 HBt3 H2 hlk hsz hsz0 hgl hs5 hsW Hm
 have hnews:∀(W:kJ) (j:Nat) (u:kX),[kA J ix][j]?=V u->(W.alloc (kN #[R J ix] 3)).cell? ((⟨W.heap.size,0,I⟩:Addr).add j)=V u:=fun W j u hu=>
  World.news_of_block (kY W _) j u hu
 have hone:∀u,u ∈ [kA J ix]->u.oneCell'=kM:=by
  intro u hu;simp at hu;subst hu;rfl
 have hm1:n+1+1<=maxLen:=by unfold maxLen;omega
 have hm2:(n+1+1)*8<=140737488355328:=by omega
 have hn2:(kD a2 (n+1) c2).ownBlock≠V k:=by have:=HM5.out.n2;rw[hlen2]at this;exact this
 go_region_law (first
  | (go_simp;go_at_call 241;refine(HI _).mono ?_;rintro e w6 ⟨rfl,rfl⟩)
  | (refine step_append_lies _ rfl (.tmp 43) (.tmp 54) 58 rfl B 3 q0 _ 1 8 Tryz.underlying58 hq hz0 hz1 hz2 rfl (by decide) (H a2 (n+1) c2) _ _ (by simp[Act.eval]) (hown.alloc _) ⟨W5.heap.size,0,I⟩ 1 1 [R J ix] (by simp[Act.eval]) rfl (hnews W5) hone (by decide) hm1 hm2 (kU hs05 (by simp)) (W5.heap.size+1) (by simp) ?_;intro g6 cap6 w6 hown6 hgrow6 hat6 hlt6;have hG6:U ((W5.alloc (kN #[R J ix] 3)).drew.grownBy w6 (kD a2 (n+1) c2).ownBlock):=hgrow6;have hk6:w6.heap[k]?=W5.heap[k]?:=(hG6.out.block k (by simp;omega) (fun e=>hn2 e.symm)).trans (Below.heap_alloc _ _ _ hlk5);have e9:w6.cell? ⟨k,9,I⟩=V (H a2 (n+1) c2):=(kB hk6).trans k9;have ef9:w6.frozen? ⟨k,9,I⟩=Q:=(kR hk6).trans (kf 9);have hO6:U (w6.ownsRow B 3 1 (H (V ⟨g6,0,I⟩) (n+1+1) cap6) (n+1+1) (zv P++[R J ix])):=hown6;have hA6:U ((kD a2 (n+1) c2).ownBlock=V g6\/g6=W5.heap.size+1):=hat6;clear hown6 hgrow6 hat6 hk6))
 all_goals
  obtain⟨M7,b7,n7⟩:=HM5.out.push2 (W:=(W5.alloc (kN #[R J ix] 3)).drew) (g:=g6) (cap:=cap6) hs05 (zA (zR _) _).drew (by rw[hlen2];exact hG6.out) (by rw[hlen2];exact hA6.out.imp id fun h=>by omega) ix (by rw[hlen2];exact hO6.out);rw[hlen2]at M7 b7 n7
  have fin:U (St w0 (w6.setCell ⟨k,9,I⟩ (H (V ⟨g6,0,I⟩) (n+1+1) cap6)) k b F0 S2 (lv-1) Pg.En.zero (T++[tk]) (P++[ix]) p):=
   St.step HM5.out HF5.out HBt5.out H1.out H25.out hs05 Hm5.out M7 b7 (fun j hj=>hj.imp id fun h=> .inr (by rw[hlen2];exact h)) (fun j hj=>(n7 j hj).imp (fun h=>by rw[hlen2];exact h) id)
  go_wp2_with fail
  go_end0
  exact⟨rfl,fin.out⟩
end Go.Proofs.YtdphiompijbelaaGreatDoor
