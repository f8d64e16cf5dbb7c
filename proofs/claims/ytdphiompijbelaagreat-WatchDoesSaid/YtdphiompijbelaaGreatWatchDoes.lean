
/-
  WatchDoes is proved: every New, Do and Times of a Watch is as the document says: its steps come to what those of the document's space come to, of which the same was asked, it has no fault, and as many times, frames free and changes begun as the document's.
  Conditions: none.
-/
import Derived.Test.YtdphiompijbelaaGreatWtD3
set_option linter.all false
set_option maxRecDepth 100000
open Nat renaming le_trans->Z
open Go.Proofs.Tryz renaming prog->Q
open Int renaming eq_ofNat_of_zero_le->V
open Array renaming getElem?_eq_some_iff->Y
open Go.IntKind renaming i64->P
open Go.Value renaming int->B,bool->N,pointer->U,slice->O,okWide->K
open Option renaming none->I,some->J
namespace Go.Proofs.YtdphiompijbelaaGreat
open Go.ChangeShapes Go.WideShapes Go.ChangeAt Go.RowKit Go.Joins Go.Sort
attribute [local go_sem] Loose.gent
theorem jh {w w':World} {a1 a2 a3 a4:Addr} {v1 v2 v3 v4:Value} (hb:Below w.heap.size w w') (h:w.cell? a1=J v1/\w.cell? a2=J v2/\w.cell? a3=J v3/\w.cell? a4=J v4):w'.cell? a1=J v1/\w'.cell? a2=J v2/\w'.cell? a3=J v3/\w'.cell? a4=J v4:=⟨cell_later hb h.1,cell_later hb h.2.1,cell_later hb h.2.2.1,cell_later hb h.2.2.2⟩
set_option maxHeartbeats 4000000 in
theorem watchDoes_walk (W:World) (co:Int) (TP:Pg.fits co) (n:Int) (hn:Pg.fits n) (ad:Option Addr) (len cap:Nat) (q:Nat->Bst)
 (hq:∀j,j<len->(∃b o,ad=J ⟨b,o,I⟩/\b<W.heap.size/\yf3 W b (o+j*9) (q j))/\ycs (q j)):
 Calls Q 4 #[B P co,B P n,O ad len cap] W fun e W'=>e= .returned (N true)/\Below W.heap.size W W':=by
 have HQ:Hid _:=hq;clear hq
 go_enter Tryz.func4,Tryz.ntmps4
 go_wp2_with fail
 refine(yaD _).mono ?_;rintro e w1 ⟨rfl,Ha⟩;have HB:Hid (Below W.heap.size W w1):=Ha;clear Ha
 go_wp2_with fail
 refine(yav ad len cap 200 _).mono ?_;rintro e w2 ⟨rfl,rfl⟩
 by_cases hl:200<len
 ·as_aux_lemma=>
  have d1:decide ((200:Int)<(len:Int))=true:=by simp;omega
  go_wp2_with fail
  go_ret
  exact⟨rfl,HB.out⟩
 ·have d1:decide ((200:Int)<(len:Int))=false:=by simp;omega
  by_cases sD:co<1\/4<co\/n<1\/128<n
  ·as_aux_lemma=>
   have HN:=fun w=>yff co n w sD;have HS:=fun w=>jw co n w;rw[if_pos sD]at HS;clear sD HQ
   go_wp2_with fail
   refine(HN _).mono ?_;rintro e w3 ⟨rfl,He⟩;obtain⟨W4,rF⟩:∃W4,W4=w3.alloc (.cells #[B P 1,B P (-1)] 27):=⟨_,rfl⟩
   have Hl:Below w3.heap.size w3 W4:=by rw[rF];exact zA (zR _) _
   have y0:W4.cell? ⟨w3.heap.size,0,I⟩=J (B P 1):=by rw[rF];simp[go_sem]
   have y1:W4.cell? ⟨w3.heap.size,1,I⟩=J (B P (-1)):=by rw[rF];simp[go_sem]
   have rM:Hid (Below W.heap.size W W4):=zT (zT HB.out He) Hl;clear He Hl
   go_upto_region 6 with fail
   rw[<-rF];clear rF
   go_wp2_with fail
   refine(HS _).mono ?_;rintro e w5 ⟨rfl,rA⟩;have y0:=cell_later rA y0;have y1:=cell_later rA y1;have ly:=World.block_lt_of_cell? _ _ y0;have ny:w3.heap.size≠w5.heap.size:=Nat.ne_of_lt ly;have tu:Hid (Below W.heap.size W w5):=zT rM.out rA;clear rA HN HS
   go_wp2_with fail
   go_ret
   exact⟨rfl,zA tu.out _⟩
  ·obtain⟨cn,rfl⟩:=V (show 0<=co by omega)
   obtain⟨nn,rfl⟩:=V (show 0<=n by omega);have HN:=fun w=>ycp cn nn w (by omega) (by omega) (by omega) (by omega);have SQ:=fun w=>yca cn nn (by omega) (by omega) (by omega) (by omega) w;have HS:=fun w=>jw (cn:Int) (nn:Int) w;rw[if_neg sD]at HS;clear sD
   as_aux_lemma=>
   go_wp2_with fail
   refine(HN _).mono ?_;rintro e w3 ⟨b,F,rfl,h3,He,bZ⟩;obtain⟨W4,rF⟩:∃W4,W4=w3.alloc (.cells #[B P 0,B P 0] 27):=⟨_,rfl⟩
   have Hl:Below w3.heap.size w3 W4:=by rw[rF];exact zA (zR _) _
   have y0:W4.cell? ⟨w3.heap.size,0,I⟩=J (B P 0):=by rw[rF];simp[go_sem]
   have y1:W4.cell? ⟨w3.heap.size,1,I⟩=J (B P 0):=by rw[rF];simp[go_sem]
   have h4:Hid (jr W4 b (Pg.Spc.new cn nn) [] [] 0 F):=h3.grow Hl;have rM:Hid (Below W.heap.size W W4):=zT (zT HB.out He) Hl;have sQ:Hid (∀k,F k->W.heap.size<=k):=fun k hk=>Z HB.out.size (bZ k hk);clear h3 He bZ HB HN Hl
   go_upto_region 6 with fail
   rw[<-rF];clear rF
   go_wp2_with fail
   refine(HS _).mono ?_;rintro e w5 ⟨rfl,rA⟩;obtain⟨W6,gU⟩:∃W6,W6=w5.alloc (.cells #[B P 0,B P 0] 27):=⟨_,rfl⟩
   have H7:Below w5.heap.size w5 W6:=by rw[gU];exact zA (zR _) _
   have oW:Below W4.heap.size W4 W6:=zT rA H7;have y0:=cell_later oW y0;have y1:=cell_later oW y1
   have z0:W6.cell? ⟨w5.heap.size,0,I⟩=J (B P 0):=by rw[gU];simp[go_sem]
   have z1:W6.cell? ⟨w5.heap.size,1,I⟩=J (B P 0):=by rw[gU];simp[go_sem]
   have h6:Hid (jr W6 b (Pg.Spc.new cn nn) [] [] 0 F):=jr.grow h4.out oW;have fw:Hid (Below W.heap.size W W6):=zT rM.out oW;clear rA H7 oW h4 rM HS
   go_upto_region 7 with fail
   rw[<-gU];clear gU
   go_wp2_with fail
   refine(SQ _).mono ?_;rintro e w7 ⟨r,R,rfl,r7,tq,Nj⟩;clear y0 y1 z0 z1;have R7:Hid (yak w7 r (Pg.Spc.new cn nn) R):=r7;have h7:Hid (jr w7 b (Pg.Spc.new cn nn) [] [] 0 F):=jr.grow h6.out tq;have pg:Hid (Below W.heap.size W w7):=zT fw.out tq
   have Ui:Hid (∀k,F k->¬R k):=fun k hk hr=>by have:=jr.lt h6.out hk;have:=Nj k hr;omega
   have Uv:Hid (∀k,R k->W.heap.size<=k):=fun k hk=>Z fw.out.size (Nj k hk);clear r7 tq Nj h6 fw SQ
   go_wp2_with fail
   refine(ycb _).mono ?_;rintro e w8 ⟨t,G,rfl,t8,su,BD⟩
   have S8:Hid (∃X L L0 ti F R T G,Wdt W w8 b r t X X L L0 ti F R T G/\ti=0/\(T.L.length:Int)=ti+1):=
    ⟨_,_,_,_,_,_,_,_,⟨jr.grow h7.out su,yak.grow R7.out su,t8,fun k=>⟨fun hk=>⟨Ui.out k hk,fun hg=>by have:=jr.lt h7.out hk;have:=BD k hg;omega⟩,fun hk hg=>by have:=yak.lt R7.out hk;have:=BD k hg;omega⟩,zT pg.out su,fun k hk=>by
     rcases hk with hk|hk|hk
     ·exact sQ.out k hk
     ·exact Uv.out k hk
     ·exact Z pg.out.size (BD k hk)⟩,rfl,by simp[Pg.Tms.new]⟩
   clear h7 R7 t8 su BD Ui Uv sQ pg
   go_wp2_with fail
   go_loopw [12] (fun i wr=>∃k:Nat,k<=len/\i=B P k/\Hid (∃X L L0 ti F R T G,Wdt W wr b r t X X L L0 ti F R T G/\0<=ti/\ti<=k/\(T.L.length:Int)=ti+1)) (fun i _=>len-(intOf i).toNat)
   case atStart=>
    obtain⟨X,L,L0,ti,F,R,T,G,h,ht,hT⟩:=S8.out;exact⟨0,by omega,rfl,⟨X,L,L0,ti,F,R,T,G,h,by omega,by omega,hT⟩⟩
   case round=>
    obtain⟨k,hk,rfl,HR⟩:=hrel;clear S8
    by_cases Hf:k<len
    ·obtain⟨X,L,L0,ti,F,R,T,G,S,t0,t1,hT⟩:=HR.out
     obtain⟨⟨xb,xo,rfl,sG,hx⟩,gX⟩:=HQ.out k Hf
     have i0:(0:Int)<=(k:Int):=by omega
     have i1:(k:Int)<(len:Int):=by omega
     generalize q k=x at*;have hI:=S.wt.inv;have CO:=fun w' (h:jr w' b X L L0 ti F)=>ydt x.sx gX w' h (by omega);have RY:=fun w' (h:yak w' r X R)=>yfM x.sx w' h;have aH:=fun w' (h:ybE w' t T G)=>ycl x.sx gX.1 (X.goE x.sx) w' h (by omega) (by omega);have Al:=Pg.next_chg T X x.sx
     have TI:Hid (0<=ti+X.chg x.sx/\ti+X.chg x.sx<=(k:Int)+1):=by
      unfold Hid Pg.Spc.chg
      split<;>omega
     have TN:Hid (((T.next x.sx (X.goE x.sx)).L.length:Int)=ti+X.chg x.sx+1):=by unfold Hid;omega
     have SH:Hid (Wdt W wr b r t X X L L0 ti F R T G):=S;clear HR hI S t0 t1 hT gX Al;generalize hE:X.goE x.sx=E at*;generalize hN:X.goN x.sx=X' at*;generalize X.nxL L x.sx=L' at*;generalize X.nxP L L0 x.sx=L0' at*;generalize X.chg x.sx=cg at*;generalize T.next x.sx E=T' at*;clear hE hN;obtain⟨kd,cr,⟨mp,ms,mf,mr⟩,xq,xk,xu⟩:=x;obtain⟨x0,x1,x2,x3,x4,x5,x6,x7,x8⟩:=hx
     have XS:Hid (∀w',Below W.heap.size W w'->w'.cell? ⟨xb,xo+k*9,I⟩=J (B P kd)/\w'.cell? ⟨xb,xo+k*9+1,I⟩=J (B P cr)/\w'.cell? ⟨xb,xo+k*9+2,I⟩=J (B P mp)/\w'.cell? ⟨xb,xo+k*9+3,I⟩=J (B P ms)/\w'.cell? ⟨xb,xo+k*9+4,I⟩=J (B P mf)/\w'.cell? ⟨xb,xo+k*9+5,I⟩=J (B P mr)/\w'.cell? ⟨xb,xo+k*9+6,I⟩=J (B P xq)/\w'.cell? ⟨xb,xo+k*9+7,I⟩=J (B P xk)/\w'.cell? ⟨xb,xo+k*9+8,I⟩=J (N xu)):=fun w' hb=>
      ⟨(hb.cell (p:=⟨xb,_,I⟩) sG).trans x0,(hb.cell (p:=⟨xb,_,I⟩) sG).trans x1,(hb.cell (p:=⟨xb,_,I⟩) sG).trans x2,(hb.cell (p:=⟨xb,_,I⟩) sG).trans x3,(hb.cell (p:=⟨xb,_,I⟩) sG).trans x4,(hb.cell (p:=⟨xb,_,I⟩) sG).trans x5,(hb.cell (p:=⟨xb,_,I⟩) sG).trans x6,(hb.cell (p:=⟨xb,_,I⟩) sG).trans x7,(hb.cell (p:=⟨xb,_,I⟩) sG).trans x8⟩
     clear x0 x1 x2 x3 x4 x5 x6 x7 x8;obtain⟨ec,en,ea,ef,er,eb⟩:=E;simp only[Bst.sx,Pg.Sx.val,Pg.Ev.val]at CO RY aH;obtain⟨x0,x1,x2,x3,x4,x5,x6,x7,x8⟩:=XS.out _ SH.out.bel;have HD:=CO _ SH.out.wt
     go_wp2_with fail
     refine HD.mono ?_;rintro e w2 ⟨rfl,F2,h2,Hd,dA⟩;have P2:=SH.out.stepW h2 Hd dA;obtain⟨W3,fP⟩:∃W3,W3=(w2.alloc (.cells #[B P ec,N en,B P ea,B P ef,B P er,N eb] 36)).alloc (.cells #[B P 0,B P 0] 27):=⟨_,rfl⟩
     have He:Below w2.heap.size w2 W3:=by rw[fP];exact zA (zA (zR _) _) _
     have G9:W3.heap[w2.heap.size]?=J (.cells #[B P ec,N en,B P ea,B P ef,B P er,N eb] 36 (0,0)):=by
      rw[fP,Below.heap_alloc _ _ _ (by simp)];exact heap_alloc_new _ _
     have f0:W3.cell? ⟨w2.heap.size+1,0,I⟩=J (B P 0):=by rw[fP];simp[go_sem]
     have NE:Hid (¬R w2.heap.size/\¬G w2.heap.size/\¬R (w2.heap.size+1)):=⟨fun e=>by have:=P2.rs.lt e;omega,fun e=>by have:=P2.tm.lt e;omega,fun e=>by have:=P2.rs.lt e;omega⟩;have Oj:w2.heap.size<W3.heap.size:=(Y.1 G9).1;have ol:w2.heap.size+1<W3.heap.size:=World.block_lt_of_cell? _ _ f0;have P3:Hid (Wdt W W3 b r t X' X L' L0' (ti+cg) F2 R T G):=P2.grow He;clear HD CO h2 Hd dA P2 SH x0 x1 x2 x3 x4 x5 x6 x7 x8 He
     go_upto_region 14 with fail
     rw[<-fP];clear fP;generalize w2.heap.size=eb' at*;obtain⟨x0,x1,x2,x3,x4,x5,x6,x7,x8⟩:=XS.out _ P3.out.bel;obtain⟨⟨e0,e1,e2,e3,e4,e5⟩,_⟩:=zG G9;have MI:Hid (Wdt W W3.drew b r t X' X L' L0' (ti+cg) F2 R T G):=P3.out.grow (zR W3).drew
     go_region_held3 (fun w'=>(w'.cell? ⟨eb',0,I⟩=J (B P ec)/\w'.cell? ⟨eb',1,I⟩=J (N en)/\w'.cell? ⟨eb',2,I⟩=J (B P ea)/\w'.cell? ⟨eb',3,I⟩=J (B P ef)/\w'.cell? ⟨eb',4,I⟩=J (B P er)/\w'.cell? ⟨eb',5,I⟩=J (N eb))/\w'.cell? ⟨eb'+1,0,I⟩=J (B P 0)/\w'.cell? ⟨xb,xo+k*9,I⟩=J (B P kd)/\w'.cell? ⟨xb,xo+k*9+1,I⟩=J (B P cr)/\w'.cell? ⟨xb,xo+k*9+2,I⟩=J (B P mp)/\w'.cell? ⟨xb,xo+k*9+3,I⟩=J (B P ms)/\w'.cell? ⟨xb,xo+k*9+4,I⟩=J (B P mf)/\w'.cell? ⟨xb,xo+k*9+5,I⟩=J (B P mr)/\w'.cell? ⟨xb,xo+k*9+6,I⟩=J (B P xq)/\w'.cell? ⟨xb,xo+k*9+7,I⟩=J (B P xk)/\w'.cell? ⟨xb,xo+k*9+8,I⟩=J (N xu)) (go_keep)
      (first|(go_at_call 13;refine(RY _ MI.out.rs).mono ?_;rintro e w4 ⟨rfl,R4,h4,Hl,U4⟩;have P4:Hid _:=MI.out.stepR h4 Hl U4;have E4:Hid _:=(Hl.block eb' Oj NE.out.1).trans G9;have f4:=(Hl.cell (a:=⟨eb'+1,0,I⟩) ol NE.out.2.2).trans f0;obtain⟨⟨u0,u1,u2,u3,u4,u5⟩,_⟩:=zG E4.out;obtain⟨v0,v1,v2,v3,v4,v5,v6,v7,v8⟩:=XS.out _ P4.out.bel;clear h4 Hl U4))
     as_aux_lemma=>
     clear x0 x1 x2 x3 x4 x5 x6 x7 x8 e0 e1 e2 e3 e4 e5 G9 P3 MI RY f0 f4;have Fq:eb'<w4.heap.size:=(Y.1 E4.out).1;have MJ:Hid (Wdt W w4.drew b r t X' X' L' L0' (ti+cg) F2 R4 T G):=P4.out.grow (zR w4).drew
     go_upto_region 16 with fail
     go_region_held3 (fun w'=>(w'.cell? ⟨eb',0,I⟩=J (B P ec)/\w'.cell? ⟨eb',1,I⟩=J (N en)/\w'.cell? ⟨eb',2,I⟩=J (B P ea)/\w'.cell? ⟨eb',3,I⟩=J (B P ef)/\w'.cell? ⟨eb',4,I⟩=J (B P er)/\w'.cell? ⟨eb',5,I⟩=J (N eb))/\w'.cell? ⟨xb,xo+k*9,I⟩=J (B P kd)/\w'.cell? ⟨xb,xo+k*9+1,I⟩=J (B P cr)/\w'.cell? ⟨xb,xo+k*9+2,I⟩=J (B P mp)/\w'.cell? ⟨xb,xo+k*9+3,I⟩=J (B P ms)/\w'.cell? ⟨xb,xo+k*9+4,I⟩=J (B P mf)/\w'.cell? ⟨xb,xo+k*9+5,I⟩=J (B P mr)/\w'.cell? ⟨xb,xo+k*9+6,I⟩=J (B P xq)/\w'.cell? ⟨xb,xo+k*9+7,I⟩=J (B P xk)/\w'.cell? ⟨xb,xo+k*9+8,I⟩=J (N xu)) (go_keep)
      (first|(go_at_call 34;refine(aH _ MJ.out.tm).mono ?_;rintro e w5 ⟨rfl,NJ⟩;obtain⟨_,_,rA,_⟩:=id NJ;have E5:Hid _:=(rA.block eb' Fq NE.out.2.1).trans E4.out;obtain⟨G5,P5⟩:=MJ.out.stepT NJ;have P5:Hid _:=P5;obtain⟨⟨y0,y1,y2,y3,y4,y5⟩,_⟩:=zG E5.out;obtain⟨z0,z1,z2,z3,z4,z5,z6,z7,z8⟩:=XS.out _ P5.out.bel;clear rA NJ))
     as_aux_lemma=>
     clear u0 u1 u2 u3 u4 u5 v0 v1 v2 v3 v4 v5 v6 v7 v8 y0 y1 y2 y3 y4 y5 z0 z1 z2 z3 z4 z5 z6 z7 z8 E4 E5 P4 MJ aH Fq NE Oj ol;have Dg:Hid (Wdt W w5.drew b r t X' X' L' L0' (ti+cg) F2 R4 T' G5):=P5.out.grow (zR w5).drew;clear P5;obtain⟨sp,Fs,c0,sv⟩:=Dg.out.wt.space;obtain⟨bm,g0,g1,vm,r0,r3,mm⟩:=Dg.out.rs.told;obtain⟨at',ct,tc⟩:=Dg.out.tm.told
     have L1:(T'.L.length:Int)-1=ti+cg:=by have:=TN.out;omega
     have L2:IntKind.i64.wrap (ti+cg)=ti+cg:=by
      have h2:=TI.out;exact zr (by omega) (by omega)
     have C5:Hid (w5.drew.cell? ⟨b,0,I⟩=J (U (J ⟨sp,0,I⟩))/\w5.drew.cell? ⟨r,0,I⟩=J (U (J ⟨bm,0,I⟩))/\w5.drew.cell? ⟨r,3,I⟩=J (N X'.busy)/\w5.drew.cell? ⟨t,0,I⟩=J (O at' T'.L.length ct)):=⟨c0,r0,r3,tc⟩;have P5:Hid _:=Dg.out;clear Dg sv mm;generalize hm:ti+cg=m at*;have HM:Hid (ti+cg=m):=hm;clear hm
     go_upto_region 17 with fail
     go_region_held3 (fun w'=>w'.cell? ⟨b,0,I⟩=J (U (J ⟨sp,0,I⟩))/\w'.cell? ⟨r,0,I⟩=J (U (J ⟨bm,0,I⟩))/\w'.cell? ⟨r,3,I⟩=J (N X'.busy)/\w'.cell? ⟨t,0,I⟩=J (O at' T'.L.length ct)) (go_keep) (first
      | (go_at_call 22;refine(P8.out.rs.free C8.out.2.1).mono ?_;rintro e w9 ⟨rfl,bI⟩;have P9:Hid _:=P8.out.grow bI;have C9:Hid _:=jh bI C8.out;obtain⟨q90,q91,q92,q93⟩:=C9.out)
      | (go_at_call 21;refine(jx.free _ (P7.out.wt.at' C7.out.1).choose_spec).mono ?_;rintro e w8 ⟨rfl,su⟩;have P8:Hid _:=P7.out.grow su;have C8:Hid _:=jh su C7.out;obtain⟨q80,q81,q82,q83⟩:=C8.out)
      | (go_at_call 20;refine(jx.busy _ (P6.out.wt.at' C6.out.1).choose_spec).mono ?_;rintro e w7 ⟨rfl,tq⟩;have P7:Hid _:=P6.out.grow tq;have C7:Hid _:=jh tq C6.out;obtain⟨q70,q71,q72,q73⟩:=C7.out)
      | (go_at_call 35;refine(ybb _ P5.out.wt).mono ?_;rintro e w6 ⟨rfl,H7⟩;have P6:Hid _:=P5.out.grow H7;have C6:Hid _:=jh H7 C5.out;obtain⟨q60,q61,q62,q63⟩:=C6.out))
     all_goals
      go_wp2_with fail
      exact⟨⟨k+1,by omega,by go_num,⟨_,_,_,_,_,_,_,_,P9.out,TI.out.1,by have:=TI.out.2;omega,TN.out⟩⟩,by simp[intOf];omega⟩
    ·have i1:¬(k:Int)<(len:Int):=by omega
     obtain⟨X,L,L0,ti,F,R,T,G,S,_⟩:=HR.out;have HB:Hid (Below W.heap.size W wr):=S.bel;clear HR S
     go_wp2_with fail
     go_ret
     exact⟨rfl,HB.out⟩
set_option maxRecDepth 100000 in
theorem watchDoes_lifted (os:Os) (started:os.Started) (H:Type) (enc:TypeId×Value->H):
 ReturnsInHanded {} Tryz.checked os 4 .any (Rows.watchDoesSpec.pre6 enc Q Tryz.f4 Rows.watchDoesRow.domain false) (Rows.watchDoesSpec.post enc Q Tryz.f4 false true false false):=by
 refine returnsInHanded_of_change (C:=Tryz.checked) own started (by kernel_rfl) Tryz.func4
  (ChangeSpec.witness6 (enc:=enc) (C:=Tryz.checked) false ⟨#[],#[B P 0,B P 0,O I 0 0],[]⟩ 8 (by kernel_rfl) (by kernel_rfl) (by kernel_rfl) (by kernel_rfl)) ?_
 intro W base args ds gs before RL hW hcnd _;have wR:∀(j:Nat) t v,Tryz.f4.params[j]?=J t->args[j]?=J v->K Q W .any base t v:=RL;have TE:=hW;obtain⟨p,q,UQ,hV,rfl,wC,fD⟩:=hW;have hA:DataW.TrodAll enc Q W 0 (fun _=>true) true Tryz.f4.params.toList args.toList ds p:=UQ;rw[Tryz.params4]at hA wR;obtain⟨v0,vs0,d0,ds0,p0,q0,Ob,rfl,rfl,h0,r0⟩:=trodAll_cons hA;obtain⟨v1,vs1,d1,ds1,p1,q1,rfl,rfl,rfl,h1,r1⟩:=trodAll_cons r0;obtain⟨v2,vs2,d2,ds2,p2,q2,rfl,rfl,rfl,h2,r2⟩:=trodAll_cons r1;obtain⟨rfl,rfl,rfl⟩:=trodAll_nil r2
 obtain rfl:args=#[v0,v1,v2]:=by cases args;simp_all
 obtain⟨rfl,rfl⟩:=trodVars_none hV;obtain⟨IB,rfl,f0a⟩:=yeS (wR 0 3 v0 rfl rfl) h0;obtain⟨IC,rfl,f1a⟩:=yeS (wR 1 3 v1 rfl rfl) h1;obtain⟨IE,IG,II,IJ,rfl,I6⟩:=yfE (wR 2 22 v2 rfl rfl) h2;clear UQ RL;refine(watchDoes_walk W IB f0a IC f1a IE IG II IJ I6).mono fun e W' ⟨he,bel⟩=> ?_;subst he;exact⟨_,rfl,_,_,_,[],_,[],TE,trodAll_mk1 (shut_bool Tryz.underlying4 _),(trodAll_cons_mk (ygl (by kernel_rfl) (of_decide_eq_true (by kernel_rfl)) h0 bel) (trodAll_cons_mk (ygl (by kernel_rfl) (of_decide_eq_true (by kernel_rfl)) h1 bel) (trodAll_cons_mk (ygl (by kernel_rfl) (of_decide_eq_true (by kernel_rfl)) h2 bel) trodAll_mk0))),rfl,bel.frame _,fun h=>by cases h⟩
theorem watchDoes_over:Rows.watchDoesRow.holds Tryz.pinned (OpenSpec.ofChange Rows.watchDoesSpec):=
 OpenClaim.holds_of_wide 4 Tryz.f4 rfl rfl rfl rfl rfl rfl rfl ⟨rfl,rfl,rfl,rfl,rfl⟩ rfl rfl rfl rfl rfl (by kernel_rfl) Tryz.func4 (by kernel_rfl)
  (of_decide_eq_true (by kernel_rfl)) (by unfold Func.isWrapper;first|(rw[if_pos (by decide+kernel)];kernel_rfl)|(rw[if_neg (by decide+kernel)];exact⟨rfl,rfl⟩))
  (fun os started H enc _=>watchDoes_lifted os started H enc)
theorem watchDoes_proved:Rows.WatchDoesSaid:=watchDoes_over
#print axioms watchDoes_proved
end Go.Proofs.YtdphiompijbelaaGreat
