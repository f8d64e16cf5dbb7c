import Derived.Test.YtdphiompijbelaaGreatWtB
set_option linter.all false
set_option maxRecDepth 100000
open Go.World renaming cell?->O,cell?_setCell_other->E,cell?_setCell_same->H,frozen?_setCell->G
open Bool renaming false->U,true->M
open Go renaming World->Z
open Go.Ending renaming returned->Y
open Go.IntKind renaming i64->N
open Go.Value renaming pointer->B,int->S,bool->Q,agg->y,tuple->z
open Go.Proofs.Tryz renaming prog->J
open Option renaming none->I,some->P
set_option maxHeartbeats 4000000
namespace Go.Proofs.YtdphiompijbelaaGreat
open Go.RowKit Go.Sort
attribute [local go_sem] Loose.gent
theorem yem {w:Z} {b:Nat} {X:Pg.Spc} {F:Nat->Prop} (h:ybs w b X F):Calls J 17 #[B (P ⟨b,0,I⟩)] w fun e w'=>∃ad cap,e=Y (.slice ad X.maps.length cap)/\xN w' ad X.maps/\Below w.heap.size w w':=by
 obtain⟨D,h,rfl⟩:=h;refine(yaE w h).mono ?_;rintro e w' ⟨ad,cap,rfl,h1,h2,_⟩;exact⟨ad,cap,rfl,h1,h2⟩
theorem yfY {w:Z} {b:Nat} {X:Pg.Spc} {F:Nat->Prop} (k:Int) (h:ybs w b X F):Calls J 15 #[B (P ⟨b,0,I⟩),S N k] w fun e w'=>e=Y (z #[y #[S N (X.walkOf k).q,S N (X.walkOf k).k,Q (X.walkOf k).u],Q (X.walkOf k).on])/\Below w.heap.size w w':=by
 obtain⟨D,h,rfl⟩:=h;exact yfj k w h
theorem vT {w w':Z} {a1 a2:Addr} {v1 v2:Value} (hb:Below w.heap.size w w') (h:w.cell? a1=P v1/\w.cell? a2=P v2):w'.cell? a1=P v1/\w'.cell? a2=P v2:=⟨cell_later hb h.1,cell_later hb h.2⟩
section
variable {w w':Z} {b:Nat} {D:Wtd} {X X':Pg.Spc} {fl nw:List Pg.Mp} {ti st:Int} {A A':Ans}
theorem Wtk.booked (h:Wtk w b D X fl nw ti st A) (hb:But (fun k=>k=b\/w.heap.size<=k) w w') {nb':Nat} {nw':List Pg.Mp} {Fn':Nat->Prop}
 (c2:w'.cell? ⟨b,2,I⟩=P (B (P ⟨nb',0,I⟩))) (hc:∀p,p≠2->w'.cell? ⟨b,p,I⟩=w.cell? ⟨b,p,I⟩) (hz:∀p,w'.frozen? ⟨b,p,I⟩=U)
 (hs:qE w' nb' nw' Fn') (hF:∀k,Fn' k->w.heap.size<=k):Wtk w' b {D with nb:=nb',Fn:=Fn',own:=fun k=>if k<w.heap.size then D.own k else 2} X fl nw' ti st A:=
 ⟨(hc 0 (by decide)).trans h.c0,(hc 1 (by decide)).trans h.c1,c2,(hc 3 (by decide)).trans h.c3,(hc 4 (by decide)).trans h.c4,fun j hj=>(hc _ (by omega)).trans (h.dd j hj),(hc 9 (by decide)).trans h.c9,(hc 10 (by decide)).trans h.c10,hz,
  (h.parts.keep hb fun k hk hF e=>e.elim (fun e=>hk (by rw[e];exact h.parts.own0)) (fun e=>by have:=h.lt hF;omega)).booked (fun k hk=>h.lt hk) hs hF⟩
end
def jm (i:Nat) (d:Nat->Option Nat) (X:Pg.Spc) (nw:List Pg.Mp) (A:Ans):Ans:=fun j=>if j<i/\d j≠I then(X.walkOf j).ans nw::A j else A j
theorem qV {b:Nat} {D:Wtd} {X:Pg.Spc} {fl nw nw':List Pg.Mp} {ti st:Int} {A:Ans} (g:FuncId) (cb:Array Value) (w:Z) (h:Wtk w b D X fl nw ti st A) (hq:∀k,Pg.fits (X.walkOf k).q) (hmaps:X.maps=nw') (hlen:nw'.length<=5000)
 (hti:0<=ti/\ti<4611686018427387904) (eg:∀args w,(callFunc g args).run J w= .ok (.enter g args) w)
 (hf:∀(nb:Nat) (Fn:Nat->Prop) (w':Z),But (fun k=>k=b) w w'->qE w' nb nw Fn->Calls J g (#[B (P ⟨nb,0,I⟩)]++cb) w' fun e w''=>e=Y (z #[])/\∃F',qE w'' nb nw' F'/\But Fn w' w''/\∀k,F' k->Fn k\/w'.heap.size<=k):
 Calls J 125 #[B (P ⟨b,0,I⟩),.func (.func g) #[] cb] w fun e w'=>e=Y (Q M)/\∃D',Wtk w' b D' X fl nw' (ti+1) st (Pg.ykm D.d X nw' A)/\D'.d=D.d/\zd w b D w' D':=by
 have c2:=h.c2;have hlb:=h.lb;have hz:=h.fz;have HC:=ydo w h.parts.now;have HH:Hid _:=h;have HQ:Hid _:=hq;have HF:Hid _:=hf;clear h hq hf
 go_enter Tryz.func125,Tryz.ntmps125
 go_wp2_with fail
 refine HC.mono ?_;rintro e w1 ⟨nb,Fn,rfl,h1,hb1,hF1⟩;have k2:=cell_later hb1 c2;have kz:∀p,w1.frozen? ⟨b,p,I⟩=U:=fun p=>(hb1.frozen (p:=⟨b,p,I⟩) hlb).trans (hz p)
 have hne:∀k,Fn k->k≠b:=fun k hk e=>by have:=hF1 k hk;omega
 obtain⟨W2,hW2⟩:∃W2,W2=w1.setCell ⟨b,2,I⟩ (B (P ⟨nb,0,I⟩)):=⟨_,rfl⟩
 have B2:But (fun k=>k=b) w W2:=by rw[hW2];exact(But.yhf (F:=fun k=>k=b) hb1).trans (xI _ _ _ _) fun _ _ e=>e
 have c22:W2.cell? ⟨b,2,I⟩=P (B (P ⟨nb,0,I⟩)):=by rw[hW2];exact H _ _ _ k2
 have cc2:∀p,p≠2->W2.cell? ⟨b,p,I⟩=w.cell? ⟨b,p,I⟩:=fun p hp=>by
  rw[hW2];exact(E _ _ _ _ (fun h=>hp (congrArg Addr.off h).symm)).trans (hb1.cell (p:=⟨b,p,I⟩) hlb)
 have z2:∀p,W2.frozen? ⟨b,p,I⟩=U:=fun p=>by rw[hW2];exact(G _ _ _ _).trans (kz p)
 have d2:qE W2 nb nw Fn:=by rw[hW2];exact h1.keep (xI _ _ _ _) hne
 have HA:=HF.out nb Fn W2 B2 d2
 go_upto_region 2 with fail
 rw[<-hW2];clear hW2 k2 kz h1 HC c2
 go_upto_region 3 with (go_at_fn g;refine HA.mono ?_;rintro e w3 ⟨rfl,F3,h3,hb3,hF3⟩)
 have hb2:b<W2.heap.size:=Nat.lt_of_lt_of_le hlb B2.size;have hnb:¬Fn b:=fun e=>hne b e rfl;have B3:But (fun k=>k=b\/w.heap.size<=k) w w3:=(B2.mono fun _ _ e=> .inl e).trans hb3 fun i _ hi=> .inr (hF1 i hi)
 have T3:Hid (Wtk w3 b {D with nb:=nb,Fn:=F3,own:=fun k=>if k<w.heap.size then D.own k else 2} X fl nw' ti st A):=
  HH.out.booked B3 ((hb3.cell (a:=⟨b,2,I⟩) hb2 hnb).trans c22) (fun p hp=>(hb3.cell (a:=⟨b,p,I⟩) hb2 hnb).trans (cc2 p hp)) (fun p=>(hb3.frozen (a:=⟨b,p,I⟩) hb2 hnb).trans (z2 p)) h3
   fun k hk=>(hF3 k hk).elim (hF1 k) fun e=>Nat.le_trans B2.size e
 have D3:Hid (zd w b D w3 {D with nb:=nb,Fn:=F3,own:=fun k=>if k<w.heap.size then D.own k else 2}):=⟨B3.mono fun i hi e=>e.elim .inl fun e=>by omega,fun k hk=>by
  rcases hk with hk|hk|hk|hk|hk
  ·exact .inl (.inl hk)
  ·exact .inl (.inr (.inl hk))
  ·exact .inl (.inr (.inr (.inl hk)))
  ·exact .inr ((hF3 k hk).elim (hF1 k) fun e=>Nat.le_trans B2.size e)
  ·exact .inl (.inr (.inr (.inr (.inr hk))))⟩
 have c3:=T3.out.c3;have z3:=T3.out.fz;obtain⟨D1,hD1⟩:∃D1:Wtd,D1={D with nb:=nb,Fn:=F3,own:=fun k=>if k<w.heap.size then D.own k else 2}:=⟨_,rfl⟩
 have hd1:Hid (D1.d=D.d):=by rw[Hid,hD1]
 rw[<-hD1]at T3 D3;clear c22 cc2 z2 d2 HA hb3 hF3 h3 B2 B3 hb1 hF1 hne hb2 hnb hD1 HF HH hz;obtain⟨W4,hW4⟩:∃W4,W4=w3.setCell ⟨b,3,I⟩ (S N (ti+1)):=⟨_,rfl⟩
 have T4:Hid (Wtk W4 b D1 X fl nw' (ti+1) st A):=by rw[Hid,hW4];exact T3.out.timed _
 have D4:Hid (zd w b D W4 D1):=by rw[Hid,hW4];exact D3.out.trans (.set _ _ fun _=>id)
 have r1:IntKind.i64.wrap (ti+1)=ti+1:=xX (by omega) (by omega)
 go_upto_region 4 with fail
 try rw[r1]
 rw[<-hW4];clear hW4 T3 D3 c3 z3 r1;have d0:=T4.out.dd 0 (by decide);have d1:=T4.out.dd 1 (by decide);have d2:=T4.out.dd 2 (by decide);have d3:=T4.out.dd 3 (by decide);simp only[Nat.add_zero,Nat.reduceAdd]at d0 d1 d2 d3
 go_wp2_with fail
 clear d0 d1 d2 d3
 go_loopw [34] (fun i wr=>∃j:Nat,j<=4/\i=S N j/\Hid (Wtk wr b D1 X fl nw' (ti+1) st (jm j D1.d X nw' A))/\Hid (zd w b D wr D1)) (fun i _=>4-(intOf i).toNat)
 case atStart=>exact⟨0,by omega,rfl,T4.out.congr fun j _=>by unfold jm;rw[if_neg (by omega)],D4.out⟩
 case round=>
  obtain⟨j,hj,rfl,T5,D5⟩:=hrel;clear T4 D4
  have n0:∀w:Z,(binOp .neq 88 (.map I) (.map I)).run J w= .ok (Q U) w:=fun _=>by kernel_rfl
  have n1:∀(m:Nat) (w:Z),(binOp .neq 88 (.map (P m)) (.map I)).run J w= .ok (Q M) w:=fun _ _=>by kernel_rfl
  have ix0:∀(x0 x1 x2 x3:Option Nat) (w:Z),(Instr.index 89 (y #[.map x0,.map x1,.map x2,.map x3]) (S N 0)).run J w= .ok (.map x0) w:=fun _ _ _ _ _=>by kernel_rfl
  have ix1:∀(x0 x1 x2 x3:Option Nat) (w:Z),(Instr.index 89 (y #[.map x0,.map x1,.map x2,.map x3]) (S N 1)).run J w= .ok (.map x1) w:=fun _ _ _ _ _=>by kernel_rfl
  have ix2:∀(x0 x1 x2 x3:Option Nat) (w:Z),(Instr.index 89 (y #[.map x0,.map x1,.map x2,.map x3]) (S N 2)).run J w= .ok (.map x2) w:=fun _ _ _ _ _=>by kernel_rfl
  have ix3:∀(x0 x1 x2 x3:Option Nat) (w:Z),(Instr.index 89 (y #[.map x0,.map x1,.map x2,.map x3]) (S N 3)).run J w= .ok (.map x3) w:=fun _ _ _ _ _=>by kernel_rfl
  have i0:(0:Int)<=(j:Int):=by omega
  by_cases hlt:j<4
  ·cases hd:D1.d j with
   | none=>
     have R:Hid (Wtk wr b D1 X fl nw' (ti+1) st (jm (j+1) D1.d X nw' A)):=T5.out.congr fun i _=>by
      unfold jm
      by_cases e:i=j
      ·rw[if_neg (fun h=>h.2 (by rw[e];exact hd)),if_neg (fun h=>h.2 (by rw[e];exact hd))]
      ·by_cases e2:i<j/\D1.d i≠I
       ·rw[if_pos e2,if_pos ⟨by omega,e2.2⟩]
       ·rw[if_neg e2,if_neg (fun h=>e2 ⟨by omega,h.2⟩)]
     clear T5
     obtain rfl|rfl|rfl|rfl:j=0\/j=1\/j=2\/j=3:=by omega
     all_goals
      rw[hd]
      try simp only[Int.cast_ofNat_Int,Int.natCast_zero,Int.natCast_one]
      go_wp2_with fail
      go_roundw
      case rel=>exact⟨_,by omega,by go_num,R.out,D5.out⟩
      case measure=>simp[intOf]
   | some m=>
     have ON:=yfY (j:Int) T5.out.parts.space;have QF:=HQ.out (j:Int)
     have NEXT:Hid (∀w6 w7,Wtk w6 b D1 X fl nw' (ti+1) st (jm j D1.d X nw' A)->vj w7 m (((X.walkOf j).ans nw')::A j)->But (fun k=>k=m) w6 w7->Wtk w7 b D1 X fl nw' (ti+1) st (jm (j+1) D1.d X nw' A)):=fun w6 w7 h6 a7 hb7=>
      (h6.more hlt hd a7 hb7).congr fun i _=>by
        unfold jm
        by_cases e:i=j
        ·rw[if_pos e,if_pos ⟨by omega,by rw[e,hd];simp⟩,e]
        ·rw[if_neg e]
         by_cases e2:i<j/\D1.d i≠I
         ·rw[if_pos e2,if_pos ⟨by omega,e2.2⟩]
         ·rw[if_neg e2,if_neg (fun h=>e2 ⟨by omega,h.2⟩)]
     have DUE:Hid (∀w6,Wtk w6 b D1 X fl nw' (ti+1) st (jm j D1.d X nw' A)->vj w6 m (A j)):=fun w6 h6=>by
      have:=h6.parts.due j hlt m hd;unfold jm at this;rw[if_neg (by omega)]at this;exact this
     have ISF:Hid (∀k,k=m->D1.F b k):=fun k e=> .inr (.inr (.inr (.inr ⟨j,hlt,by rw[e];exact hd⟩)));have c0:=T5.out.c0;unfold Pg.Wk.ans Pg.ans3 at NEXT;generalize X.walkOf (j:Int)=K at*;obtain⟨ko,kq,kk,ku,kt,kl,kx⟩:=K;simp only at ON QF NEXT
     obtain rfl|rfl|rfl|rfl:j=0\/j=1\/j=2\/j=3:=by omega
     all_goals
      rw[hd]
      try simp only[Int.cast_ofNat_Int,Int.natCast_zero,Int.natCast_one]
      go_wp2_with fail
      refine ON.mono ?_;rintro e w6 ⟨rfl,hb6⟩;obtain⟨W7,hW7⟩:∃W7,W7=w6.alloc (.cells #[S N kq,S N kk,Q ku] 41):=⟨_,rfl⟩
      have hb7:Below wr.heap.size wr W7:=by rw[hW7];exact zA hb6 _
      have T7:Hid _:=T5.out.grow hb7;have D7:Hid (zd w b D W7 D1):=D5.out.trans (.below hb7)
      have y0:W7.cell? ⟨w6.heap.size,0,I⟩=P (S N kq):=by rw[hW7];simp[go_sem]
      have y1:W7.cell? ⟨w6.heap.size,1,I⟩=P (S N kk):=by rw[hW7];simp[go_sem]
      have y2:W7.cell? ⟨w6.heap.size,2,I⟩=P (Q ku):=by rw[hW7];simp[go_sem]
      have HB:=fun d os=>qM kq kk ku QF _ (T7.out.grow (below_regrown W7 d os)).parts.now;have g0:=cell_regrown y0;have g1:=cell_regrown y1;have g2:=cell_regrown y2;have g4:=cell_regrown T7.out.c2
      go_upto_region 9 with fail
      rw[<-hW7];clear hW7 hb6 hb7 T5 D5 y0 y1 y2 ON c0;refine Loose.yhh 7 (by kernel_rfl) (by kernel_rfl) ?_;simp only[List.take_succ_cons,List.take_zero,List.drop_succ_cons,List.drop_zero]
      repeat (
       refine Loose.zS (fun k hk=> ?_)
       go_simp
       first
        | (refine hk _ ?_;clear hk k)
        | (apply Exists.intro
           refine⟨fun _=> ?_,hk _ ?_⟩
           (go_at_call 164;exact Loose.calls (HB _ _))
           clear hk k))
      refine Loose.yhi ?_;intro w8 hb8;have T8:Hid _:=T7.out.grow hb8;have D8:Hid (zd w b D w8 D1):=D7.out.trans (.below hb8);have HA:=vr (Pg.ansE nw' kq kk ku) (Pg.ansF nw' kq kk ku) (Pg.ansR nw' kq kk ku) w8 (DUE.out _ T8.out);clear hb8 g0 g1 g2 g4 HB T7 D7
      go_wp2_with fail
      refine HA.mono ?_;rintro e w9 ⟨rfl,a9,hb9⟩;have T9:Hid _:=NEXT.out _ _ T8.out a9 hb9;have D9:Hid (zd w b D w9 D1):=D8.out.trans ⟨hb9.mono fun i _ e=>ISF.out i e,fun _=> .inl⟩;clear a9 hb9 HA T8 D8
      go_wp2_with fail
      go_roundw
      case rel=>exact⟨_,by omega,by go_num,T9.out,D9.out⟩
      case measure=>simp[intOf]
  ·obtain rfl:j=4:=by omega
   have d0:=T5.out.c0;have d2:=T5.out.c2
   have T6:Hid (Wtk wr b D1 X fl nw' (ti+1) st (Pg.ykm D1.d X nw' A)):=T5.out.congr fun i hi=>by
    unfold jm Pg.ykm
    by_cases e:D1.d i=I
    ·rw[if_pos e,if_neg (fun h=>h.2 e)]
    ·rw[if_neg e,if_pos ⟨hi,e⟩]
   clear T5 ix0 ix1 ix2 ix3 n0 n1
   go_upto_region 11 with fail
   have T7:Hid _:=T6.out.grow (zR wr).drew;have D7:Hid (zd w b D wr.drew D1):=D5.out.trans (.below (zR wr).drew);have C7:Hid (wr.drew.cell? ⟨b,0,I⟩=P (B (P ⟨D1.sp,0,I⟩))/\wr.drew.cell? ⟨b,2,I⟩=P (B (P ⟨D1.nb,0,I⟩))):=⟨d0,d2⟩;rw[hd1.out]at T7;clear T6 D5
   go_region_held3 (fun w'=>w'.cell? ⟨b,0,I⟩=P (B (P ⟨D1.sp,0,I⟩))/\w'.cell? ⟨b,2,I⟩=P (B (P ⟨D1.nb,0,I⟩))) (go_keep) (first
    | (go_at_call 165;refine(ycW _ m8.out m9.out hlen).mono ?_;rintro e w10 ⟨rfl,hb10⟩;have C10:Hid _:=vT hb10 C9.out;obtain⟨z40,z41⟩:=C10.out;have T10:Hid _:=T9.out.grow hb10;have D10:Hid (zd w b D w10 D1):=D9.out.trans (.below hb10))
    | (go_at_call 166;refine(ydr _ T8.out.parts.now).mono ?_;rintro e w9 ⟨ad9,cap9,rfl,m9,hb9,hn9⟩;have C9:Hid _:=vT hb9 C8.out;obtain⟨z30,z31⟩:=C9.out;have T9:Hid _:=T8.out.grow hb9;have D9:Hid (zd w b D w9 D1):=D8.out.trans (.below hb9);have m9:Hid _:=m9;have m8:Hid _:=xN.below m8.out hb9;clear hn9)
    | (go_at_call 17;refine(yem T7.out.parts.space).mono ?_;rw[hmaps];rintro e w8 ⟨ad8,cap8,rfl,m8,hb8⟩;have C8:Hid _:=vT hb8 C7.out;obtain⟨z20,z21⟩:=C8.out;have T8:Hid _:=T7.out.grow hb8;have D8:Hid (zd w b D w8 D1):=D7.out.trans (.below hb8);have m8:Hid _:=m8))
   all_goals
    go_wp2_with fail
    go_ret
    exact⟨rfl,D1,T10.out,hd1.out,D10.out⟩
theorem yad:∀args w,(callFunc 156 args).run J w= .ok (.enter 156 args) w:=fun args w=>by simp[go_sem]
theorem yae:∀args w,(callFunc 158 args).run J w= .ok (.enter 158 args) w:=fun args w=>by simp[go_sem]
theorem yaf:∀args w,(callFunc 160 args).run J w= .ok (.enter 160 args) w:=fun args w=>by simp[go_sem]
def zG (x:Pg.Sx):Obj:= .cells #[S N x.kind,S N x.core,S N x.m.p,S N x.m.s,S N x.m.f,S N x.m.r,S N x.q,S N x.k,Q x.u] 43
def jq (e:Pg.Ev):Obj:= .cells #[S N e.c,Q e.ended,S N e.a,S N e.f,S N e.r,Q e.back] 36
def yc5 (x:Pg.Sx) (c:Nat):Value:=
 if x.kind=1 then .func (.func 156) #[] #[B (P ⟨c,0,I⟩)]
 else if x.kind=2 then .func (.func 158) #[] #[B (P ⟨c,0,I⟩)]
 else if x.kind=3 then .func (.func 160) #[] #[B (P ⟨c,0,I⟩)]
 else .nilFunc
theorem qr (x:Pg.Sx) (w:Z):Calls J 124 #[x.val] w fun e w'=>e=Y (yc5 x w.heap.size)/\w'=w.alloc (zG x):=by
 obtain⟨kd,co,⟨p,s,f,r⟩,q,k,u⟩:=x;simp only[Pg.Sx.val,zG,yc5]
 by_cases h1:kd=1
 ·subst h1
  go_enter Tryz.func124,Tryz.ntmps124
  go_wp2_with fail
  go_ret
  exact⟨rfl,rfl⟩
 ·by_cases h2:kd=2
  ·subst h2
   go_enter Tryz.func124,Tryz.ntmps124
   go_wp2_with fail
   go_ret
   exact⟨rfl,rfl⟩
  ·by_cases h3:kd=3
   ·subst h3
    go_enter Tryz.func124,Tryz.ntmps124
    go_wp2_with fail
    go_ret
    exact⟨rfl,rfl⟩
   ·rw[if_neg h1,if_neg h2,if_neg h3]
    have e1:(kd==1)=U:=by simpa using h1
    have e2:(kd==2)=U:=by simpa using h2
    have e3:(kd==3)=U:=by simpa using h3
    go_enter Tryz.func124,Tryz.ntmps124
    go_wp2_with fail
    go_ret
    exact⟨rfl,rfl⟩
section
variable {w w':Z} {b:Nat} {D D':Wtd} {X:Pg.Spc} {fl nw:List Pg.Mp} {ti st:Int} {A:Ans}
theorem zd.block (h:zd w b D w' D') {r:Nat} (hr:¬D.F b r) (hl:r<w.heap.size):w'.heap[r]?=w.heap[r]?/\¬D'.F b r/\r<w'.heap.size:=
 ⟨h.but.block r hl hr,fun e=>(h.own r e).elim hr fun e=>by omega,Nat.lt_of_lt_of_le hl h.but.size⟩
structure jh (w:Z) (b:Nat) (D:Wtd) (n:Nat) (x:Pg.Sx) (e:Pg.Ev):Prop where
 sx:w.heap[n]?=P (zG x)
 ev:w.heap[n+1]?=P (jq e)
 nF:¬D.F b n
 nF':¬D.F b (n+1)
 lt:n+1<w.heap.size
theorem jh.done {n:Nat} {x:Pg.Sx} {e:Pg.Ev} (h:jh w b D n x e) (hd:zd w b D w' D'):jh w' b D' n x e:=by
 have hl:=h.lt;obtain⟨a1,a2,a3⟩:=hd.block h.nF (by omega);obtain⟨b1,b2,b3⟩:=hd.block h.nF' h.lt;exact⟨a1.trans h.sx,b1.trans h.ev,a2,b2,b3⟩
theorem jh.make (hlt:∀k,D.F b k->k<w.heap.size) (x:Pg.Sx) (e:Pg.Ev):jh ((w.alloc (zG x)).alloc (jq e)) b D w.heap.size x e:=by
 refine⟨?_,?_,fun h=>by have:=hlt _ h;omega,fun h=>by have:=hlt _ h;omega,by simp⟩
 ·rw[Below.heap_alloc _ _ _ (by simp)]
  exact heap_alloc_new _ _
 ·exact(by simp:(w.alloc (zG x)).heap.size=w.heap.size+1)▸heap_alloc_new _ _
theorem jh.cells {n:Nat} {x:Pg.Sx} {e:Pg.Ev} (h:jh w b D n x e):
 (w.cell? ⟨n,0,I⟩=P (S N x.kind)/\w.cell? ⟨n,1,I⟩=P (S N x.core)/\w.cell? ⟨n,2,I⟩=P (S N x.m.p)/\w.cell? ⟨n,3,I⟩=P (S N x.m.s)/\w.cell? ⟨n,4,I⟩=P (S N x.m.f)/\w.cell? ⟨n,5,I⟩=P (S N x.m.r)/\w.cell? ⟨n,6,I⟩=P (S N x.q)/\w.cell? ⟨n,7,I⟩=P (S N x.k)/\w.cell? ⟨n,8,I⟩=P (Q x.u))/\
 (w.cell? ⟨n+1,0,I⟩=P (S N e.c)/\w.cell? ⟨n+1,1,I⟩=P (Q e.ended)/\w.cell? ⟨n+1,2,I⟩=P (S N e.a)/\w.cell? ⟨n+1,3,I⟩=P (S N e.f)/\w.cell? ⟨n+1,4,I⟩=P (S N e.r)/\w.cell? ⟨n+1,5,I⟩=P (Q e.back)):=by
 have h1:=h.sx;have h2:=h.ev;unfold zG at h1;unfold jq at h2;exact⟨by simp[O,h1],by simp[O,h2]⟩
theorem yeW {n:Nat} {x:Pg.Sx} (h:w.heap[n]?=P (zG x)):ybv w n 2 x.m:=by
 unfold zG at h;exact⟨by simp[O,h],by simp[O,h],by simp[O,h],by simp[O,h]⟩
end
theorem ybq {b:Nat} (x:Pg.Sx) (e:Pg.Ev) (hc:e.c≠0) (w:Z):
 Calls J 74 #[B (P ⟨b,0,I⟩),x.val,e.val] w fun r w'=>r=Y (Q M)/\Below w.heap.size w w':=by
 have HB:Hid (Below w.heap.size w ((w.alloc (zG x)).alloc (jq e))):=zA (zA (zR _) _) _;obtain⟨kd,co,⟨p,s,f,r⟩,q,k,u⟩:=x;obtain⟨ec,en,ea,ef,er,eb⟩:=e;simp only[Pg.Sx.val,Pg.Ev.val,zG,jq]at HB hc ⊢
 have e1:(ec==0)=U:=by simpa using hc
 go_enter Tryz.func74,Tryz.ntmps74
 go_wp2_with fail
 go_ret
 exact⟨rfl,HB.out⟩
def flN (e:Pg.Ev) (fl nw:List Pg.Mp):List Pg.Mp:=if e.back=M then nw else fl
theorem yas {b:Nat} {D:Wtd} {X:Pg.Spc} {fl nw:List Pg.Mp} {ti st:Int} {A:Ans} (x:Pg.Sx) (e:Pg.Ev) (hc:e.c=0) (hk:¬(1<=x.kind/\x.kind<=4)) (he:e.ended=U) (w:Z) (h:Wtk w b D X fl nw ti st A):
 Calls J 74 #[B (P ⟨b,0,I⟩),x.val,e.val] w fun r w'=>r=Y (Q M)/\∃D',Wtk w' b D' X (flN e fl nw) nw ti st A/\D'.d=D.d/\zd w b D w' D':=by
 obtain⟨W,hW⟩:∃W,W=(w.alloc (zG x)).alloc (jq e):=⟨_,rfl⟩
 have hB:Below w.heap.size w W:=by rw[hW];exact zA (zA (zR _) _) _
 have L0:jh W b D w.heap.size x e:=by rw[hW];exact .make (fun k hk=>h.lt hk) x e
 have T0:=h.grow hB;have TA:Hid _:=T0.grow (zA (zR W) (zG x));have DA:Hid (zd w b D (W.alloc (zG x)) D):=(zd.below hB).trans (.below (zA (zR W) (zG x)));have HA:=qr x W;obtain⟨⟨x0,x1,x2,x3,x4,x5,x6,x7,x8⟩,⟨y0,y1,y2,y3,y4,y5⟩⟩:=L0.cells;obtain⟨⟨u0,u1,u2,u3,u4,u5,u6,u7,u8⟩,⟨v0,v1,v2,v3,v4,v5⟩⟩:=(L0.done (.below (D:=D) (zA (zR W) (zG x)))).cells
 have hkv:yc5 x W.heap.size= .nilFunc:=by
  unfold yc5;rw[if_neg (by omega),if_neg (by omega),if_neg (by omega)]
 rw[hkv]at HA;have c2:=TA.out.c2;have c1:=TA.out.c1;have z1:=TA.out.fz
 have e4:(x.kind==4)=U:=by simp;omega
 obtain⟨V,hV⟩:∃V,V=W.alloc (zG x):=⟨_,rfl⟩;rw[<-hV]at HA TA DA u0 u1 u2 u3 u4 u5 u6 u7 u8 v0 v1 v2 v3 v4 v5 c1 c2 z1;have OV:Hid (Wtk (V.setCell ⟨b,1,I⟩ (B (P ⟨D.nb,0,I⟩))) b {D with fb:=D.nb,Ff:=D.Fn} X nw nw ti st A):=TA.out.over
 have OD:Hid (zd w b D (V.setCell ⟨b,1,I⟩ (B (P ⟨D.nb,0,I⟩))) {D with fb:=D.nb,Ff:=D.Fn}):=DA.out.trans (.set _ _ fun k hk=>by
  rcases hk with hk|hk|hk|hk|hk
  ·exact .inl hk
  ·exact .inr (.inl hk)
  ·exact .inr (.inr (.inr (.inl hk)))
  ·exact .inr (.inr (.inr (.inl hk)))
  ·exact .inr (.inr (.inr (.inr hk))))
 have n0:∀w:Z,(binOp .neq 217 .nilFunc .nilFunc).run J w= .ok (Q U) w:=fun _=>by kernel_rfl
 have nb1:w.heap.size≠b:=fun e=>by have:=h.lb;omega
 have nb2:w.heap.size+1≠b:=fun e=>by have:=h.lb;omega
 have hbn:b≠w.heap.size:=nb1.symm;have hbn':b≠w.heap.size+1:=nb2.symm;clear h L0 T0 hkv hV hB hk;obtain⟨kd,co,⟨p,s,f,r⟩,q,k,u⟩:=x;obtain⟨ec,en,ea,ef,er,eb⟩:=e;simp only at hc he;subst hc he;simp only[Pg.Sx.val,Pg.Ev.val,zG,jq]at HA hW x0 x1 x2 x3 x4 x5 x6 x7 x8 y0 y1 y2 y3 y4 y5 u0 u1 u2 u3 u4 u5 u6 u7 u8 v0 v1 v2 v3 v4 v5 e4 ⊢;cases eb
 ·go_enter Tryz.func74,Tryz.ntmps74
  go_upto_region 1 with fail
  rw[<-hW];clear hW
  go_wp2_with fail
  refine HA.mono ?_;rintro r w1 ⟨rfl,rfl⟩
  go_wp2_with fail
  go_ret
  exact⟨rfl,D,TA.out,rfl,DA.out⟩
 ·go_enter Tryz.func74,Tryz.ntmps74
  go_upto_region 1 with fail
  rw[<-hW];clear hW
  go_wp2_with fail
  refine HA.mono ?_;rintro r w1 ⟨rfl,rfl⟩
  go_wp2_with fail
  go_ret
  exact⟨rfl,_,OV.out,rfl,OD.out⟩
theorem vX {b:Nat} {D:Wtd} {X:Pg.Spc} {fl nw:List Pg.Mp} {ti st:Int} {A:Ans} (x:Pg.Sx) (e:Pg.Ev) (hc:e.c=0) (hk:x.kind=5) (he:e.ended=M) (hbk:e.back=U) (h0:0<=x.core) (h4:x.core<4) (hd:D.d x.core.toNat≠I) (ha:(e.a,e.f,e.r) ∈ A x.core.toNat) (w:Z) (h:Wtk w b D X fl nw ti st A):
 Calls J 74 #[B (P ⟨b,0,I⟩),x.val,e.val] w fun r w'=>r=Y (Q M)/\∃D',Wtk w' b D' X fl nw ti st A/\D'.d=(fun j=>if j=x.core.toNat then I else D.d j)/\zd w b D w' D':=by
 obtain⟨W,hW⟩:∃W,W=(w.alloc (zG x)).alloc (jq e):=⟨_,rfl⟩
 have hB:Below w.heap.size w W:=by rw[hW];exact zA (zA (zR _) _) _
 have L0:jh W b D w.heap.size x e:=by rw[hW];exact .make (fun k hk=>h.lt hk) x e
 have T0:=h.grow hB;have HA:=qr x W;obtain⟨V,hV⟩:∃V,V=W.alloc (zG x):=⟨_,rfl⟩
 have hBV:Below W.heap.size W V:=by rw[hV];exact zA (zR W) _
 have L1:jh V b D w.heap.size x e:=L0.done (.below hBV);have T1:Hid _:=T0.grow hBV;have D1:Hid (zd w b D V D):=(zd.below hB).trans (.below hBV);obtain⟨⟨x0,x1,x2,x3,x4,x5,x6,x7,x8⟩,⟨y0,y1,y2,y3,y4,y5⟩⟩:=L0.cells;obtain⟨⟨u0,u1,u2,u3,u4,u5,u6,u7,u8⟩,⟨v0,v1,v2,v3,v4,v5⟩⟩:=L1.cells
 have hkv:yc5 x W.heap.size= .nilFunc:=by
  unfold yc5;rw[if_neg (by omega),if_neg (by omega),if_neg (by omega)]
 rw[hkv]at HA;have HE:=ycf x.core.toNat (by omega) e.a e.f e.r hd ha V T1.out;rw[show((x.core.toNat:Nat):Int)=x.core by omega]at HE
 have n0:∀w:Z,(binOp .neq 217 .nilFunc .nilFunc).run J w= .ok (Q U) w:=fun _=>by kernel_rfl
 rw[<-hV]at HA;clear h L0 L1 T0 hkv hV hB hBV T1 h0 h4 hd ha;obtain⟨kd,co,⟨p,s,f,r⟩,q,k,u⟩:=x;obtain⟨ec,en,ea,ef,er,eb⟩:=e;simp only at hc he hbk hk;subst hc he hbk hk;simp only[Pg.Sx.val,Pg.Ev.val,zG,jq]at HA hW x0 x1 x2 x3 x4 x5 x6 x7 x8 y0 y1 y2 y3 y4 y5 u0 u1 u2 u3 u4 u5 u6 u7 u8 v0 v1 v2 v3 v4 v5 HE ⊢
 go_enter Tryz.func74,Tryz.ntmps74
 go_upto_region 1 with fail
 rw[<-hW];clear hW
 go_wp2_with fail
 refine HA.mono ?_;rintro r w1 ⟨rfl,rfl⟩
 go_wp2_with fail
 refine HE.mono ?_;rintro r w2 ⟨rfl,T2,D2⟩;have T2:Hid _:=T2;have D2:Hid _:=D1.out.trans D2
 go_wp2_with fail
 go_ret
 exact⟨rfl,_,T2.out,rfl,D2.out⟩
theorem vV {b:Nat} {D:Wtd} {X:Pg.Spc} {fl nw:List Pg.Mp} {ti st:Int} {A:Ans} (x:Pg.Sx) (hq:Pg.fits x.q) (e:Pg.Ev) (hc:e.c=0) (hk:x.kind=4) (he:e.ended=U) (hbk:e.back=U) (h0:0<=x.core) (h4:x.core<4) (w:Z) (h:Wtk w b D X fl nw ti st A):
 Calls J 74 #[B (P ⟨b,0,I⟩),x.val,e.val] w fun r w'=>r=Y (Q M)/\∃D' m,Wtk w' b D' X fl nw ti st (fun j=>if j=x.core.toNat then [Pg.ans3 nw x.q x.k x.u,Pg.ans3 fl x.q x.k x.u]else A j)/\D'.d=(fun j=>if j=x.core.toNat then P m else D.d j)/\zd w b D w' D':=by
 obtain⟨W,hW⟩:∃W,W=(w.alloc (zG x)).alloc (jq e):=⟨_,rfl⟩
 have hB:Below w.heap.size w W:=by rw[hW];exact zA (zA (zR _) _) _
 have L0:jh W b D w.heap.size x e:=by rw[hW];exact .make (fun k hk=>h.lt hk) x e
 have T0:=h.grow hB;have HA:=qr x W;obtain⟨V,hV⟩:∃V,V=W.alloc (zG x):=⟨_,rfl⟩
 have hBV:Below W.heap.size W V:=by rw[hV];exact zA (zR W) _
 have L1:jh V b D w.heap.size x e:=L0.done (.below hBV);have T1:Hid _:=T0.grow hBV;have D1:Hid (zd w b D V D):=(zd.below hB).trans (.below hBV);obtain⟨⟨x0,x1,x2,x3,x4,x5,x6,x7,x8⟩,⟨y0,y1,y2,y3,y4,y5⟩⟩:=L0.cells;obtain⟨⟨u0,u1,u2,u3,u4,u5,u6,u7,u8⟩,⟨v0,v1,v2,v3,v4,v5⟩⟩:=L1.cells
 have hkv:yc5 x W.heap.size= .nilFunc:=by
  unfold yc5;rw[if_neg (by omega),if_neg (by omega),if_neg (by omega)]
 rw[hkv]at HA;have HE:=vU x.core.toNat (by omega) x.q x.k x.u hq V T1.out;rw[show((x.core.toNat:Nat):Int)=x.core by omega]at HE
 have n0:∀w:Z,(binOp .neq 217 .nilFunc .nilFunc).run J w= .ok (Q U) w:=fun _=>by kernel_rfl
 rw[<-hV]at HA;have LD:Hid _:=L1;clear h L0 L1 T0 hkv hV hB hBV T1 h0 h4;generalize hA':(fun j=>if j=x.core.toNat then [Pg.ans3 nw x.q x.k x.u,Pg.ans3 fl x.q x.k x.u]else A j)=A' at HE ⊢;generalize hDD:(fun(m:Nat) (j:Nat)=>if j=x.core.toNat then P m else D.d j)=DD;have HDD:Hid (∀m,(fun j=>if j=x.core.toNat then P m else D.d j)=DD m):=fun m=>congrFun hDD m;have HE:Hid (Calls _ _ _ _ _):=HE;clear hA' hDD;obtain⟨kd,co,⟨p,s,f,r⟩,q,k,u⟩:=x;obtain⟨ec,en,ea,ef,er,eb⟩:=e;simp only at hc he hbk hk;subst hc he hbk hk;simp only[Pg.Sx.val,Pg.Ev.val,zG,jq]at HA hW x0 x1 x2 x3 x4 x5 x6 x7 x8 y0 y1 y2 y3 y4 y5 u0 u1 u2 u3 u4 u5 u6 u7 u8 v0 v1 v2 v3 v4 v5 ⊢
 go_enter Tryz.func74,Tryz.ntmps74
 go_upto_region 1 with fail
 rw[<-hW];clear hW
 go_wp2_with fail
 refine HA.mono ?_;rintro r w1 ⟨rfl,rfl⟩
 go_wp2_with fail
 refine Calls.mono HE.out ?_;rintro r w2 ⟨rfl,D',m,T2,d2,D2⟩;have T2:Hid _:=T2;have d2:Hid _:=d2;obtain⟨⟨u0,u1,u2,u3,u4,u5,u6,u7,u8⟩,⟨v0,v1,v2,v3,v4,v5⟩⟩:=(LD.out.done D2).cells;simp only at u0 u1 u2 u3 u4 u5 u6 u7 u8 v0 v1 v2 v3 v4 v5;have D2:Hid _:=D1.out.trans D2;clear HE LD
 go_wp2_with fail
 go_ret
 exact⟨rfl,D',m,T2.out,d2.out,D2.out⟩
theorem ybr {b:Nat} {D:Wtd} {X:Pg.Spc} {fl nw:List Pg.Mp} {ti st:Int} {A:Ans} (x:Pg.Sx) (hq:Pg.fits x.q) (e:Pg.Ev) (hc:e.c=0) (hk:x.kind=4) (he:e.ended=M) (hbk:e.back=U) (h0:0<=x.core) (h4:x.core<4) (ha:(e.a,e.f,e.r) ∈ [Pg.ans3 nw x.q x.k x.u,Pg.ans3 fl x.q x.k x.u]) (w:Z) (h:Wtk w b D X fl nw ti st A):
 Calls J 74 #[B (P ⟨b,0,I⟩),x.val,e.val] w fun r w'=>r=Y (Q M)/\∃D',Wtk w' b D' X fl nw ti st (fun j=>if j=x.core.toNat then [Pg.ans3 nw x.q x.k x.u,Pg.ans3 fl x.q x.k x.u]else A j)/\D'.d=(fun j=>if j=x.core.toNat then I else D.d j)/\zd w b D w' D':=by
 obtain⟨W,hW⟩:∃W,W=(w.alloc (zG x)).alloc (jq e):=⟨_,rfl⟩
 have hB:Below w.heap.size w W:=by rw[hW];exact zA (zA (zR _) _) _
 have L0:jh W b D w.heap.size x e:=by rw[hW];exact .make (fun k hk=>h.lt hk) x e
 have T0:=h.grow hB;have HA:=qr x W;obtain⟨V,hV⟩:∃V,V=W.alloc (zG x):=⟨_,rfl⟩
 have hBV:Below W.heap.size W V:=by rw[hV];exact zA (zR W) _
 have L1:jh V b D w.heap.size x e:=L0.done (.below hBV);have T1:Hid _:=T0.grow hBV;have D1:Hid (zd w b D V D):=(zd.below hB).trans (.below hBV);obtain⟨⟨x0,x1,x2,x3,x4,x5,x6,x7,x8⟩,⟨y0,y1,y2,y3,y4,y5⟩⟩:=L0.cells;obtain⟨⟨u0,u1,u2,u3,u4,u5,u6,u7,u8⟩,⟨v0,v1,v2,v3,v4,v5⟩⟩:=L1.cells
 have hkv:yc5 x W.heap.size= .nilFunc:=by
  unfold yc5;rw[if_neg (by omega),if_neg (by omega),if_neg (by omega)]
 rw[hkv]at HA;have HE:=vU x.core.toNat (by omega) x.q x.k x.u hq V T1.out;rw[show((x.core.toNat:Nat):Int)=x.core by omega]at HE
 have n0:∀w:Z,(binOp .neq 217 .nilFunc .nilFunc).run J w= .ok (Q U) w:=fun _=>by kernel_rfl
 rw[<-hV]at HA;have LD:Hid _:=L1
 have EN:Hid (∀w2 D' m,Wtk w2 b D' X fl nw ti st (fun j=>if j=x.core.toNat then [Pg.ans3 nw x.q x.k x.u,Pg.ans3 fl x.q x.k x.u]else A j)->D'.d=(fun j=>if j=x.core.toNat then P m else D.d j)->
  Calls J 127 #[B (P ⟨b,0,I⟩),S N x.core,y #[S N e.a,S N e.f,S N e.r]] w2 fun r w'=>r=Y (Q M)/\∃D3,Wtk w' b D3 X fl nw ti st (fun j=>if j=x.core.toNat then [Pg.ans3 nw x.q x.k x.u,Pg.ans3 fl x.q x.k x.u]else A j)/\D3.d=(fun j=>if j=x.core.toNat then I else D.d j)/\zd w2 b D' w' D3):=fun w2 D' m T2 d2=>by
  have:=ycf x.core.toNat (by omega) e.a e.f e.r (by rw[d2];simp) (by rw[if_pos rfl];exact ha) w2 T2;rw[show((x.core.toNat:Nat):Int)=x.core by omega]at this;refine this.mono ?_;rintro r w' ⟨rfl,T3,D3⟩;refine⟨rfl,_,T3,?_,D3⟩
  show(fun i=>if i=x.core.toNat then I else D'.d i)=_
  funext j
  rw[d2]
  by_cases ej:j=x.core.toNat
  ·rw[if_pos ej,if_pos ej]
  ·rw[if_neg ej,if_neg ej]
   simp only[if_neg ej]
 clear h L0 L1 T0 hkv hV hB hBV T1 h0 h4 ha;generalize hA':(fun j=>if j=x.core.toNat then [Pg.ans3 nw x.q x.k x.u,Pg.ans3 fl x.q x.k x.u]else A j)=A' at HE EN ⊢;have HE:Hid (Calls _ _ _ _ _):=HE;clear hA';obtain⟨kd,co,⟨p,s,f,r⟩,q,k,u⟩:=x;obtain⟨ec,en,ea,ef,er,eb⟩:=e;simp only at hc he hbk hk;subst hc he hbk hk;simp only[Pg.Sx.val,Pg.Ev.val,zG,jq]at HA hW x0 x1 x2 x3 x4 x5 x6 x7 x8 y0 y1 y2 y3 y4 y5 u0 u1 u2 u3 u4 u5 u6 u7 u8 v0 v1 v2 v3 v4 v5 ⊢
 go_enter Tryz.func74,Tryz.ntmps74
 go_upto_region 1 with fail
 rw[<-hW];clear hW
 go_wp2_with fail
 refine HA.mono ?_;rintro r w1 ⟨rfl,rfl⟩
 go_wp2_with fail
 refine Calls.mono HE.out ?_;rintro r w2 ⟨rfl,D',m,T2,d2,D2⟩;have EN:Hid (Calls _ _ _ _ _):=EN.out w2 D' m T2 d2;obtain⟨⟨u0,u1,u2,u3,u4,u5,u6,u7,u8⟩,⟨v0,v1,v2,v3,v4,v5⟩⟩:=(LD.out.done D2).cells;simp only at u0 u1 u2 u3 u4 u5 u6 u7 u8 v0 v1 v2 v3 v4 v5;have D2:Hid _:=D1.out.trans D2;clear HE LD T2 d2
 go_wp2_with fail
 refine Calls.mono EN.out ?_;rintro r w3 ⟨rfl,D3,T3,d3,D3'⟩;have T3:Hid _:=T3;have d3:Hid _:=d3;have D3':Hid _:=D2.out.trans D3';clear EN D2
 go_wp2_with fail
 go_ret
 exact⟨rfl,D3,T3.out,d3.out,D3'.out⟩
theorem vW {b:Nat} {D:Wtd} {X:Pg.Spc} {fl nw:List Pg.Mp} {ti st:Int} {A:Ans} (x:Pg.Sx) (hx:Pg.fits x.m.p) (e:Pg.Ev) (hc:e.c=0) (hk:1<=x.kind/\x.kind<=3) (he:e.ended=U) (w:Z) (h:Wtk w b D X fl nw ti st A)
 (hq:∀k,Pg.fits (X.walkOf k).q) (hmaps:X.maps=Pg.opL nw x) (hlen:(Pg.opL nw x).length<=5000) (hti:0<=ti/\ti<4611686018427387904):
 Calls J 74 #[B (P ⟨b,0,I⟩),x.val,e.val] w fun r w'=>r=Y (Q M)/\∃D',Wtk w' b D' X (flN e fl (Pg.opL nw x)) (Pg.opL nw x) (ti+1) st (Pg.ykm D.d X (Pg.opL nw x) A)/\D'.d=D.d/\zd w b D w' D':=by
 obtain⟨W,hW⟩:∃W,W=(w.alloc (zG x)).alloc (jq e):=⟨_,rfl⟩
 have hB:Below w.heap.size w W:=by rw[hW];exact zA (zA (zR _) _) _
 have L0:jh W b D w.heap.size x e:=by rw[hW];exact .make (fun k hk=>h.lt hk) x e
 have T0:=h.grow hB;have HA:=qr x W;obtain⟨V,hV⟩:∃V,V=W.alloc (zG x):=⟨_,rfl⟩
 have hBV:Below W.heap.size W V:=by rw[hV];exact zA (zR W) _
 have L1:jh V b D w.heap.size x e:=L0.done (.below hBV);have T1:Hid _:=T0.grow hBV;have D1:Hid (zd w b D V D):=(zd.below hB).trans (.below hBV);obtain⟨⟨x0,x1,x2,x3,x4,x5,x6,x7,x8⟩,⟨y0,y1,y2,y3,y4,y5⟩⟩:=L0.cells;obtain⟨⟨u0,u1,u2,u3,u4,u5,u6,u7,u8⟩,⟨v0,v1,v2,v3,v4,v5⟩⟩:=L1.cells
 have n1:∀(w:Z) (g:FuncId) (cb:Array Value),(binOp .neq 217 (.func (.func g) #[] cb) .nilFunc).run J w= .ok (Q M) w:=fun _ _ _=>by kernel_rfl
 have hbl:=h.lb
 have hWb:W.heap.size≠b:=fun e=>by have:=hB.size;omega
 have hsV:V.heap.size=W.heap.size+1:=by rw[hV];simp
 have sxV:V.heap[W.heap.size]?=P (zG x):=by rw[hV];exact heap_alloc_new _ _
 have MP:∀w',But (fun k=>k=b) V w'->ybv w' W.heap.size 2 x.m:=fun w' hb'=>yeW ((hb'.block W.heap.size (by omega) hWb).trans sxV)
 obtain⟨g,hg,CH⟩:∃g,yc5 x W.heap.size= .func (.func g) #[] #[B (P ⟨W.heap.size,0,I⟩)]/\Hid (Calls J 125 #[B (P ⟨b,0,I⟩),.func (.func g) #[] #[B (P ⟨W.heap.size,0,I⟩)]] V fun r w'=>r=Y (Q M)/\∃D',Wtk w' b D' X fl (Pg.opL nw x) (ti+1) st (Pg.ykm D.d X (Pg.opL nw x) A)/\D'.d=D.d/\zd V b D w' D'):=by
  obtain k1|k2|k3:x.kind=1\/x.kind=2\/x.kind=3:=by omega
  ·refine⟨156,by unfold yc5;rw[if_pos k1],qV _ _ V T1.out hq hmaps hlen hti yad fun nb Fn w' hb' hd=> ?_⟩
   rw[show Pg.opL nw x=Pg.addL nw x.m by unfold Pg.opL;rw[if_pos k1]];exact ycm x hx w' hd (MP w' hb')
  ·refine⟨158,by unfold yc5;rw[if_neg (by omega),if_pos k2],qV _ _ V T1.out hq hmaps hlen hti yae fun nb Fn w' hb' hd=> ?_⟩
   rw[show Pg.opL nw x=Pg.yif nw x.m.p by unfold Pg.opL;rw[if_neg (by omega),if_pos k2]];exact ycn x hx w' hd (MP w' hb')
  ·refine⟨160,by unfold yc5;rw[if_neg (by omega),if_neg (by omega),if_pos k3],qV _ _ V T1.out hq hmaps hlen hti yaf fun nb Fn w' hb' hd=> ?_⟩
   rw[show Pg.opL nw x=Pg.yiO nw x.m.p x.m.r by unfold Pg.opL;rw[if_neg (by omega),if_neg (by omega)]];exact yco x hx w' hd (MP w' hb')
 rw[hg]at HA;rw[<-hV]at HA;have LD:Hid _:=L1
 have e4:(x.kind==4)=U:=by simp;omega
 have nb1:w.heap.size≠b:=fun e=>by omega
 have nb2:w.heap.size+1≠b:=fun e=>by omega
 have hbn:b≠w.heap.size:=nb1.symm;have hbn':b≠w.heap.size+1:=nb2.symm;clear h L0 L1 T0 hV hB hBV T1 MP hq hmaps hlen hti sxV hsV hg hk hWb hbl;generalize Pg.opL nw x=nw' at*;obtain⟨kd,co,⟨p,s,f,r⟩,q,k,u⟩:=x;obtain⟨ec,en,ea,ef,er,eb⟩:=e;simp only at hc he;subst hc he;simp only[Pg.Sx.val,Pg.Ev.val,zG,jq]at HA hW x0 x1 x2 x3 x4 x5 x6 x7 x8 y0 y1 y2 y3 y4 y5 u0 u1 u2 u3 u4 u5 u6 u7 u8 v0 v1 v2 v3 v4 v5 e4 ⊢;cases eb
 all_goals
  go_enter Tryz.func74,Tryz.ntmps74
  go_upto_region 1 with fail
  rw[<-hW];clear hW
  go_wp2_with fail
  refine HA.mono ?_;rintro r w1 ⟨rfl,rfl⟩
  go_wp2_with fail
  refine Calls.mono CH.out ?_;rintro r w2 ⟨rfl,D',T2,d2,D2⟩;obtain⟨⟨u0,u1,u2,u3,u4,u5,u6,u7,u8⟩,⟨v0,v1,v2,v3,v4,v5⟩⟩:=(LD.out.done D2).cells;simp only at u0 u1 u2 u3 u4 u5 u6 u7 u8 v0 v1 v2 v3 v4 v5;have T2:Hid _:=T2;have d2:Hid _:=d2;have D2:Hid _:=D1.out.trans D2;have c1:=T2.out.c1;have c2:=T2.out.c2;have z1:=T2.out.fz;have OV:Hid (Wtk (w2.setCell ⟨b,1,I⟩ (B (P ⟨D'.nb,0,I⟩))) b {D' with fb:=D'.nb,Ff:=D'.Fn} X nw' nw' (ti+1) st _):=T2.out.over
  have OD:Hid (zd w b D (w2.setCell ⟨b,1,I⟩ (B (P ⟨D'.nb,0,I⟩))) {D' with fb:=D'.nb,Ff:=D'.Fn}):=D2.out.trans (.set _ _ fun k hk=>by
   rcases hk with hk|hk|hk|hk|hk
   ·exact .inl hk
   ·exact .inr (.inl hk)
   ·exact .inr (.inr (.inr (.inl hk)))
   ·exact .inr (.inr (.inr (.inl hk)))
   ·exact .inr (.inr (.inr (.inr hk))))
  clear CH LD
  go_wp2_with fail
  go_ret
  first
   | exact⟨rfl,D',T2.out,d2.out,D2.out⟩
   | exact⟨rfl,_,OV.out,d2.out,OD.out⟩
def Pg.Spc.chg (X:Pg.Spc) (x:Pg.Sx):Int:=if 1<=x.kind/\x.kind<=3/\(X.goE x).c=0 then 1 else 0
theorem yed {X:Pg.Spc} (x:Pg.Sx) (hk:1<=x.kind/\x.kind<=3):(X.goE x).ended=U:=by
 unfold Pg.Spc.goE;rw[if_pos hk];unfold Pg.Spc.chE;split
 ·rfl
 ·split
  ·rfl
  ·split<;>rfl
theorem ydl {X:Pg.Spc} (x:Pg.Sx) (hk:x.kind=4\/x.kind=5) (hc:(X.goE x).c=0):0<=x.core/\x.core<X.C.length:=by
 unfold Pg.Spc.goE at hc;rw[if_neg (by omega),if_neg (by omega)]at hc
 by_cases hr:x.core<0\/(X.C.length:Int)<=x.core
 ·rw[if_pos hr]at hc
  cases hc
 ·omega
theorem ybA {X:Pg.Spc} (x:Pg.Sx) (hk:x.kind=4\/x.kind=5):(X.goE x).back=U:=by
 unfold Pg.Spc.goE;rw[if_neg (by omega),if_neg (by omega)];split
 ·rfl
 ·split
  ·rfl
  ·rw[if_pos (by omega)]
   rfl
theorem yfq {X:Pg.Spc} {L L0:List Pg.Mp} (h:Pg.Inv X L L0):X.maps=L:=by
 obtain⟨a1,a2,_⟩:=Pg.inv_tables h;unfold Pg.Spc.maps;rw[if_pos a1,a2]
theorem ycg {b:Nat} {D:Wtd} {X:Pg.Spc} {L L0 fl nw:List Pg.Mp} {ti st:Int} {A:Ans} (x:Pg.Sx) (hx:yav x) (ok:Pg.WOk X L L0 fl nw D.d A) (w:Z) (h:Wtk w b D (X.goN x) fl nw ti st A) (hti:0<=ti/\ti<4611686018427387904):
 Calls J 74 #[B (P ⟨b,0,I⟩),x.val,(X.goE x).val] w fun r w'=>r=Y (Q M)/\∃D' fl' A',Wtk w' b D' (X.goN x) fl' (X.nxL L x) (ti+X.chg x) st A'/\Pg.WOk (X.goN x) (X.nxL L x) (X.nxP L L0 x) fl' (X.nxL L x) D'.d A'/\zd w b D w' D':=by
 have hnw:=ok.now
 by_cases hc:(X.goE x).c=0
 ·by_cases hk:1<=x.kind/\x.kind<=3
  ·have hi:=Pg.yjN ok.inv x
   have eL:X.nxL L x=Pg.opL nw x:=by
    unfold Pg.Spc.nxL;rw[if_pos ⟨hk.1,hk.2,hc⟩,hnw];rfl
   have ec:X.chg x=1:=by unfold Pg.Spc.chg;rw[if_pos ⟨hk.1,hk.2,hc⟩]
   have hm:(X.goN x).maps=Pg.opL nw x:=by rw[yfq hi,eL]
   have hlen:(Pg.opL nw x).length<=5000:=by
    rw[<-eL];have:=(Pg.yhU hi.bas.rep).len;omega
   have ok':=ok.change x hk hc;refine(vW x hx.1 (X.goE x) hc hk (yed x hk) w h (Pg.walk_fits hi) hm hlen hti).mono ?_;rintro r w' ⟨rfl,D',T,d,Dn⟩;rw[ec,eL];rw[eL]at ok';refine⟨rfl,D',_,_,T,?_,Dn⟩;rw[d];exact ok'
  ·have hn:¬(1<=x.kind/\x.kind<=3/\(X.goE x).c=0):=fun e=>hk ⟨e.1,e.2.1⟩
   have eL:X.nxL L x=nw:=(Pg.ykn (L0:=L0) x hn).1.trans hnw.symm
   have ec:ti+X.chg x=ti:=by unfold Pg.Spc.chg;rw[if_neg hn];omega
   rw[ec]
   by_cases h4:x.kind=4
   ·obtain⟨r1,r2⟩:=ydl x (.inl h4) hc
    have hle:=ok.le;have hb:=ybA (X:=X) x (.inl h4);cases he:(X.goE x).ended
    ·refine(vV x hx.2.2.2.2.1 (X.goE x) hc h4 he hb r1 (by omega) w h).mono ?_
     rintro r w' ⟨rfl,D',m,T,d,Dn⟩;have ok':=ok.begins x h4 hc he m;rw[hb,eL]at ok';refine⟨rfl,D',_,_,by rw[eL];exact T,?_,Dn⟩;rw[eL,d];exact ok'
    ·obtain⟨_,_,hm⟩:=ok.hit x he h4
     refine(ybr x hx.2.2.2.2.1 (X.goE x) hc h4 he hb r1 (by omega) hm w h).mono ?_;rintro r w' ⟨rfl,D',T,d,Dn⟩;have ok':=ok.hits x h4 he (A':=fun j=>if j=x.core.toNat then [Pg.ans3 nw x.q x.k x.u,Pg.ans3 fl x.q x.k x.u]else A j) (fun j hj=>if_neg hj);rw[hb,eL]at ok';refine⟨rfl,D',_,_,by rw[eL];exact T,?_,Dn⟩;rw[eL,d];exact ok'
   ·cases he:(X.goE x).ended
    ·refine(yas x (X.goE x) hc (by omega) he w h).mono ?_
     rintro r w' ⟨rfl,D',T,d,Dn⟩;have ok':=ok.same x hn (fun e=>h4 e.1);rw[eL]at ok';refine⟨rfl,D',_,_,by rw[eL];exact T,?_,Dn⟩;rw[eL,d];exact ok'
    ·have h5:x.kind=5:=by
      obtain⟨_,_,_,_,hx⟩:=Pg.yhS ok.inv x he;rcases hx with ⟨k4,_⟩|⟨k5,_⟩
      ·exact absurd k4 h4
      ·exact k5
     obtain⟨r1,r2,r3,r4⟩:=ok.walked x he h5;have hb:=ybA (X:=X) x (.inr h5);refine(vX x (X.goE x) hc h5 he hb r1 r2 r3 r4 w h).mono ?_;rintro r w' ⟨rfl,D',T,d,Dn⟩;have ok':=ok.ends x h5 he;rw[hb,eL]at ok';refine⟨rfl,D',_,_,by rw[eL];exact T,?_,Dn⟩;rw[eL,d];exact ok'
 ·have hn:¬(1<=x.kind/\x.kind<=3/\(X.goE x).c=0):=fun e=>hc e.2.2
  have eL:X.nxL L x=nw:=(Pg.ykn (L0:=L0) x hn).1.trans hnw.symm
  have ec:ti+X.chg x=ti:=by unfold Pg.Spc.chg;rw[if_neg hn];omega
  obtain⟨e1,e2⟩:=Pg.yj0 ok.inv x hc
  have hb:(X.goE x).back=U:=by rw[e2];rfl
  have ok':=ok.same x hn (fun e=>hc e.2);rw[hb,eL]at ok';refine(ybq x (X.goE x) hc w).mono ?_;rintro r w' ⟨rfl,hbl⟩;refine⟨rfl,D,fl,A,by rw[eL,ec];exact h.grow hbl,?_,.below hbl⟩;rw[eL];exact ok'
end Go.Proofs.YtdphiompijbelaaGreat
