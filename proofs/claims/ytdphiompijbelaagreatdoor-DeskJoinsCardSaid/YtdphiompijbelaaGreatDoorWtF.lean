import Derived.Test.YtdphiompijbelaaGreatDoorDkCk
set_option linter.all false
set_option maxRecDepth 100000
open Go.World renaming cell?->E,cell?_setCell_other->t,cell?_setCell_same->v,frozen?_setCell->o
open Bool renaming false->O,true->H
open Go renaming World->U,Calls->M,cell_regrown->G,heap_alloc_new->y,cell_later->z,Value->kI
open Go.Ending renaming returned->Q
open Go.IntKind renaming i64->Y
open Go.RowKit renaming Hid->S
open Go.Value renaming pointer->B,int->N,bool->Z,agg->l
open Go.Proofs.Tryz renaming prog->J
open Option renaming none->I,some->P
set_option maxHeartbeats 4000000
namespace Go.Proofs.YtdphiompijbelaaGreatDoor
open Go.RowKit Go.Sort
section
attribute [local go_sem] Loose.gent
theorem ydQ {w:U} {b:Nat} {X:Pg.Spc} {F:Nat->Prop} (h:vP w b X F):M J 72 #[B (P ⟨b,0,I⟩)] w fun e w'=>∃ad cap,e=Q (.slice ad X.maps.length cap)/\xg w' ad X.maps/\Below w.heap.size w w':=by
 obtain⟨D,h,rfl⟩:=h;refine(jE w h).mono ?_;rintro e w' ⟨ad,cap,rfl,h1,h2,_⟩;exact⟨ad,cap,rfl,h1,h2⟩
theorem ydU {w:U} {b:Nat} {X:Pg.Spc} {F:Nat->Prop} (k:Int) (h:vP w b X F):M J 177 #[B (P ⟨b,0,I⟩),N Y k] w fun e w'=>e=Q (.tuple #[l #[N Y (X.walkOf k).q,N Y (X.walkOf k).k,Z (X.walkOf k).u],Z (X.walkOf k).on])/\Below w.heap.size w w':=by
 obtain⟨D,h,rfl⟩:=h;exact yeN k w h
theorem vI {w w':U} {a1 a2:Addr} {v1 v2:kI} (hb:Below w.heap.size w w') (h:w.cell? a1=P v1/\w.cell? a2=P v2):w'.cell? a1=P v1/\w'.cell? a2=P v2:=⟨z hb h.1,z hb h.2⟩
section
variable {w w':U} {b:Nat} {D:Wtd} {X X':Pg.Spc} {fl nw:List Pg.Mp} {ti st:Int} {A A':Ans}
theorem Wtk.booked (h:Wtk w b D X fl nw ti st A) (hb:But (fun k=>k=b\/w.heap.size<=k) w w') {nb':Nat} {nw':List Pg.Mp} {Fn':Nat->Prop}
 (c2:w'.cell? ⟨b,2,I⟩=P (B (P ⟨nb',0,I⟩))) (hc:∀p,p≠2->w'.cell? ⟨b,p,I⟩=w.cell? ⟨b,p,I⟩) (hz:∀p,w'.frozen? ⟨b,p,I⟩=O)
 (hs:qv w' nb' nw' Fn') (hF:∀k,Fn' k->w.heap.size<=k):Wtk w' b {D with nb:=nb',Fn:=Fn',own:=fun k=>if k<w.heap.size then D.own k else 2} X fl nw' ti st A:=
 ⟨(hc 0 (by decide)).trans h.c0,(hc 1 (by decide)).trans h.c1,c2,(hc 3 (by decide)).trans h.c3,(hc 4 (by decide)).trans h.c4,fun j hj=>(hc _ (by omega)).trans (h.dd j hj),(hc 9 (by decide)).trans h.c9,(hc 10 (by decide)).trans h.c10,hz,
  (h.parts.keep hb fun k hk hF e=>e.elim (fun e=>hk (by rw[e];exact h.parts.own0)) (fun e=>by have:=h.lt hF;omega)).booked (fun k hk=>h.lt hk) hs hF⟩
end
def q9 (i:Nat) (d:Nat->Option Nat) (X:Pg.Spc) (nw:List Pg.Mp) (A:Ans):Ans:=fun j=>if j<i/\d j≠I then(X.walkOf j).ans nw::A j else A j
theorem qP {b:Nat} {D:Wtd} {X:Pg.Spc} {fl nw nw':List Pg.Mp} {ti st:Int} {A:Ans} (g:FuncId) (cb:Array kI) (w:U) (h:Wtk w b D X fl nw ti st A) (hq:∀k,Pg.fits (X.walkOf k).q) (hmaps:X.maps=nw') (hlen:nw'.length<=5000)
 (hti:0<=ti/\ti<4611686018427387904) (eg:∀args w,(callFunc g args).run J w= .ok (.enter g args) w)
 (hf:∀(nb:Nat) (Fn:Nat->Prop) (w':U),But (fun k=>k=b) w w'->qv w' nb nw Fn->M J g (#[B (P ⟨nb,0,I⟩)]++cb) w' fun e w''=>e=Q (.tuple #[])/\∃F',qv w'' nb nw' F'/\But Fn w' w''/\∀k,F' k->Fn k\/w'.heap.size<=k):
 M J 157 #[B (P ⟨b,0,I⟩),.func (.func g) #[] cb] w fun e w'=>e=Q (Z H)/\∃D',Wtk w' b D' X fl nw' (ti+1) st (Pg.ykN D.d X nw' A)/\D'.d=D.d/\ze w b D w' D':=by
 have c2:=h.c2;have hlb:=h.lb;have hz:=h.fz;have HC:=ycY w h.parts.now;have HH:S _:=h;have HQ:S _:=hq;have HF:S _:=hf;clear h hq hf
 go_enter Tryz.func157,Tryz.ntmps157
 go_wp2_with fail
 refine HC.mono ?_;rintro e w1 ⟨nb,Fn,rfl,h1,hb1,hF1⟩;have k2:=z hb1 c2;have kz:∀p,w1.frozen? ⟨b,p,I⟩=O:=fun p=>(hb1.frozen (p:=⟨b,p,I⟩) hlb).trans (hz p)
 have hne:∀k,Fn k->k≠b:=fun k hk e=>by have:=hF1 k hk;omega
 obtain⟨W2,hW2⟩:∃W2,W2=w1.setCell ⟨b,2,I⟩ (B (P ⟨nb,0,I⟩)):=⟨_,rfl⟩
 have B2:But (fun k=>k=b) w W2:=by rw[hW2];exact(But.yhl (F:=fun k=>k=b) hb1).trans (xj _ _ _ _) fun _ _ e=>e
 have c22:W2.cell? ⟨b,2,I⟩=P (B (P ⟨nb,0,I⟩)):=by rw[hW2];exact v _ _ _ k2
 have cc2:∀p,p≠2->W2.cell? ⟨b,p,I⟩=w.cell? ⟨b,p,I⟩:=fun p hp=>by
  rw[hW2];exact(t _ _ _ _ (fun h=>hp (congrArg Addr.off h).symm)).trans (hb1.cell (p:=⟨b,p,I⟩) hlb)
 have z2:∀p,W2.frozen? ⟨b,p,I⟩=O:=fun p=>by rw[hW2];exact(o _ _ _ _).trans (kz p)
 have d2:qv W2 nb nw Fn:=by rw[hW2];exact h1.keep (xj _ _ _ _) hne
 have HA:=HF.out nb Fn W2 B2 d2
 go_upto_region 2 with fail
 rw[<-hW2];clear hW2 k2 kz h1 HC c2
 go_upto_region 3 with (go_at_fn g;refine HA.mono ?_;rintro e w3 ⟨rfl,F3,h3,hb3,hF3⟩)
 have hb2:b<W2.heap.size:=Nat.lt_of_lt_of_le hlb B2.size;have hnb:¬Fn b:=fun e=>hne b e rfl;have B3:But (fun k=>k=b\/w.heap.size<=k) w w3:=(B2.mono fun _ _ e=> .inl e).trans hb3 fun i _ hi=> .inr (hF1 i hi)
 have T3:S (Wtk w3 b {D with nb:=nb,Fn:=F3,own:=fun k=>if k<w.heap.size then D.own k else 2} X fl nw' ti st A):=
  HH.out.booked B3 ((hb3.cell (a:=⟨b,2,I⟩) hb2 hnb).trans c22) (fun p hp=>(hb3.cell (a:=⟨b,p,I⟩) hb2 hnb).trans (cc2 p hp)) (fun p=>(hb3.frozen (a:=⟨b,p,I⟩) hb2 hnb).trans (z2 p)) h3
   fun k hk=>(hF3 k hk).elim (hF1 k) fun e=>Nat.le_trans B2.size e
 have D3:S (ze w b D w3 {D with nb:=nb,Fn:=F3,own:=fun k=>if k<w.heap.size then D.own k else 2}):=⟨B3.mono fun i hi e=>e.elim .inl fun e=>by omega,fun k hk=>by
  rcases hk with hk|hk|hk|hk|hk
  ·exact .inl (.inl hk)
  ·exact .inl (.inr (.inl hk))
  ·exact .inl (.inr (.inr (.inl hk)))
  ·exact .inr ((hF3 k hk).elim (hF1 k) fun e=>Nat.le_trans B2.size e)
  ·exact .inl (.inr (.inr (.inr (.inr hk))))⟩
 have c3:=T3.out.c3;have z3:=T3.out.fz;obtain⟨D1,hD1⟩:∃D1:Wtd,D1={D with nb:=nb,Fn:=F3,own:=fun k=>if k<w.heap.size then D.own k else 2}:=⟨_,rfl⟩
 have hd1:S (D1.d=D.d):=by rw[S,hD1]
 rw[<-hD1]at T3 D3;clear c22 cc2 z2 d2 HA hb3 hF3 h3 B2 B3 hb1 hF1 hne hb2 hnb hD1 HF HH hz;obtain⟨W4,hW4⟩:∃W4,W4=w3.setCell ⟨b,3,I⟩ (N Y (ti+1)):=⟨_,rfl⟩
 have T4:S (Wtk W4 b D1 X fl nw' (ti+1) st A):=by rw[S,hW4];exact T3.out.timed _
 have D4:S (ze w b D W4 D1):=by rw[S,hW4];exact D3.out.trans (.set _ _ fun _=>id)
 have r1:IntKind.i64.wrap (ti+1)=ti+1:=vK (by omega) (by omega)
 go_upto_region 4 with fail
 try rw[r1]
 rw[<-hW4];clear hW4 T3 D3 c3 z3 r1;have d0:=T4.out.dd 0 (by decide);have d1:=T4.out.dd 1 (by decide);have d2:=T4.out.dd 2 (by decide);have d3:=T4.out.dd 3 (by decide);simp only[Nat.add_zero,Nat.reduceAdd]at d0 d1 d2 d3
 go_wp2_with fail
 clear d0 d1 d2 d3
 go_loopw [34] (fun i wr=>∃j:Nat,j<=4/\i=N Y j/\S (Wtk wr b D1 X fl nw' (ti+1) st (q9 j D1.d X nw' A))/\S (ze w b D wr D1)) (fun i _=>4-(intOf i).toNat)
 case atStart=>exact⟨0,by omega,rfl,T4.out.congr fun j _=>by unfold q9;rw[if_neg (by omega)],D4.out⟩
 case round=>
  obtain⟨j,hj,rfl,T5,D5⟩:=hrel;clear T4 D4
  have n0:∀w:U,(binOp .neq 151 (.map I) (.map I)).run J w= .ok (Z O) w:=fun _=>by kernel_rfl
  have n1:∀(m:Nat) (w:U),(binOp .neq 151 (.map (P m)) (.map I)).run J w= .ok (Z H) w:=fun _ _=>by kernel_rfl
  have ix0:∀(x0 x1 x2 x3:Option Nat) (w:U),(Instr.index 152 (l #[.map x0,.map x1,.map x2,.map x3]) (N Y 0)).run J w= .ok (.map x0) w:=fun _ _ _ _ _=>by kernel_rfl
  have ix1:∀(x0 x1 x2 x3:Option Nat) (w:U),(Instr.index 152 (l #[.map x0,.map x1,.map x2,.map x3]) (N Y 1)).run J w= .ok (.map x1) w:=fun _ _ _ _ _=>by kernel_rfl
  have ix2:∀(x0 x1 x2 x3:Option Nat) (w:U),(Instr.index 152 (l #[.map x0,.map x1,.map x2,.map x3]) (N Y 2)).run J w= .ok (.map x2) w:=fun _ _ _ _ _=>by kernel_rfl
  have ix3:∀(x0 x1 x2 x3:Option Nat) (w:U),(Instr.index 152 (l #[.map x0,.map x1,.map x2,.map x3]) (N Y 3)).run J w= .ok (.map x3) w:=fun _ _ _ _ _=>by kernel_rfl
  have i0:(0:Int)<=(j:Int):=by omega
  by_cases hlt:j<4
  ·cases hd:D1.d j with
   | none=>
     have R:S (Wtk wr b D1 X fl nw' (ti+1) st (q9 (j+1) D1.d X nw' A)):=T5.out.congr fun i _=>by
      unfold q9
      by_cases e:i=j
      ·rw[if_neg (fun h=>h.2 (by rw[e];exact hd)),if_neg (fun h=>h.2 (by rw[e];exact hd))]
      ·by_cases e2:i<j/\D1.d i≠I
       ·rw[if_pos e2,if_pos ⟨by omega,e2.2⟩]
       ·rw[if_neg e2,if_neg (fun h=>e2 ⟨by omega,h.2⟩)]
     clear T5
     obtain rfl|rfl|rfl|rfl:j=0\/j=1\/j=2\/j=3:=by omega
     all_goals
      rw[hd]
      try simp only[Int.cast_ofNat_Int,Int.natCast_zero,Int.natCast_one]
      go_wp2_with fail
      go_roundw
      case rel=>exact⟨_,by omega,by go_num,R.out,D5.out⟩
      case measure=>simp[intOf]
   | some m=>
     have ON:=ydU (j:Int) T5.out.parts.space;have QF:=HQ.out (j:Int)
     have NEXT:S (∀w6 w7,Wtk w6 b D1 X fl nw' (ti+1) st (q9 j D1.d X nw' A)->jX w7 m (((X.walkOf j).ans nw')::A j)->But (fun k=>k=m) w6 w7->Wtk w7 b D1 X fl nw' (ti+1) st (q9 (j+1) D1.d X nw' A)):=fun w6 w7 h6 a7 hb7=>
      (h6.more hlt hd a7 hb7).congr fun i _=>by
        unfold q9
        by_cases e:i=j
        ·rw[if_pos e,if_pos ⟨by omega,by rw[e,hd];simp⟩,e]
        ·rw[if_neg e]
         by_cases e2:i<j/\D1.d i≠I
         ·rw[if_pos e2,if_pos ⟨by omega,e2.2⟩]
         ·rw[if_neg e2,if_neg (fun h=>e2 ⟨by omega,h.2⟩)]
     have DUE:S (∀w6,Wtk w6 b D1 X fl nw' (ti+1) st (q9 j D1.d X nw' A)->jX w6 m (A j)):=fun w6 h6=>by
      have:=h6.parts.due j hlt m hd;unfold q9 at this;rw[if_neg (by omega)]at this;exact this
     have ISF:S (∀k,k=m->D1.F b k):=fun k e=> .inr (.inr (.inr (.inr ⟨j,hlt,by rw[e];exact hd⟩)));have c0:=T5.out.c0;unfold Pg.Wk.ans Pg.ans3 at NEXT;generalize X.walkOf (j:Int)=K at*;obtain⟨ko,kq,kk,ku,kt,kl,kx⟩:=K;simp only at ON QF NEXT
     obtain rfl|rfl|rfl|rfl:j=0\/j=1\/j=2\/j=3:=by omega
     all_goals
      rw[hd]
      try simp only[Int.cast_ofNat_Int,Int.natCast_zero,Int.natCast_one]
      go_wp2_with fail
      refine ON.mono ?_;rintro e w6 ⟨rfl,hb6⟩;obtain⟨W7,hW7⟩:∃W7,W7=w6.alloc (.cells #[N Y kq,N Y kk,Z ku] 78):=⟨_,rfl⟩
      have hb7:Below wr.heap.size wr W7:=by rw[hW7];exact zA hb6 _
      have T7:S _:=T5.out.grow hb7;have D7:S (ze w b D W7 D1):=D5.out.trans (.below hb7)
      have y0:W7.cell? ⟨w6.heap.size,0,I⟩=P (N Y kq):=by rw[hW7];simp[go_sem]
      have y1:W7.cell? ⟨w6.heap.size,1,I⟩=P (N Y kk):=by rw[hW7];simp[go_sem]
      have y2:W7.cell? ⟨w6.heap.size,2,I⟩=P (Z ku):=by rw[hW7];simp[go_sem]
      have HB:=fun d os=>qF kq kk ku QF _ (T7.out.grow (below_regrown W7 d os)).parts.now;have g0:=G y0;have g1:=G y1;have g2:=G y2;have g4:=G T7.out.c2
      go_upto_region 9 with fail
      rw[<-hW7];clear hW7 hb6 hb7 T5 D5 y0 y1 y2 ON c0;refine Loose.yhn 7 (by kernel_rfl) (by kernel_rfl) ?_;simp only[List.take_succ_cons,List.take_zero,List.drop_succ_cons,List.drop_zero]
      repeat (
       refine Loose.zS (fun k hk=> ?_)
       go_simp
       first
        | (refine hk _ ?_;clear hk k)
        | (apply Exists.intro
           refine⟨fun _=> ?_,hk _ ?_⟩
           (go_at_call 196;exact Loose.calls (HB _ _))
           clear hk k))
      refine Loose.yho ?_;intro w8 hb8;have T8:S _:=T7.out.grow hb8;have D8:S (ze w b D w8 D1):=D7.out.trans (.below hb8);have HA:=va (Pg.ansE nw' kq kk ku) (Pg.ansF nw' kq kk ku) (Pg.ansR nw' kq kk ku) w8 (DUE.out _ T8.out);clear hb8 g0 g1 g2 g4 HB T7 D7
      go_wp2_with fail
      refine HA.mono ?_;rintro e w9 ⟨rfl,a9,hb9⟩;have T9:S _:=NEXT.out _ _ T8.out a9 hb9;have D9:S (ze w b D w9 D1):=D8.out.trans ⟨hb9.mono fun i _ e=>ISF.out i e,fun _=> .inl⟩;clear a9 hb9 HA T8 D8
      go_wp2_with fail
      go_roundw
      case rel=>exact⟨_,by omega,by go_num,T9.out,D9.out⟩
      case measure=>simp[intOf]
  ·obtain rfl:j=4:=by omega
   have d0:=T5.out.c0;have d2:=T5.out.c2
   have T6:S (Wtk wr b D1 X fl nw' (ti+1) st (Pg.ykN D1.d X nw' A)):=T5.out.congr fun i hi=>by
    unfold q9 Pg.ykN
    by_cases e:D1.d i=I
    ·rw[if_pos e,if_neg (fun h=>h.2 e)]
    ·rw[if_neg e,if_pos ⟨hi,e⟩]
   clear T5 ix0 ix1 ix2 ix3 n0 n1
   go_upto_region 11 with fail
   have T7:S _:=T6.out.grow (zR wr).drew;have D7:S (ze w b D wr.drew D1):=D5.out.trans (.below (zR wr).drew);have C7:S (wr.drew.cell? ⟨b,0,I⟩=P (B (P ⟨D1.sp,0,I⟩))/\wr.drew.cell? ⟨b,2,I⟩=P (B (P ⟨D1.nb,0,I⟩))):=⟨d0,d2⟩;rw[hd1.out]at T7;clear T6 D5
   go_region_held3 (fun w'=>w'.cell? ⟨b,0,I⟩=P (B (P ⟨D1.sp,0,I⟩))/\w'.cell? ⟨b,2,I⟩=P (B (P ⟨D1.nb,0,I⟩))) (go_keep) (first
    | (go_at_call 197;refine(yco _ m8.out m9.out hlen).mono ?_;rintro e w10 ⟨rfl,hb10⟩;have C10:S _:=vI hb10 C9.out;obtain⟨z40,z41⟩:=C10.out;have T10:S _:=T9.out.grow hb10;have D10:S (ze w b D w10 D1):=D9.out.trans (.below hb10))
    | (go_at_call 198;refine(yc1 _ T8.out.parts.now).mono ?_;rintro e w9 ⟨ad9,cap9,rfl,m9,hb9,hn9⟩;have C9:S _:=vI hb9 C8.out;obtain⟨z30,z31⟩:=C9.out;have T9:S _:=T8.out.grow hb9;have D9:S (ze w b D w9 D1):=D8.out.trans (.below hb9);have m9:S _:=m9;have m8:S _:=xg.below m8.out hb9;clear hn9)
    | (go_at_call 72;refine(ydQ T7.out.parts.space).mono ?_;rw[hmaps];rintro e w8 ⟨ad8,cap8,rfl,m8,hb8⟩;have C8:S _:=vI hb8 C7.out;obtain⟨z20,z21⟩:=C8.out;have T8:S _:=T7.out.grow hb8;have D8:S (ze w b D w8 D1):=D7.out.trans (.below hb8);have m8:S _:=m8))
   all_goals
    go_wp2_with fail
    go_ret
    exact⟨rfl,D1,T10.out,hd1.out,D10.out⟩
theorem vU:∀args w,(callFunc 188 args).run J w= .ok (.enter 188 args) w:=fun args w=>by simp[go_sem]
theorem vV:∀args w,(callFunc 190 args).run J w= .ok (.enter 190 args) w:=fun args w=>by simp[go_sem]
theorem vW:∀args w,(callFunc 192 args).run J w= .ok (.enter 192 args) w:=fun args w=>by simp[go_sem]
def zu (x:Pg.Sx):Obj:= .cells #[N Y x.kind,N Y x.core,N Y x.m.p,N Y x.m.s,N Y x.m.f,N Y x.m.r,N Y x.q,N Y x.k,Z x.u] 80
def je (e:Pg.Ev):Obj:= .cells #[N Y e.c,Z e.ended,N Y e.a,N Y e.f,N Y e.r,Z e.back] 73
def ycC (x:Pg.Sx) (c:Nat):kI:=
 if x.kind=1 then .func (.func 188) #[] #[B (P ⟨c,0,I⟩)]
 else if x.kind=2 then .func (.func 190) #[] #[B (P ⟨c,0,I⟩)]
 else if x.kind=3 then .func (.func 192) #[] #[B (P ⟨c,0,I⟩)]
 else .nilFunc
theorem qc (x:Pg.Sx) (w:U):M J 156 #[x.val] w fun e w'=>e=Q (ycC x w.heap.size)/\w'=w.alloc (zu x):=by
 obtain⟨kd,co,⟨p,s,f,r⟩,q,k,u⟩:=x;simp only[Pg.Sx.val,zu,ycC]
 by_cases h1:kd=1
 ·subst h1
  go_enter Tryz.func156,Tryz.ntmps156
  go_wp2_with fail
  go_ret
  exact⟨rfl,rfl⟩
 ·by_cases h2:kd=2
  ·subst h2
   go_enter Tryz.func156,Tryz.ntmps156
   go_wp2_with fail
   go_ret
   exact⟨rfl,rfl⟩
  ·by_cases h3:kd=3
   ·subst h3
    go_enter Tryz.func156,Tryz.ntmps156
    go_wp2_with fail
    go_ret
    exact⟨rfl,rfl⟩
   ·rw[if_neg h1,if_neg h2,if_neg h3]
    have e1:(kd==1)=O:=by simpa using h1
    have e2:(kd==2)=O:=by simpa using h2
    have e3:(kd==3)=O:=by simpa using h3
    go_enter Tryz.func156,Tryz.ntmps156
    go_wp2_with fail
    go_ret
    exact⟨rfl,rfl⟩
section
variable {w w':U} {b:Nat} {D D':Wtd} {X:Pg.Spc} {fl nw:List Pg.Mp} {ti st:Int} {A:Ans}
theorem ze.block (h:ze w b D w' D') {r:Nat} (hr:¬D.F b r) (hl:r<w.heap.size):w'.heap[r]?=w.heap[r]?/\¬D'.F b r/\r<w'.heap.size:=
 ⟨h.but.block r hl hr,fun e=>(h.own r e).elim hr fun e=>by omega,Nat.lt_of_lt_of_le hl h.but.size⟩
structure qW (w:U) (b:Nat) (D:Wtd) (n:Nat) (x:Pg.Sx) (e:Pg.Ev):Prop where
 sx:w.heap[n]?=P (zu x)
 ev:w.heap[n+1]?=P (je e)
 nF:¬D.F b n
 nF':¬D.F b (n+1)
 lt:n+1<w.heap.size
theorem qW.done {n:Nat} {x:Pg.Sx} {e:Pg.Ev} (h:qW w b D n x e) (hd:ze w b D w' D'):qW w' b D' n x e:=by
 have hl:=h.lt;obtain⟨a1,a2,a3⟩:=hd.block h.nF (by omega);obtain⟨b1,b2,b3⟩:=hd.block h.nF' h.lt;exact⟨a1.trans h.sx,b1.trans h.ev,a2,b2,b3⟩
theorem qW.make (hlt:∀k,D.F b k->k<w.heap.size) (x:Pg.Sx) (e:Pg.Ev):qW ((w.alloc (zu x)).alloc (je e)) b D w.heap.size x e:=by
 refine⟨?_,?_,fun h=>by have:=hlt _ h;omega,fun h=>by have:=hlt _ h;omega,by simp⟩
 ·rw[Below.heap_alloc _ _ _ (by simp)]
  exact y _ _
 ·exact(by simp:(w.alloc (zu x)).heap.size=w.heap.size+1)▸y _ _
theorem qW.cells {n:Nat} {x:Pg.Sx} {e:Pg.Ev} (h:qW w b D n x e):
 (w.cell? ⟨n,0,I⟩=P (N Y x.kind)/\w.cell? ⟨n,1,I⟩=P (N Y x.core)/\w.cell? ⟨n,2,I⟩=P (N Y x.m.p)/\w.cell? ⟨n,3,I⟩=P (N Y x.m.s)/\w.cell? ⟨n,4,I⟩=P (N Y x.m.f)/\w.cell? ⟨n,5,I⟩=P (N Y x.m.r)/\w.cell? ⟨n,6,I⟩=P (N Y x.q)/\w.cell? ⟨n,7,I⟩=P (N Y x.k)/\w.cell? ⟨n,8,I⟩=P (Z x.u))/\
 (w.cell? ⟨n+1,0,I⟩=P (N Y e.c)/\w.cell? ⟨n+1,1,I⟩=P (Z e.ended)/\w.cell? ⟨n+1,2,I⟩=P (N Y e.a)/\w.cell? ⟨n+1,3,I⟩=P (N Y e.f)/\w.cell? ⟨n+1,4,I⟩=P (N Y e.r)/\w.cell? ⟨n+1,5,I⟩=P (Z e.back)):=by
 have h1:=h.sx;have h2:=h.ev;unfold zu at h1;unfold je at h2;exact⟨by simp[E,h1],by simp[E,h2]⟩
theorem yeo {n:Nat} {x:Pg.Sx} (h:w.heap[n]?=P (zu x)):ybS w n 2 x.m:=by
 unfold zu at h;exact⟨by simp[E,h],by simp[E,h],by simp[E,h],by simp[E,h]⟩
end
theorem ya2 {b:Nat} (x:Pg.Sx) (e:Pg.Ev) (hc:e.c≠0) (w:U):
 M J 120 #[B (P ⟨b,0,I⟩),x.val,e.val] w fun r w'=>r=Q (Z H)/\Below w.heap.size w w':=by
 have HB:S (Below w.heap.size w ((w.alloc (zu x)).alloc (je e))):=zA (zA (zR _) _) _;obtain⟨kd,co,⟨p,s,f,r⟩,q,k,u⟩:=x;obtain⟨ec,en,ea,ef,er,eb⟩:=e;simp only[Pg.Sx.val,Pg.Ev.val,zu,je]at HB hc ⊢
 have e1:(ec==0)=O:=by simpa using hc
 go_enter Tryz.func120,Tryz.ntmps120
 go_wp2_with fail
 go_ret
 exact⟨rfl,HB.out⟩
def flN (e:Pg.Ev) (fl nw:List Pg.Mp):List Pg.Mp:=if e.back=H then nw else fl
theorem yaf {b:Nat} {D:Wtd} {X:Pg.Spc} {fl nw:List Pg.Mp} {ti st:Int} {A:Ans} (x:Pg.Sx) (e:Pg.Ev) (hc:e.c=0) (hk:¬(1<=x.kind/\x.kind<=4)) (he:e.ended=O) (w:U) (h:Wtk w b D X fl nw ti st A):
 M J 120 #[B (P ⟨b,0,I⟩),x.val,e.val] w fun r w'=>r=Q (Z H)/\∃D',Wtk w' b D' X (flN e fl nw) nw ti st A/\D'.d=D.d/\ze w b D w' D':=by
 obtain⟨W,hW⟩:∃W,W=(w.alloc (zu x)).alloc (je e):=⟨_,rfl⟩
 have hB:Below w.heap.size w W:=by rw[hW];exact zA (zA (zR _) _) _
 have L0:qW W b D w.heap.size x e:=by rw[hW];exact .make (fun k hk=>h.lt hk) x e
 have T0:=h.grow hB;have TA:S _:=T0.grow (zA (zR W) (zu x));have DA:S (ze w b D (W.alloc (zu x)) D):=(ze.below hB).trans (.below (zA (zR W) (zu x)));have HA:=qc x W;obtain⟨⟨x0,x1,x2,x3,x4,x5,x6,x7,x8⟩,⟨y0,y1,y2,y3,y4,y5⟩⟩:=L0.cells;obtain⟨⟨u0,u1,u2,u3,u4,u5,u6,u7,u8⟩,⟨v0,v1,v2,v3,v4,v5⟩⟩:=(L0.done (.below (D:=D) (zA (zR W) (zu x)))).cells
 have hkv:ycC x W.heap.size= .nilFunc:=by
  unfold ycC;rw[if_neg (by omega),if_neg (by omega),if_neg (by omega)]
 rw[hkv]at HA;have c2:=TA.out.c2;have c1:=TA.out.c1;have z1:=TA.out.fz
 have e4:(x.kind==4)=O:=by simp;omega
 obtain⟨V,hV⟩:∃V,V=W.alloc (zu x):=⟨_,rfl⟩;rw[<-hV]at HA TA DA u0 u1 u2 u3 u4 u5 u6 u7 u8 v0 v1 v2 v3 v4 v5 c1 c2 z1;have OV:S (Wtk (V.setCell ⟨b,1,I⟩ (B (P ⟨D.nb,0,I⟩))) b {D with fb:=D.nb,Ff:=D.Fn} X nw nw ti st A):=TA.out.over
 have OD:S (ze w b D (V.setCell ⟨b,1,I⟩ (B (P ⟨D.nb,0,I⟩))) {D with fb:=D.nb,Ff:=D.Fn}):=DA.out.trans (.set _ _ fun k hk=>by
  rcases hk with hk|hk|hk|hk|hk
  ·exact .inl hk
  ·exact .inr (.inl hk)
  ·exact .inr (.inr (.inr (.inl hk)))
  ·exact .inr (.inr (.inr (.inl hk)))
  ·exact .inr (.inr (.inr (.inr hk))))
 have n0:∀w:U,(binOp .neq 263 .nilFunc .nilFunc).run J w= .ok (Z O) w:=fun _=>by kernel_rfl
 have nb1:w.heap.size≠b:=fun e=>by have:=h.lb;omega
 have nb2:w.heap.size+1≠b:=fun e=>by have:=h.lb;omega
 have hbn:b≠w.heap.size:=nb1.symm;have hbn':b≠w.heap.size+1:=nb2.symm;clear h L0 T0 hkv hV hB hk;obtain⟨kd,co,⟨p,s,f,r⟩,q,k,u⟩:=x;obtain⟨ec,en,ea,ef,er,eb⟩:=e;simp only at hc he;subst hc he;simp only[Pg.Sx.val,Pg.Ev.val,zu,je]at HA hW x0 x1 x2 x3 x4 x5 x6 x7 x8 y0 y1 y2 y3 y4 y5 u0 u1 u2 u3 u4 u5 u6 u7 u8 v0 v1 v2 v3 v4 v5 e4 ⊢;cases eb
 ·go_enter Tryz.func120,Tryz.ntmps120
  go_upto_region 1 with fail
  rw[<-hW];clear hW
  go_wp2_with fail
  refine HA.mono ?_;rintro r w1 ⟨rfl,rfl⟩
  go_wp2_with fail
  go_ret
  exact⟨rfl,D,TA.out,rfl,DA.out⟩
 ·go_enter Tryz.func120,Tryz.ntmps120
  go_upto_region 1 with fail
  rw[<-hW];clear hW
  go_wp2_with fail
  refine HA.mono ?_;rintro r w1 ⟨rfl,rfl⟩
  go_wp2_with fail
  go_ret
  exact⟨rfl,_,OV.out,rfl,OD.out⟩
theorem vO {b:Nat} {D:Wtd} {X:Pg.Spc} {fl nw:List Pg.Mp} {ti st:Int} {A:Ans} (x:Pg.Sx) (e:Pg.Ev) (hc:e.c=0) (hk:x.kind=5) (he:e.ended=H) (hbk:e.back=O) (h0:0<=x.core) (h4:x.core<4) (hd:D.d x.core.toNat≠I) (ha:(e.a,e.f,e.r) ∈ A x.core.toNat) (w:U) (h:Wtk w b D X fl nw ti st A):
 M J 120 #[B (P ⟨b,0,I⟩),x.val,e.val] w fun r w'=>r=Q (Z H)/\∃D',Wtk w' b D' X fl nw ti st A/\D'.d=(fun j=>if j=x.core.toNat then I else D.d j)/\ze w b D w' D':=by
 obtain⟨W,hW⟩:∃W,W=(w.alloc (zu x)).alloc (je e):=⟨_,rfl⟩
 have hB:Below w.heap.size w W:=by rw[hW];exact zA (zA (zR _) _) _
 have L0:qW W b D w.heap.size x e:=by rw[hW];exact .make (fun k hk=>h.lt hk) x e
 have T0:=h.grow hB;have HA:=qc x W;obtain⟨V,hV⟩:∃V,V=W.alloc (zu x):=⟨_,rfl⟩
 have hBV:Below W.heap.size W V:=by rw[hV];exact zA (zR W) _
 have L1:qW V b D w.heap.size x e:=L0.done (.below hBV);have T1:S _:=T0.grow hBV;have D1:S (ze w b D V D):=(ze.below hB).trans (.below hBV);obtain⟨⟨x0,x1,x2,x3,x4,x5,x6,x7,x8⟩,⟨y0,y1,y2,y3,y4,y5⟩⟩:=L0.cells;obtain⟨⟨u0,u1,u2,u3,u4,u5,u6,u7,u8⟩,⟨v0,v1,v2,v3,v4,v5⟩⟩:=L1.cells
 have hkv:ycC x W.heap.size= .nilFunc:=by
  unfold ycC;rw[if_neg (by omega),if_neg (by omega),if_neg (by omega)]
 rw[hkv]at HA;have HE:=ybQ x.core.toNat (by omega) e.a e.f e.r hd ha V T1.out;rw[show((x.core.toNat:Nat):Int)=x.core by omega]at HE
 have n0:∀w:U,(binOp .neq 263 .nilFunc .nilFunc).run J w= .ok (Z O) w:=fun _=>by kernel_rfl
 rw[<-hV]at HA;clear h L0 L1 T0 hkv hV hB hBV T1 h0 h4 hd ha;obtain⟨kd,co,⟨p,s,f,r⟩,q,k,u⟩:=x;obtain⟨ec,en,ea,ef,er,eb⟩:=e;simp only at hc he hbk hk;subst hc he hbk hk;simp only[Pg.Sx.val,Pg.Ev.val,zu,je]at HA hW x0 x1 x2 x3 x4 x5 x6 x7 x8 y0 y1 y2 y3 y4 y5 u0 u1 u2 u3 u4 u5 u6 u7 u8 v0 v1 v2 v3 v4 v5 HE ⊢
 go_enter Tryz.func120,Tryz.ntmps120
 go_upto_region 1 with fail
 rw[<-hW];clear hW
 go_wp2_with fail
 refine HA.mono ?_;rintro r w1 ⟨rfl,rfl⟩
 go_wp2_with fail
 refine HE.mono ?_;rintro r w2 ⟨rfl,T2,D2⟩;have T2:S _:=T2;have D2:S _:=D1.out.trans D2
 go_wp2_with fail
 go_ret
 exact⟨rfl,_,T2.out,rfl,D2.out⟩
theorem vM {b:Nat} {D:Wtd} {X:Pg.Spc} {fl nw:List Pg.Mp} {ti st:Int} {A:Ans} (x:Pg.Sx) (hq:Pg.fits x.q) (e:Pg.Ev) (hc:e.c=0) (hk:x.kind=4) (he:e.ended=O) (hbk:e.back=O) (h0:0<=x.core) (h4:x.core<4) (w:U) (h:Wtk w b D X fl nw ti st A):
 M J 120 #[B (P ⟨b,0,I⟩),x.val,e.val] w fun r w'=>r=Q (Z H)/\∃D' m,Wtk w' b D' X fl nw ti st (fun j=>if j=x.core.toNat then [Pg.ans3 nw x.q x.k x.u,Pg.ans3 fl x.q x.k x.u]else A j)/\D'.d=(fun j=>if j=x.core.toNat then P m else D.d j)/\ze w b D w' D':=by
 obtain⟨W,hW⟩:∃W,W=(w.alloc (zu x)).alloc (je e):=⟨_,rfl⟩
 have hB:Below w.heap.size w W:=by rw[hW];exact zA (zA (zR _) _) _
 have L0:qW W b D w.heap.size x e:=by rw[hW];exact .make (fun k hk=>h.lt hk) x e
 have T0:=h.grow hB;have HA:=qc x W;obtain⟨V,hV⟩:∃V,V=W.alloc (zu x):=⟨_,rfl⟩
 have hBV:Below W.heap.size W V:=by rw[hV];exact zA (zR W) _
 have L1:qW V b D w.heap.size x e:=L0.done (.below hBV);have T1:S _:=T0.grow hBV;have D1:S (ze w b D V D):=(ze.below hB).trans (.below hBV);obtain⟨⟨x0,x1,x2,x3,x4,x5,x6,x7,x8⟩,⟨y0,y1,y2,y3,y4,y5⟩⟩:=L0.cells;obtain⟨⟨u0,u1,u2,u3,u4,u5,u6,u7,u8⟩,⟨v0,v1,v2,v3,v4,v5⟩⟩:=L1.cells
 have hkv:ycC x W.heap.size= .nilFunc:=by
  unfold ycC;rw[if_neg (by omega),if_neg (by omega),if_neg (by omega)]
 rw[hkv]at HA;have HE:=vL x.core.toNat (by omega) x.q x.k x.u hq V T1.out;rw[show((x.core.toNat:Nat):Int)=x.core by omega]at HE
 have n0:∀w:U,(binOp .neq 263 .nilFunc .nilFunc).run J w= .ok (Z O) w:=fun _=>by kernel_rfl
 rw[<-hV]at HA;have LD:S _:=L1;clear h L0 L1 T0 hkv hV hB hBV T1 h0 h4;generalize hA':(fun j=>if j=x.core.toNat then [Pg.ans3 nw x.q x.k x.u,Pg.ans3 fl x.q x.k x.u]else A j)=A' at HE ⊢;generalize hDD:(fun(m:Nat) (j:Nat)=>if j=x.core.toNat then P m else D.d j)=DD;have HDD:S (∀m,(fun j=>if j=x.core.toNat then P m else D.d j)=DD m):=fun m=>congrFun hDD m;have HE:S (M _ _ _ _ _):=HE;clear hA' hDD;obtain⟨kd,co,⟨p,s,f,r⟩,q,k,u⟩:=x;obtain⟨ec,en,ea,ef,er,eb⟩:=e;simp only at hc he hbk hk;subst hc he hbk hk;simp only[Pg.Sx.val,Pg.Ev.val,zu,je]at HA hW x0 x1 x2 x3 x4 x5 x6 x7 x8 y0 y1 y2 y3 y4 y5 u0 u1 u2 u3 u4 u5 u6 u7 u8 v0 v1 v2 v3 v4 v5 ⊢
 go_enter Tryz.func120,Tryz.ntmps120
 go_upto_region 1 with fail
 rw[<-hW];clear hW
 go_wp2_with fail
 refine HA.mono ?_;rintro r w1 ⟨rfl,rfl⟩
 go_wp2_with fail
 refine Calls.mono HE.out ?_;rintro r w2 ⟨rfl,D',m,T2,d2,D2⟩;have T2:S _:=T2;have d2:S _:=d2;obtain⟨⟨u0,u1,u2,u3,u4,u5,u6,u7,u8⟩,⟨v0,v1,v2,v3,v4,v5⟩⟩:=(LD.out.done D2).cells;simp only at u0 u1 u2 u3 u4 u5 u6 u7 u8 v0 v1 v2 v3 v4 v5;have D2:S _:=D1.out.trans D2;clear HE LD
 go_wp2_with fail
 go_ret
 exact⟨rfl,D',m,T2.out,d2.out,D2.out⟩
theorem ya3 {b:Nat} {D:Wtd} {X:Pg.Spc} {fl nw:List Pg.Mp} {ti st:Int} {A:Ans} (x:Pg.Sx) (hq:Pg.fits x.q) (e:Pg.Ev) (hc:e.c=0) (hk:x.kind=4) (he:e.ended=H) (hbk:e.back=O) (h0:0<=x.core) (h4:x.core<4) (ha:(e.a,e.f,e.r) ∈ [Pg.ans3 nw x.q x.k x.u,Pg.ans3 fl x.q x.k x.u]) (w:U) (h:Wtk w b D X fl nw ti st A):
 M J 120 #[B (P ⟨b,0,I⟩),x.val,e.val] w fun r w'=>r=Q (Z H)/\∃D',Wtk w' b D' X fl nw ti st (fun j=>if j=x.core.toNat then [Pg.ans3 nw x.q x.k x.u,Pg.ans3 fl x.q x.k x.u]else A j)/\D'.d=(fun j=>if j=x.core.toNat then I else D.d j)/\ze w b D w' D':=by
 obtain⟨W,hW⟩:∃W,W=(w.alloc (zu x)).alloc (je e):=⟨_,rfl⟩
 have hB:Below w.heap.size w W:=by rw[hW];exact zA (zA (zR _) _) _
 have L0:qW W b D w.heap.size x e:=by rw[hW];exact .make (fun k hk=>h.lt hk) x e
 have T0:=h.grow hB;have HA:=qc x W;obtain⟨V,hV⟩:∃V,V=W.alloc (zu x):=⟨_,rfl⟩
 have hBV:Below W.heap.size W V:=by rw[hV];exact zA (zR W) _
 have L1:qW V b D w.heap.size x e:=L0.done (.below hBV);have T1:S _:=T0.grow hBV;have D1:S (ze w b D V D):=(ze.below hB).trans (.below hBV);obtain⟨⟨x0,x1,x2,x3,x4,x5,x6,x7,x8⟩,⟨y0,y1,y2,y3,y4,y5⟩⟩:=L0.cells;obtain⟨⟨u0,u1,u2,u3,u4,u5,u6,u7,u8⟩,⟨v0,v1,v2,v3,v4,v5⟩⟩:=L1.cells
 have hkv:ycC x W.heap.size= .nilFunc:=by
  unfold ycC;rw[if_neg (by omega),if_neg (by omega),if_neg (by omega)]
 rw[hkv]at HA;have HE:=vL x.core.toNat (by omega) x.q x.k x.u hq V T1.out;rw[show((x.core.toNat:Nat):Int)=x.core by omega]at HE
 have n0:∀w:U,(binOp .neq 263 .nilFunc .nilFunc).run J w= .ok (Z O) w:=fun _=>by kernel_rfl
 rw[<-hV]at HA;have LD:S _:=L1
 have EN:S (∀w2 D' m,Wtk w2 b D' X fl nw ti st (fun j=>if j=x.core.toNat then [Pg.ans3 nw x.q x.k x.u,Pg.ans3 fl x.q x.k x.u]else A j)->D'.d=(fun j=>if j=x.core.toNat then P m else D.d j)->
  M J 159 #[B (P ⟨b,0,I⟩),N Y x.core,l #[N Y e.a,N Y e.f,N Y e.r]] w2 fun r w'=>r=Q (Z H)/\∃D3,Wtk w' b D3 X fl nw ti st (fun j=>if j=x.core.toNat then [Pg.ans3 nw x.q x.k x.u,Pg.ans3 fl x.q x.k x.u]else A j)/\D3.d=(fun j=>if j=x.core.toNat then I else D.d j)/\ze w2 b D' w' D3):=fun w2 D' m T2 d2=>by
  have:=ybQ x.core.toNat (by omega) e.a e.f e.r (by rw[d2];simp) (by rw[if_pos rfl];exact ha) w2 T2;rw[show((x.core.toNat:Nat):Int)=x.core by omega]at this;refine this.mono ?_;rintro r w' ⟨rfl,T3,D3⟩;refine⟨rfl,_,T3,?_,D3⟩
  show(fun i=>if i=x.core.toNat then I else D'.d i)=_
  funext j
  rw[d2]
  by_cases ej:j=x.core.toNat
  ·rw[if_pos ej,if_pos ej]
  ·rw[if_neg ej,if_neg ej]
   simp only[if_neg ej]
 clear h L0 L1 T0 hkv hV hB hBV T1 h0 h4 ha;generalize hA':(fun j=>if j=x.core.toNat then [Pg.ans3 nw x.q x.k x.u,Pg.ans3 fl x.q x.k x.u]else A j)=A' at HE EN ⊢;have HE:S (M _ _ _ _ _):=HE;clear hA';obtain⟨kd,co,⟨p,s,f,r⟩,q,k,u⟩:=x;obtain⟨ec,en,ea,ef,er,eb⟩:=e;simp only at hc he hbk hk;subst hc he hbk hk;simp only[Pg.Sx.val,Pg.Ev.val,zu,je]at HA hW x0 x1 x2 x3 x4 x5 x6 x7 x8 y0 y1 y2 y3 y4 y5 u0 u1 u2 u3 u4 u5 u6 u7 u8 v0 v1 v2 v3 v4 v5 ⊢
 go_enter Tryz.func120,Tryz.ntmps120
 go_upto_region 1 with fail
 rw[<-hW];clear hW
 go_wp2_with fail
 refine HA.mono ?_;rintro r w1 ⟨rfl,rfl⟩
 go_wp2_with fail
 refine Calls.mono HE.out ?_;rintro r w2 ⟨rfl,D',m,T2,d2,D2⟩;have EN:S (M _ _ _ _ _):=EN.out w2 D' m T2 d2;obtain⟨⟨u0,u1,u2,u3,u4,u5,u6,u7,u8⟩,⟨v0,v1,v2,v3,v4,v5⟩⟩:=(LD.out.done D2).cells;simp only at u0 u1 u2 u3 u4 u5 u6 u7 u8 v0 v1 v2 v3 v4 v5;have D2:S _:=D1.out.trans D2;clear HE LD T2 d2
 go_wp2_with fail
 refine Calls.mono EN.out ?_;rintro r w3 ⟨rfl,D3,T3,d3,D3'⟩;have T3:S _:=T3;have d3:S _:=d3;have D3':S _:=D2.out.trans D3';clear EN D2
 go_wp2_with fail
 go_ret
 exact⟨rfl,D3,T3.out,d3.out,D3'.out⟩
theorem vN {b:Nat} {D:Wtd} {X:Pg.Spc} {fl nw:List Pg.Mp} {ti st:Int} {A:Ans} (x:Pg.Sx) (hx:Pg.fits x.m.p) (e:Pg.Ev) (hc:e.c=0) (hk:1<=x.kind/\x.kind<=3) (he:e.ended=O) (w:U) (h:Wtk w b D X fl nw ti st A)
 (hq:∀k,Pg.fits (X.walkOf k).q) (hmaps:X.maps=Pg.opL nw x) (hlen:(Pg.opL nw x).length<=5000) (hti:0<=ti/\ti<4611686018427387904):
 M J 120 #[B (P ⟨b,0,I⟩),x.val,e.val] w fun r w'=>r=Q (Z H)/\∃D',Wtk w' b D' X (flN e fl (Pg.opL nw x)) (Pg.opL nw x) (ti+1) st (Pg.ykN D.d X (Pg.opL nw x) A)/\D'.d=D.d/\ze w b D w' D':=by
 obtain⟨W,hW⟩:∃W,W=(w.alloc (zu x)).alloc (je e):=⟨_,rfl⟩
 have hB:Below w.heap.size w W:=by rw[hW];exact zA (zA (zR _) _) _
 have L0:qW W b D w.heap.size x e:=by rw[hW];exact .make (fun k hk=>h.lt hk) x e
 have T0:=h.grow hB;have HA:=qc x W;obtain⟨V,hV⟩:∃V,V=W.alloc (zu x):=⟨_,rfl⟩
 have hBV:Below W.heap.size W V:=by rw[hV];exact zA (zR W) _
 have L1:qW V b D w.heap.size x e:=L0.done (.below hBV);have T1:S _:=T0.grow hBV;have D1:S (ze w b D V D):=(ze.below hB).trans (.below hBV);obtain⟨⟨x0,x1,x2,x3,x4,x5,x6,x7,x8⟩,⟨y0,y1,y2,y3,y4,y5⟩⟩:=L0.cells;obtain⟨⟨u0,u1,u2,u3,u4,u5,u6,u7,u8⟩,⟨v0,v1,v2,v3,v4,v5⟩⟩:=L1.cells
 have n1:∀(w:U) (g:FuncId) (cb:Array kI),(binOp .neq 263 (.func (.func g) #[] cb) .nilFunc).run J w= .ok (Z H) w:=fun _ _ _=>by kernel_rfl
 have hbl:=h.lb
 have hWb:W.heap.size≠b:=fun e=>by have:=hB.size;omega
 have hsV:V.heap.size=W.heap.size+1:=by rw[hV];simp
 have sxV:V.heap[W.heap.size]?=P (zu x):=by rw[hV];exact y _ _
 have MP:∀w',But (fun k=>k=b) V w'->ybS w' W.heap.size 2 x.m:=fun w' hb'=>yeo ((hb'.block W.heap.size (by omega) hWb).trans sxV)
 obtain⟨g,hg,CH⟩:∃g,ycC x W.heap.size= .func (.func g) #[] #[B (P ⟨W.heap.size,0,I⟩)]/\S (M J 157 #[B (P ⟨b,0,I⟩),.func (.func g) #[] #[B (P ⟨W.heap.size,0,I⟩)]] V fun r w'=>r=Q (Z H)/\∃D',Wtk w' b D' X fl (Pg.opL nw x) (ti+1) st (Pg.ykN D.d X (Pg.opL nw x) A)/\D'.d=D.d/\ze V b D w' D'):=by
  obtain k1|k2|k3:x.kind=1\/x.kind=2\/x.kind=3:=by omega
  ·refine⟨188,by unfold ycC;rw[if_pos k1],qP _ _ V T1.out hq hmaps hlen hti vU fun nb Fn w' hb' hd=> ?_⟩
   rw[show Pg.opL nw x=Pg.addL nw x.m by unfold Pg.opL;rw[if_pos k1]];exact ybX x hx w' hd (MP w' hb')
  ·refine⟨190,by unfold ycC;rw[if_neg (by omega),if_pos k2],qP _ _ V T1.out hq hmaps hlen hti vV fun nb Fn w' hb' hd=> ?_⟩
   rw[show Pg.opL nw x=Pg.yio nw x.m.p by unfold Pg.opL;rw[if_neg (by omega),if_pos k2]];exact ybY x hx w' hd (MP w' hb')
  ·refine⟨192,by unfold ycC;rw[if_neg (by omega),if_neg (by omega),if_pos k3],qP _ _ V T1.out hq hmaps hlen hti vW fun nb Fn w' hb' hd=> ?_⟩
   rw[show Pg.opL nw x=Pg.yi4 nw x.m.p x.m.r by unfold Pg.opL;rw[if_neg (by omega),if_neg (by omega)]];exact ybZ x hx w' hd (MP w' hb')
 rw[hg]at HA;rw[<-hV]at HA;have LD:S _:=L1
 have e4:(x.kind==4)=O:=by simp;omega
 have nb1:w.heap.size≠b:=fun e=>by omega
 have nb2:w.heap.size+1≠b:=fun e=>by omega
 have hbn:b≠w.heap.size:=nb1.symm;have hbn':b≠w.heap.size+1:=nb2.symm;clear h L0 L1 T0 hV hB hBV T1 MP hq hmaps hlen hti sxV hsV hg hk hWb hbl;generalize Pg.opL nw x=nw' at*;obtain⟨kd,co,⟨p,s,f,r⟩,q,k,u⟩:=x;obtain⟨ec,en,ea,ef,er,eb⟩:=e;simp only at hc he;subst hc he;simp only[Pg.Sx.val,Pg.Ev.val,zu,je]at HA hW x0 x1 x2 x3 x4 x5 x6 x7 x8 y0 y1 y2 y3 y4 y5 u0 u1 u2 u3 u4 u5 u6 u7 u8 v0 v1 v2 v3 v4 v5 e4 ⊢;cases eb
 all_goals
  go_enter Tryz.func120,Tryz.ntmps120
  go_upto_region 1 with fail
  rw[<-hW];clear hW
  go_wp2_with fail
  refine HA.mono ?_;rintro r w1 ⟨rfl,rfl⟩
  go_wp2_with fail
  refine Calls.mono CH.out ?_;rintro r w2 ⟨rfl,D',T2,d2,D2⟩;obtain⟨⟨u0,u1,u2,u3,u4,u5,u6,u7,u8⟩,⟨v0,v1,v2,v3,v4,v5⟩⟩:=(LD.out.done D2).cells;simp only at u0 u1 u2 u3 u4 u5 u6 u7 u8 v0 v1 v2 v3 v4 v5;have T2:S _:=T2;have d2:S _:=d2;have D2:S _:=D1.out.trans D2;have c1:=T2.out.c1;have c2:=T2.out.c2;have z1:=T2.out.fz;have OV:S (Wtk (w2.setCell ⟨b,1,I⟩ (B (P ⟨D'.nb,0,I⟩))) b {D' with fb:=D'.nb,Ff:=D'.Fn} X nw' nw' (ti+1) st _):=T2.out.over
  have OD:S (ze w b D (w2.setCell ⟨b,1,I⟩ (B (P ⟨D'.nb,0,I⟩))) {D' with fb:=D'.nb,Ff:=D'.Fn}):=D2.out.trans (.set _ _ fun k hk=>by
   rcases hk with hk|hk|hk|hk|hk
   ·exact .inl hk
   ·exact .inr (.inl hk)
   ·exact .inr (.inr (.inr (.inl hk)))
   ·exact .inr (.inr (.inr (.inl hk)))
   ·exact .inr (.inr (.inr (.inr hk))))
  clear CH LD
  go_wp2_with fail
  go_ret
  first
   | exact⟨rfl,D',T2.out,d2.out,D2.out⟩
   | exact⟨rfl,_,OV.out,d2.out,OD.out⟩
def Pg.Spc.chg (X:Pg.Spc) (x:Pg.Sx):Int:=if 1<=x.kind/\x.kind<=3/\(X.goE x).c=0 then 1 else 0
theorem ydI {X:Pg.Spc} (x:Pg.Sx) (hk:1<=x.kind/\x.kind<=3):(X.goE x).ended=O:=by
 unfold Pg.Spc.goE;rw[if_pos hk];unfold Pg.Spc.chE;split
 ·rfl
 ·split
  ·rfl
  ·split<;>rfl
theorem ycV {X:Pg.Spc} (x:Pg.Sx) (hk:x.kind=4\/x.kind=5) (hc:(X.goE x).c=0):0<=x.core/\x.core<X.C.length:=by
 unfold Pg.Spc.goE at hc;rw[if_neg (by omega),if_neg (by omega)]at hc
 by_cases hr:x.core<0\/(X.C.length:Int)<=x.core
 ·rw[if_pos hr]at hc
  cases hc
 ·omega
theorem ya6 {X:Pg.Spc} (x:Pg.Sx) (hk:x.kind=4\/x.kind=5):(X.goE x).back=O:=by
 unfold Pg.Spc.goE;rw[if_neg (by omega),if_neg (by omega)];split
 ·rfl
 ·split
  ·rfl
  ·rw[if_pos (by omega)]
   rfl
theorem yeV {X:Pg.Spc} {L L0:List Pg.Mp} (h:Pg.Inv X L L0):X.maps=L:=by
 obtain⟨a1,a2,_⟩:=Pg.yiR h;unfold Pg.Spc.maps;rw[if_pos a1,a2]
theorem ybR {b:Nat} {D:Wtd} {X:Pg.Spc} {L L0 fl nw:List Pg.Mp} {ti st:Int} {A:Ans} (x:Pg.Sx) (hx:xi x) (ok:Pg.WOk X L L0 fl nw D.d A) (w:U) (h:Wtk w b D (X.goN x) fl nw ti st A) (hti:0<=ti/\ti<4611686018427387904):
 M J 120 #[B (P ⟨b,0,I⟩),x.val,(X.goE x).val] w fun r w'=>r=Q (Z H)/\∃D' fl' A',Wtk w' b D' (X.goN x) fl' (X.nxL L x) (ti+X.chg x) st A'/\Pg.WOk (X.goN x) (X.nxL L x) (X.nxP L L0 x) fl' (X.nxL L x) D'.d A'/\ze w b D w' D':=by
 have hnw:=ok.now
 by_cases hc:(X.goE x).c=0
 ·by_cases hk:1<=x.kind/\x.kind<=3
  ·have hi:=Pg.yiQ ok.inv x
   have eL:X.nxL L x=Pg.opL nw x:=by
    unfold Pg.Spc.nxL;rw[if_pos ⟨hk.1,hk.2,hc⟩,hnw];rfl
   have ec:X.chg x=1:=by unfold Pg.Spc.chg;rw[if_pos ⟨hk.1,hk.2,hc⟩]
   have hm:(X.goN x).maps=Pg.opL nw x:=by rw[yeV hi,eL]
   have hlen:(Pg.opL nw x).length<=5000:=by
    rw[<-eL];have:=(Pg.yhS hi.bas.rep).len;omega
   have ok':=ok.change x hk hc;refine(vN x hx.1 (X.goE x) hc hk (ydI x hk) w h (Pg.walk_fits hi) hm hlen hti).mono ?_;rintro r w' ⟨rfl,D',T,d,Dn⟩;rw[ec,eL];rw[eL]at ok';refine⟨rfl,D',_,_,T,?_,Dn⟩;rw[d];exact ok'
  ·have hn:¬(1<=x.kind/\x.kind<=3/\(X.goE x).c=0):=fun e=>hk ⟨e.1,e.2.1⟩
   have eL:X.nxL L x=nw:=(Pg.ykO (L0:=L0) x hn).1.trans hnw.symm
   have ec:ti+X.chg x=ti:=by unfold Pg.Spc.chg;rw[if_neg hn];omega
   rw[ec]
   by_cases h4:x.kind=4
   ·obtain⟨r1,r2⟩:=ycV x (.inl h4) hc
    have hle:=ok.le;have hb:=ya6 (X:=X) x (.inl h4);cases he:(X.goE x).ended
    ·refine(vM x hx.2.2.2.2.1 (X.goE x) hc h4 he hb r1 (by omega) w h).mono ?_
     rintro r w' ⟨rfl,D',m,T,d,Dn⟩;have ok':=ok.begins x h4 hc he m;rw[hb,eL]at ok';refine⟨rfl,D',_,_,by rw[eL];exact T,?_,Dn⟩;rw[eL,d];exact ok'
    ·obtain⟨_,_,hm⟩:=ok.hit x he h4
     refine(ya3 x hx.2.2.2.2.1 (X.goE x) hc h4 he hb r1 (by omega) hm w h).mono ?_;rintro r w' ⟨rfl,D',T,d,Dn⟩;have ok':=ok.hits x h4 he (A':=fun j=>if j=x.core.toNat then [Pg.ans3 nw x.q x.k x.u,Pg.ans3 fl x.q x.k x.u]else A j) (fun j hj=>if_neg hj);rw[hb,eL]at ok';refine⟨rfl,D',_,_,by rw[eL];exact T,?_,Dn⟩;rw[eL,d];exact ok'
   ·cases he:(X.goE x).ended
    ·refine(yaf x (X.goE x) hc (by omega) he w h).mono ?_
     rintro r w' ⟨rfl,D',T,d,Dn⟩;have ok':=ok.same x hn (fun e=>h4 e.1);rw[eL]at ok';refine⟨rfl,D',_,_,by rw[eL];exact T,?_,Dn⟩;rw[eL,d];exact ok'
    ·have h5:x.kind=5:=by
      obtain⟨_,_,_,_,hx⟩:=Pg.yhT ok.inv x he;rcases hx with ⟨k4,_⟩|⟨k5,_⟩
      ·exact absurd k4 h4
      ·exact k5
     obtain⟨r1,r2,r3,r4⟩:=ok.walked x he h5;have hb:=ya6 (X:=X) x (.inr h5);refine(vO x (X.goE x) hc h5 he hb r1 r2 r3 r4 w h).mono ?_;rintro r w' ⟨rfl,D',T,d,Dn⟩;have ok':=ok.ends x h5 he;rw[hb,eL]at ok';refine⟨rfl,D',_,_,by rw[eL];exact T,?_,Dn⟩;rw[eL,d];exact ok'
 ·have hn:¬(1<=x.kind/\x.kind<=3/\(X.goE x).c=0):=fun e=>hc e.2.2
  have eL:X.nxL L x=nw:=(Pg.ykO (L0:=L0) x hn).1.trans hnw.symm
  have ec:ti+X.chg x=ti:=by unfold Pg.Spc.chg;rw[if_neg hn];omega
  obtain⟨e1,e2⟩:=Pg.ykp ok.inv x hc
  have hb:(X.goE x).back=O:=by rw[e2];rfl
  have ok':=ok.same x hn (fun e=>hc e.2);rw[hb,eL]at ok';refine(ya2 x (X.goE x) hc w).mono ?_;rintro r w' ⟨rfl,hbl⟩;refine⟨rfl,D,fl,A,by rw[eL,ec];exact h.grow hbl,?_,.below hbl⟩;rw[eL];exact ok'
end
end Go.Proofs.YtdphiompijbelaaGreatDoor
