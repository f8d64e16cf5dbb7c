import Derived.Test.YtdphiompijbelaaGreatTabN
set_option linter.all false
set_option maxRecDepth 100000
open Nat renaming lt_of_lt_of_le->kh,le_trans->uc,le_refl->ue
open Go.Obj renaming cells->t
open Go.Ending renaming returned->y
open Bool renaming false->H,true->ur
open Go renaming World->M,Calls->l,heap_alloc_new->un,cell_later->uv,cell_regrown->ud,bodyPost_ret->yJ,Value->yP
open Go.World renaming cell?->O,block_lt_of_cell?->kO,cell?_setCell_other->ki,cell?_setCell_same->kp,frozen?->yB
open Go.RowKit renaming Hid->U
open Go.Proofs.Tryz renaming prog->Q
open Go.IntKind renaming i64->B
open Go.Value renaming int->J,pointer->N,bool->Z,tuple->ua,agg->yI,slice->yS
open Option renaming none->I,some->S
set_option maxHeartbeats 4000000
namespace Go.Proofs.YtdphiompijbelaaGreat
open Go.RowKit Go.Sort
section
attribute [local go_sem] Loose.gent
theorem yeH {w:M} {b:Nat} {X:Pg.Spc} {F:Nat->Prop} (h:vv w b X F):l Q 17 #[N (S ⟨b,0,I⟩)] w fun e w'=>∃ad cap,e=y (yS ad X.maps.length cap)/\zm w' ad X.maps/\Lw w w':=by
 obtain⟨D,h,rfl⟩:=h;refine(jS w h).mono ?_;rintro e w' ⟨ad,cap,rfl,h1,h2,_⟩;exact⟨ad,cap,rfl,h1,h2⟩
theorem ycP {w:M} {b:Nat} {X:Pg.Spc} {F:Nat->Prop} (k:Int) (h:vv w b X F):l Q 15 #[N (S ⟨b,0,I⟩),J B k] w fun e w'=>e=y (ua #[yI #[J B (X.walkOf k).q,J B (X.walkOf k).k,Z (X.walkOf k).u],Z (X.walkOf k).on])/\Lw w w':=by
 obtain⟨D,h,rfl⟩:=h;exact yfF k w h
theorem yae {w w':M} {a1 a2:Addr} {v1 v2:yP} (hb:Lw w w') (h:w.cell? a1=S v1/\w.cell? a2=S v2):w'.cell? a1=S v1/\w'.cell? a2=S v2:=⟨uv hb h.1,uv hb h.2⟩
section
variable {w w':M} {b:Nat} {D:Wtd} {X X':Pg.Spc} {fl nw:List Pg.Mp} {ti st:Int} {A A':Ans}
theorem Wtk.booked (h:Wtk w b D X fl nw ti st A) (hb:But (fun k=>k=b\/w.heap.size<=k) w w') {nb':Nat} {dJ:List Pg.Mp} {TM:Nat->Prop}
 (c2:w'.cell? ⟨b,2,I⟩=S (N (S ⟨nb',0,I⟩))) (hc:∀p,p≠2->w'.cell? ⟨b,p,I⟩=w.cell? ⟨b,p,I⟩) (hz:∀p,w'.frozen? ⟨b,p,I⟩=H)
 (hs:qJ w' nb' dJ TM) (hF:∀k,TM k->w.heap.size<=k):Wtk w' b {D with nb:=nb',Fn:=TM,own:=fun k=>if k<w.heap.size then D.own k else 2} X fl dJ ti st A:=
 ⟨(hc 0 (by decide)).trans h.c0,(hc 1 (by decide)).trans h.c1,c2,(hc 3 (by decide)).trans h.c3,(hc 4 (by decide)).trans h.c4,fun j hj=>(hc _ (by omega)).trans (h.dd j hj),(hc 9 (by decide)).trans h.c9,(hc 10 (by decide)).trans h.c10,hz,
  (h.parts.keep hb fun k hk hF e=>e.elim (fun e=>hk (by rw[e];exact h.parts.own0)) (fun e=>by have:=h.lt hF;omega)).booked (fun k hk=>h.lt hk) hs hF⟩
end
def jo (i:Nat) (d:Nat->Option Nat) (X:Pg.Spc) (nw:List Pg.Mp) (A:Ans):Ans:=fun j=>if j<i/\d j≠I then(X.walkOf j).ans nw::A j else A j
theorem qZ {b:Nat} {D:Wtd} {X:Pg.Spc} {fl nw dJ:List Pg.Mp} {ti st:Int} {A:Ans} (g:FuncId) (cb:Array yP) (w:M) (h:Wtk w b D X fl nw ti st A) (hq:∀k,Pg.fits (X.walkOf k).q) (dP:X.maps=dJ) (Hg:dJ.length<=5000)
 (nD:0<=ti/\ti<4611686018427387904) (eg:∀args w,(callFunc g args).run Q w= .ok (.enter g args) w)
 (hf:∀(nb:Nat) (Fn:Nat->Prop) (w':M),But (fun k=>k=b) w w'->qJ w' nb nw Fn->l Q g (#[N (S ⟨nb,0,I⟩)]++cb) w' fun e w''=>e=y (ua #[])/\∃F',qJ w'' nb dJ F'/\But Fn w' w''/\∀k,F' k->Fn k\/w'.heap.size<=k):
 l Q 125 #[N (S ⟨b,0,I⟩),.func (.func g) #[] cb] w fun e w'=>e=y (Z ur)/\∃D',Wtk w' b D' X fl dJ (ti+1) st (Pg.ykY D.d X dJ A)/\D'.d=D.d/\zd w b D w' D':=by
 have c2:=h.c2;have rY:=h.lb;have hz:=h.fz;have HC:=ydA w h.parts.now;have HH:U _:=h;have HQ:U _:=hq;have HF:U _:=hf;clear h hq hf
 go_enter Tryz.func125,Tryz.ntmps125
 go_wp2_with fail
 refine HC.mono ?_;rintro e w1 ⟨nb,Fn,rfl,h1,Ha,tH⟩;have k2:=uv Ha c2;have kz:∀p,w1.frozen? ⟨b,p,I⟩=H:=fun p=>(Ha.frozen (p:=⟨b,p,I⟩) rY).trans (hz p)
 have Ho:∀k,Fn k->k≠b:=fun k hk e=>by have:=tH k hk;omega
 obtain⟨W2,Hy⟩:=eY (w1.setCell ⟨b,2,I⟩ (N (S ⟨nb,0,I⟩)))
 have B2:But (fun k=>k=b) w W2:=by rw[Hy];exact(But.yhJ (F:=fun k=>k=b) Ha).trans (xE _ _ _ _) fun _ _ e=>e
 have Eu:W2.cell? ⟨b,2,I⟩=S (N (S ⟨nb,0,I⟩)):=by rw[Hy];exact kp _ _ _ k2
 have FU:∀p,p≠2->W2.cell? ⟨b,p,I⟩=w.cell? ⟨b,p,I⟩:=fun p hp=>by
  rw[Hy];exact(ki _ _ _ _ (fun h=>hp (congrArg Addr.off h).symm)).trans (Ha.cell (p:=⟨b,p,I⟩) rY)
 have z2:∀p,W2.frozen? ⟨b,p,I⟩=H:=fun p=>by rw[Hy];exact(World.frozen?_setCell _ _ _ _).trans (kz p)
 have d2:qJ W2 nb nw Fn:=by rw[Hy];exact h1.keep (xE _ _ _ _) Ho
 have HA:=HF.out nb Fn W2 B2 d2
 go_upto_region 2 with fail
 rw[<-Hy];clear Hy k2 kz h1 HC c2
 go_upto_region 3 with (go_at_fn g;refine HA.mono ?_;rintro e w3 ⟨rfl,F3,h3,He,gT⟩)
 have Hd:b<W2.heap.size:=kh rY B2.size;have oC:¬Fn b:=fun e=>Ho b e rfl;have B3:But (fun k=>k=b\/w.heap.size<=k) w w3:=(B2.mono fun _ _ e=> .inl e).trans He fun i _ hi=> .inr (tH i hi)
 have T3:U (Wtk w3 b {D with nb:=nb,Fn:=F3,own:=fun k=>if k<w.heap.size then D.own k else 2} X fl dJ ti st A):=
  HH.out.booked B3 ((He.cell (a:=⟨b,2,I⟩) Hd oC).trans Eu) (fun p hp=>(He.cell (a:=⟨b,p,I⟩) Hd oC).trans (FU p hp)) (fun p=>(He.frozen (a:=⟨b,p,I⟩) Hd oC).trans (z2 p)) h3
   fun k hk=>(gT k hk).elim (tH k) fun e=>uc B2.size e
 have D3:U (zd w b D w3 {D with nb:=nb,Fn:=F3,own:=fun k=>if k<w.heap.size then D.own k else 2}):=⟨B3.mono fun i hi e=>e.elim .inl fun e=>by omega,fun k hk=>by
  rcases hk with hk|hk|hk|hk|hk
  ·exact .inl (.inl hk)
  ·exact .inl (.inr (.inl hk))
  ·exact .inl (.inr (.inr (.inl hk)))
  ·exact .inr ((gT k hk).elim (tH k) fun e=>uc B2.size e)
  ·exact .inl (.inr (.inr (.inr (.inr hk))))⟩
 have c3:=T3.out.c3;have z3:=T3.out.fz;obtain⟨D1,LX⟩:∃D1:Wtd,D1={D with nb:=nb,Fn:=F3,own:=fun k=>if k<w.heap.size then D.own k else 2}:=⟨_,rfl⟩
 have Iq:U (D1.d=D.d):=by rw[U,LX]
 rw[<-LX]at T3 D3;clear Eu FU z2 d2 HA He gT h3 B2 B3 Ha tH Ho Hd oC LX HF HH hz;obtain⟨W4,rJ⟩:=eY (w3.setCell ⟨b,3,I⟩ (J B (ti+1)))
 have T4:U (Wtk W4 b D1 X fl dJ (ti+1) st A):=by rw[U,rJ];exact T3.out.timed _
 have D4:U (zd w b D W4 D1):=by rw[U,rJ];exact D3.out.trans (.set _ _ fun _=>id)
 have r1:IntKind.i64.wrap (ti+1)=ti+1:=xJ (by omega) (by omega)
 go_upto_region 4 with fail
 try rw[r1]
 rw[<-rJ];clear rJ T3 D3 c3 z3 r1;have d0:=T4.out.dd 0 (by decide);have d1:=T4.out.dd 1 (by decide);have d2:=T4.out.dd 2 (by decide);have d3:=T4.out.dd 3 (by decide);simp only[Nat.add_zero,Nat.reduceAdd]at d0 d1 d2 d3
 go_wp2_with fail
 clear d0 d1 d2 d3
 go_loopw [34] (fun i wr=>∃j:Nat,j<=4/\i=J B j/\U (Wtk wr b D1 X fl dJ (ti+1) st (jo j D1.d X dJ A))/\U (zd w b D wr D1)) (fun i _=>4-(intOf i).toNat)
 case atStart=>exact⟨0,by omega,rfl,T4.out.congr fun j _=>by unfold jo;rw[iN (by omega)],D4.out⟩
 case round=>
  obtain⟨j,hj,rfl,T5,D5⟩:=hrel;clear T4 D4
  have n0:∀w:M,(binOp .neq 88 (.map I) (.map I)).run Q w= .ok (Z H) w:=fun _=>by kernel_rfl
  have n1:∀(m:Nat) (w:M),(binOp .neq 88 (.map (S m)) (.map I)).run Q w= .ok (Z ur) w:=fun _ _=>by kernel_rfl
  have ix0:∀(x0 x1 x2 x3:Option Nat) (w:M),(Instr.index 89 (yI #[.map x0,.map x1,.map x2,.map x3]) (J B 0)).run Q w= .ok (.map x0) w:=fun _ _ _ _ _=>by kernel_rfl
  have ix1:∀(x0 x1 x2 x3:Option Nat) (w:M),(Instr.index 89 (yI #[.map x0,.map x1,.map x2,.map x3]) (J B 1)).run Q w= .ok (.map x1) w:=fun _ _ _ _ _=>by kernel_rfl
  have ix2:∀(x0 x1 x2 x3:Option Nat) (w:M),(Instr.index 89 (yI #[.map x0,.map x1,.map x2,.map x3]) (J B 2)).run Q w= .ok (.map x2) w:=fun _ _ _ _ _=>by kernel_rfl
  have ix3:∀(x0 x1 x2 x3:Option Nat) (w:M),(Instr.index 89 (yI #[.map x0,.map x1,.map x2,.map x3]) (J B 3)).run Q w= .ok (.map x3) w:=fun _ _ _ _ _=>by kernel_rfl
  have i0:(0:Int)<=(j:Int):=by omega
  by_cases Hf:j<4
  ·cases hd:D1.d j with
   | none=>
     have R:U (Wtk wr b D1 X fl dJ (ti+1) st (jo (j+1) D1.d X dJ A)):=T5.out.congr fun i _=>by
      unfold jo
      by_cases e:i=j
      ·rw[iN (fun h=>h.2 (by rw[e];exact hd)),iN (fun h=>h.2 (by rw[e];exact hd))]
      ·by_cases e2:i<j/\D1.d i≠I
       ·rw[iP e2,iP ⟨by omega,e2.2⟩]
       ·rw[iN e2,iN (fun h=>e2 ⟨by omega,h.2⟩)]
     clear T5
     obtain rfl|rfl|rfl|rfl:j=0\/j=1\/j=2\/j=3:=by omega
     all_goals
      rw[hd]
      try simp only[Int.cast_ofNat_Int,Int.natCast_zero,Int.natCast_one]
      go_wp2
      go_roundw
      case rel=>exact⟨_,by omega,by go_num,R.out,D5.out⟩
      case measure=>simp[intOf]
   | some m=>
     have ON:=ycP (j:Int) T5.out.parts.space;have QF:=HQ.out (j:Int)
     have NEXT:U (∀w6 w7,Wtk w6 b D1 X fl dJ (ti+1) st (jo j D1.d X dJ A)->vr w7 m (((X.walkOf j).ans dJ)::A j)->But (fun k=>k=m) w6 w7->Wtk w7 b D1 X fl dJ (ti+1) st (jo (j+1) D1.d X dJ A)):=fun w6 w7 h6 a7 rZ=>
      (h6.more Hf hd a7 rZ).congr fun i _=>by
        unfold jo
        by_cases e:i=j
        ·rw[iP e,iP ⟨by omega,by rw[e,hd];simp⟩,e]
        ·rw[iN e]
         by_cases e2:i<j/\D1.d i≠I
         ·rw[iP e2,iP ⟨by omega,e2.2⟩]
         ·rw[iN e2,iN (fun h=>e2 ⟨by omega,h.2⟩)]
     have Cx:U (∀w6,Wtk w6 b D1 X fl dJ (ti+1) st (jo j D1.d X dJ A)->vr w6 m (A j)):=fun w6 h6=>by
      have:=h6.parts.due j Hf m hd;unfold jo at this;rw[iN (by omega)]at this;exact this
     have Mc:U (∀k,k=m->D1.F b k):=fun k e=> .inr (.inr (.inr (.inr ⟨j,Hf,by rw[e];exact hd⟩)));have c0:=T5.out.c0;unfold Pg.Wk.ans Pg.ans3 at NEXT;generalize X.walkOf (j:Int)=K at*;obtain⟨ko,kq,kk,ku,kt,kl,kx⟩:=K;simp only at ON QF NEXT
     obtain rfl|rfl|rfl|rfl:j=0\/j=1\/j=2\/j=3:=by omega
     all_goals
      rw[hd]
      try simp only[Int.cast_ofNat_Int,Int.natCast_zero,Int.natCast_one]
      go_wp2_with fail
      refine ON.mono ?_;rintro e w6 ⟨rfl,ru⟩;obtain⟨W7,bR⟩:=eY (w6.alloc (t #[J B kq,J B kk,Z ku] 41))
      have rZ:Lw wr W7:=by rw[bR];exact zA ru _
      have T7:U _:=T5.out.grow rZ;have D7:U (zd w b D W7 D1):=D5.out.trans (.below rZ)
      have y0:W7.cell? ⟨w6.heap.size,0,I⟩=S (J B kq):=by rw[bR];simp[go_sem]
      have y1:W7.cell? ⟨w6.heap.size,1,I⟩=S (J B kk):=by rw[bR];simp[go_sem]
      have y2:W7.cell? ⟨w6.heap.size,2,I⟩=S (Z ku):=by rw[bR];simp[go_sem]
      have HB:=fun d os=>qQ kq kk ku QF _ (T7.out.grow (below_regrown W7 d os)).parts.now;have g0:=ud y0;have g1:=ud y1;have g2:=ud y2;have g4:=ud T7.out.c2
      go_upto_region 9 with fail
      rw[<-bR];clear bR ru rZ T5 D5 y0 y1 y2 ON c0;refine Loose.yhL 7 (by kernel_rfl) (by kernel_rfl) ?_;simp only[List.take_succ_cons,List.take_zero,List.drop_succ_cons,List.drop_zero]
      repeat (
       refine Loose.zS (fun k hk=> ?_)
       go_simp
       first
        | (refine hk _ ?_;clear hk k)
        | (apply Exists.intro
           refine⟨fun _=> ?_,hk _ ?_⟩
           (go_at_call 164;exact Loose.calls (HB _ _))
           clear hk k))
      refine Loose.yhM ?_;intro w8 sH;have T8:U _:=T7.out.grow sH;have D8:U (zd w b D w8 D1):=D7.out.trans (.below sH);have HA:=vE (Pg.ansE dJ kq kk ku) (Pg.ansF dJ kq kk ku) (Pg.ansR dJ kq kk ku) w8 (Cx.out _ T8.out);clear sH g0 g1 g2 g4 HB T7 D7
      go_wp2_with fail
      refine HA.mono ?_;rintro e w9 ⟨rfl,a9,gu⟩;have T9:U _:=NEXT.out _ _ T8.out a9 gu;have D9:U (zd w b D w9 D1):=D8.out.trans ⟨gu.mono fun i _ e=>Mc.out i e,fun _=> .inl⟩;clear a9 gu HA T8 D8
      go_wp2
      go_roundw
      case rel=>exact⟨_,by omega,by go_num,T9.out,D9.out⟩
      case measure=>simp[intOf]
  ·obtain rfl:j=4:=by omega
   have d0:=T5.out.c0;have d2:=T5.out.c2
   have T6:U (Wtk wr b D1 X fl dJ (ti+1) st (Pg.ykY D1.d X dJ A)):=T5.out.congr fun i hi=>by
    unfold jo Pg.ykY
    by_cases e:D1.d i=I
    ·rw[iP e,iN (fun h=>h.2 e)]
    ·rw[iN e,iP ⟨hi,e⟩]
   clear T5 ix0 ix1 ix2 ix3 n0 n1
   go_upto_region 11 with fail
   have T7:U _:=T6.out.grow (zR wr).drew;have D7:U (zd w b D wr.drew D1):=D5.out.trans (.below (zR wr).drew);have C7:U (wr.drew.cell? ⟨b,0,I⟩=S (N (S ⟨D1.sp,0,I⟩))/\wr.drew.cell? ⟨b,2,I⟩=S (N (S ⟨D1.nb,0,I⟩))):=⟨d0,d2⟩;rw[Iq.out]at T7;clear T6 D5
   go_region_held3 (fun w'=>w'.cell? ⟨b,0,I⟩=S (N (S ⟨D1.sp,0,I⟩))/\w'.cell? ⟨b,2,I⟩=S (N (S ⟨D1.nb,0,I⟩))) (go_keep) (first
    | (go_at_call 165;refine(yc9 _ m8.out m9.out Hg).mono ?_;rintro e aG ⟨rfl,df⟩;have Cw:U _:=yae df C9.out;obtain⟨z40,z41⟩:=Cw.out;have T10:U _:=T9.out.grow df;have We:U (zd w b D aG D1):=D9.out.trans (.below df))
    | (go_at_call 166;refine(ydD _ T8.out.parts.now).mono ?_;rintro e w9 ⟨ad9,dx,rfl,m9,gu,hn9⟩;have C9:U _:=yae gu C8.out;obtain⟨z30,z31⟩:=C9.out;have T9:U _:=T8.out.grow gu;have D9:U (zd w b D w9 D1):=D8.out.trans (.below gu);have m9:U _:=m9;have m8:U _:=zm.below m8.out gu;clear hn9)
    | (go_at_call 17;refine(yeH T7.out.parts.space).mono ?_;rw[dP];rintro e w8 ⟨ad8,cap8,rfl,m8,sH⟩;have C8:U _:=yae sH C7.out;obtain⟨z20,z21⟩:=C8.out;have T8:U _:=T7.out.grow sH;have D8:U (zd w b D w8 D1):=D7.out.trans (.below sH);have m8:U _:=m8))
   all_goals
    go_wp2
    go_ret
    exact⟨rfl,D1,T10.out,Iq.out,We.out⟩
theorem yaq:∀args w,(callFunc 156 args).run Q w= .ok (.enter 156 args) w:=fun args w=>by simp[go_sem]
theorem yar:∀args w,(callFunc 158 args).run Q w= .ok (.enter 158 args) w:=fun args w=>by simp[go_sem]
theorem yas:∀args w,(callFunc 160 args).run Q w= .ok (.enter 160 args) w:=fun args w=>by simp[go_sem]
def zI (x:Pg.Sx):Obj:=t #[J B x.kind,J B x.core,J B x.m.p,J B x.m.s,J B x.m.f,J B x.m.r,J B x.q,J B x.k,Z x.u] 43
def js (e:Pg.Ev):Obj:=t #[J B e.c,Z e.ended,J B e.a,J B e.f,J B e.r,Z e.back] 36
def ydi (x:Pg.Sx) (c:Nat):yP:=
 if x.kind=1 then .func (.func 156) #[] #[N (S ⟨c,0,I⟩)]
 else if x.kind=2 then .func (.func 158) #[] #[N (S ⟨c,0,I⟩)]
 else if x.kind=3 then .func (.func 160) #[] #[N (S ⟨c,0,I⟩)]
 else .nilFunc
theorem qv (x:Pg.Sx) (w:M):l Q 124 #[x.val] w fun e w'=>e=y (ydi x w.heap.size)/\w'=w.alloc (zI x):=by
 obtain⟨kd,co,⟨p,s,f,r⟩,q,k,u⟩:=x;simp only[Pg.Sx.val,zI,ydi]
 by_cases h1:kd=1
 ·subst h1
  go_enter Tryz.func124,Tryz.ntmps124
  go_wp2
  go_ret
  exact⟨rfl,rfl⟩
 ·by_cases h2:kd=2
  ·subst h2
   go_enter Tryz.func124,Tryz.ntmps124
   go_wp2
   go_ret
   exact⟨rfl,rfl⟩
  ·by_cases h3:kd=3
   ·subst h3
    go_enter Tryz.func124,Tryz.ntmps124
    go_wp2
    go_ret
    exact⟨rfl,rfl⟩
   ·rw[iN h1,iN h2,iN h3]
    have e1:(kd==1)=H:=by simpa using h1
    have e2:(kd==2)=H:=by simpa using h2
    have e3:(kd==3)=H:=by simpa using h3
    go_enter Tryz.func124,Tryz.ntmps124
    go_wp2
    go_ret
    exact⟨rfl,rfl⟩
section
variable {w w':M} {b:Nat} {D D':Wtd} {X:Pg.Spc} {fl nw:List Pg.Mp} {ti st:Int} {A:Ans}
theorem zd.block (h:zd w b D w' D') {r:Nat} (hr:¬D.F b r) (hl:r<w.heap.size):w'.heap[r]?=w.heap[r]?/\¬D'.F b r/\r<w'.heap.size:=
 ⟨h.but.block r hl hr,fun e=>(h.own r e).elim hr fun e=>by omega,kh hl h.but.size⟩
structure jj (w:M) (b:Nat) (D:Wtd) (n:Nat) (x:Pg.Sx) (e:Pg.Ev):Prop where
 sx:w.heap[n]?=S (zI x)
 ev:w.heap[n+1]?=S (js e)
 nF:¬D.F b n
 nF':¬D.F b (n+1)
 lt:n+1<w.heap.size
theorem jj.done {n:Nat} {x:Pg.Sx} {e:Pg.Ev} (h:jj w b D n x e) (hd:zd w b D w' D'):jj w' b D' n x e:=by
 have hl:=h.lt;obtain⟨a1,a2,a3⟩:=hd.block h.nF (by omega);obtain⟨b1,b2,b3⟩:=hd.block h.nF' h.lt;exact⟨a1.trans h.sx,b1.trans h.ev,a2,b2,b3⟩
theorem jj.make (Hf:∀k,D.F b k->k<w.heap.size) (x:Pg.Sx) (e:Pg.Ev):jj ((w.alloc (zI x)).alloc (js e)) b D w.heap.size x e:=by
 refine⟨?_,?_,fun h=>by have:=Hf _ h;omega,fun h=>by have:=Hf _ h;omega,by simp⟩
 ·rw[Below.heap_alloc _ _ _ (by simp)]
  exact un _ _
 ·exact(by simp:(w.alloc (zI x)).heap.size=w.heap.size+1)▸un _ _
theorem jj.cells {n:Nat} {x:Pg.Sx} {e:Pg.Ev} (h:jj w b D n x e):
 (w.cell? ⟨n,0,I⟩=S (J B x.kind)/\w.cell? ⟨n,1,I⟩=S (J B x.core)/\w.cell? ⟨n,2,I⟩=S (J B x.m.p)/\w.cell? ⟨n,3,I⟩=S (J B x.m.s)/\w.cell? ⟨n,4,I⟩=S (J B x.m.f)/\w.cell? ⟨n,5,I⟩=S (J B x.m.r)/\w.cell? ⟨n,6,I⟩=S (J B x.q)/\w.cell? ⟨n,7,I⟩=S (J B x.k)/\w.cell? ⟨n,8,I⟩=S (Z x.u))/\
 (w.cell? ⟨n+1,0,I⟩=S (J B e.c)/\w.cell? ⟨n+1,1,I⟩=S (Z e.ended)/\w.cell? ⟨n+1,2,I⟩=S (J B e.a)/\w.cell? ⟨n+1,3,I⟩=S (J B e.f)/\w.cell? ⟨n+1,4,I⟩=S (J B e.r)/\w.cell? ⟨n+1,5,I⟩=S (Z e.back)):=by
 have h1:=h.sx;have h2:=h.ev;unfold zI at h1;unfold js at h2;exact⟨by simp[O,h1],by simp[O,h2]⟩
theorem yfi {n:Nat} {x:Pg.Sx} (h:w.heap[n]?=S (zI x)):ybJ w n 2 x.m:=by
 unfold zI at h;exact⟨by simp[O,h],by simp[O,h],by simp[O,h],by simp[O,h]⟩
end
theorem ybF {b:Nat} (x:Pg.Sx) (e:Pg.Ev) (hc:e.c≠0) (w:M):
 l Q 74 #[N (S ⟨b,0,I⟩),x.val,e.val] w fun r w'=>r=y (Z ur)/\Lw w w':=by
 have HB:U (Lw w ((w.alloc (zI x)).alloc (js e))):=zA (zA (zR _) _) _;obtain⟨kd,co,⟨p,s,f,r⟩,q,k,u⟩:=x;obtain⟨ec,en,ea,ef,er,eb⟩:=e;simp only[Pg.Sx.val,Pg.Ev.val,zI,js]at HB hc ⊢
 have e1:(ec==0)=H:=by simpa using hc
 go_enter Tryz.func74,Tryz.ntmps74
 go_wp2
 go_ret
 exact⟨rfl,HB.out⟩
def flN (e:Pg.Ev) (fl nw:List Pg.Mp):List Pg.Mp:=if e.back=ur then nw else fl
theorem yaG {b:Nat} {D:Wtd} {X:Pg.Spc} {fl nw:List Pg.Mp} {ti st:Int} {A:Ans} (x:Pg.Sx) (e:Pg.Ev) (hc:e.c=0) (hk:¬(1<=x.kind/\x.kind<=4)) (he:e.ended=H) (w:M) (h:Wtk w b D X fl nw ti st A):
 l Q 74 #[N (S ⟨b,0,I⟩),x.val,e.val] w fun r w'=>r=y (Z ur)/\∃D',Wtk w' b D' X (flN e fl nw) nw ti st A/\D'.d=D.d/\zd w b D w' D':=by
 obtain⟨W,hW⟩:=eY ((w.alloc (zI x)).alloc (js e))
 have hB:Lw w W:=by rw[hW];exact zA (zA (zR _) _) _
 have L0:jj W b D w.heap.size x e:=by rw[hW];exact .make (fun k hk=>h.lt hk) x e
 have T0:=h.grow hB;have TA:U _:=T0.grow (zA (zR W) (zI x));have DA:U (zd w b D (W.alloc (zI x)) D):=(zd.below hB).trans (.below (zA (zR W) (zI x)));have HA:=qv x W;obtain⟨⟨x0,x1,x2,x3,x4,x5,x6,x7,x8⟩,⟨y0,y1,y2,y3,y4,y5⟩⟩:=L0.cells;obtain⟨⟨u0,u1,u2,u3,u4,u5,u6,u7,u8⟩,⟨v0,v1,v2,v3,v4,v5⟩⟩:=(L0.done (.below (D:=D) (zA (zR W) (zI x)))).cells
 have kL:ydi x W.heap.size= .nilFunc:=by
  unfold ydi;rw[iN (by omega),iN (by omega),iN (by omega)]
 rw[kL]at HA;have c2:=TA.out.c2;have c1:=TA.out.c1;have z1:=TA.out.fz
 have e4:(x.kind==4)=H:=by simp;omega
 obtain⟨V,hV⟩:=eY (W.alloc (zI x));rw[<-hV]at HA TA DA u0 u1 u2 u3 u4 u5 u6 u7 u8 v0 v1 v2 v3 v4 v5 c1 c2 z1;have OV:U (Wtk (V.setCell ⟨b,1,I⟩ (N (S ⟨D.nb,0,I⟩))) b {D with fb:=D.nb,Ff:=D.Fn} X nw nw ti st A):=TA.out.over
 have OD:U (zd w b D (V.setCell ⟨b,1,I⟩ (N (S ⟨D.nb,0,I⟩))) {D with fb:=D.nb,Ff:=D.Fn}):=DA.out.trans (.set _ _ fun k hk=>by
  rcases hk with hk|hk|hk|hk|hk
  ·exact .inl hk
  ·exact .inr (.inl hk)
  ·exact .inr (.inr (.inr (.inl hk)))
  ·exact .inr (.inr (.inr (.inl hk)))
  ·exact .inr (.inr (.inr (.inr hk))))
 have n0:∀w:M,(binOp .neq 217 .nilFunc .nilFunc).run Q w= .ok (Z H) w:=fun _=>by kernel_rfl
 have SB:w.heap.size≠b:=fun e=>by have:=h.lb;omega
 have SC:w.heap.size+1≠b:=fun e=>by have:=h.lb;omega
 have Kv:b≠w.heap.size:=SB.symm;have Kw:b≠w.heap.size+1:=SC.symm;clear h L0 T0 kL hV hB hk;obtain⟨kd,co,⟨p,s,f,r⟩,q,k,u⟩:=x;obtain⟨ec,en,ea,ef,er,eb⟩:=e;simp only at hc he;subst hc he;simp only[Pg.Sx.val,Pg.Ev.val,zI,js]at HA hW x0 x1 x2 x3 x4 x5 x6 x7 x8 y0 y1 y2 y3 y4 y5 u0 u1 u2 u3 u4 u5 u6 u7 u8 v0 v1 v2 v3 v4 v5 e4 ⊢;cases eb
 ·go_enter Tryz.func74,Tryz.ntmps74
  go_upto_region 1 with fail
  rw[<-hW];clear hW
  go_wp2_with fail
  refine HA.mono ?_;rintro r w1 ⟨rfl,rfl⟩
  go_wp2
  go_ret
  exact⟨rfl,D,TA.out,rfl,DA.out⟩
 ·go_enter Tryz.func74,Tryz.ntmps74
  go_upto_region 1 with fail
  rw[<-hW];clear hW
  go_wp2_with fail
  refine HA.mono ?_;rintro r w1 ⟨rfl,rfl⟩
  go_wp2
  go_ret
  exact⟨rfl,_,OV.out,rfl,OD.out⟩
theorem yaj {b:Nat} {D:Wtd} {X:Pg.Spc} {fl nw:List Pg.Mp} {ti st:Int} {A:Ans} (x:Pg.Sx) (e:Pg.Ev) (hc:e.c=0) (hk:x.kind=5) (he:e.ended=ur) (bT:e.back=H) (h0:0<=x.core) (h4:x.core<4) (hd:D.d x.core.toNat≠I) (ha:(e.a,e.f,e.r) ∈ A x.core.toNat) (w:M) (h:Wtk w b D X fl nw ti st A):
 l Q 74 #[N (S ⟨b,0,I⟩),x.val,e.val] w fun r w'=>r=y (Z ur)/\∃D',Wtk w' b D' X fl nw ti st A/\D'.d=(fun j=>if j=x.core.toNat then I else D.d j)/\zd w b D w' D':=by
 obtain⟨W,hW⟩:=eY ((w.alloc (zI x)).alloc (js e))
 have hB:Lw w W:=by rw[hW];exact zA (zA (zR _) _) _
 have L0:jj W b D w.heap.size x e:=by rw[hW];exact .make (fun k hk=>h.lt hk) x e
 have T0:=h.grow hB;have HA:=qv x W;obtain⟨V,hV⟩:=eY (W.alloc (zI x))
 have bn:Lw W V:=by rw[hV];exact zA (zR W) _
 have L1:jj V b D w.heap.size x e:=L0.done (.below bn);have T1:U _:=T0.grow bn;have D1:U (zd w b D V D):=(zd.below hB).trans (.below bn);obtain⟨⟨x0,x1,x2,x3,x4,x5,x6,x7,x8⟩,⟨y0,y1,y2,y3,y4,y5⟩⟩:=L0.cells;obtain⟨⟨u0,u1,u2,u3,u4,u5,u6,u7,u8⟩,⟨v0,v1,v2,v3,v4,v5⟩⟩:=L1.cells
 have kL:ydi x W.heap.size= .nilFunc:=by
  unfold ydi;rw[iN (by omega),iN (by omega),iN (by omega)]
 rw[kL]at HA;have HE:=ycu x.core.toNat (by omega) e.a e.f e.r hd ha V T1.out;rw[show((x.core.toNat:Nat):Int)=x.core by omega]at HE
 have n0:∀w:M,(binOp .neq 217 .nilFunc .nilFunc).run Q w= .ok (Z H) w:=fun _=>by kernel_rfl
 rw[<-hV]at HA;clear h L0 L1 T0 kL hV hB bn T1 h0 h4 hd ha;obtain⟨kd,co,⟨p,s,f,r⟩,q,k,u⟩:=x;obtain⟨ec,en,ea,ef,er,eb⟩:=e;simp only at hc he bT hk;subst hc he bT hk;simp only[Pg.Sx.val,Pg.Ev.val,zI,js]at HA hW x0 x1 x2 x3 x4 x5 x6 x7 x8 y0 y1 y2 y3 y4 y5 u0 u1 u2 u3 u4 u5 u6 u7 u8 v0 v1 v2 v3 v4 v5 HE ⊢
 go_enter Tryz.func74,Tryz.ntmps74
 go_upto_region 1 with fail
 rw[<-hW];clear hW
 go_wp2_with fail
 refine HA.mono ?_;rintro r w1 ⟨rfl,rfl⟩
 go_wp2_with fail
 refine HE.mono ?_;rintro r w2 ⟨rfl,T2,D2⟩;have T2:U _:=T2;have D2:U _:=D1.out.trans D2
 go_wp2
 go_ret
 exact⟨rfl,_,T2.out,rfl,D2.out⟩
theorem yah {b:Nat} {D:Wtd} {X:Pg.Spc} {fl nw:List Pg.Mp} {ti st:Int} {A:Ans} (x:Pg.Sx) (hq:Pg.fits x.q) (e:Pg.Ev) (hc:e.c=0) (hk:x.kind=4) (he:e.ended=H) (bT:e.back=H) (h0:0<=x.core) (h4:x.core<4) (w:M) (h:Wtk w b D X fl nw ti st A):
 l Q 74 #[N (S ⟨b,0,I⟩),x.val,e.val] w fun r w'=>r=y (Z ur)/\∃D' m,Wtk w' b D' X fl nw ti st (fun j=>if j=x.core.toNat then [Pg.ans3 nw x.q x.k x.u,Pg.ans3 fl x.q x.k x.u]else A j)/\D'.d=(fun j=>if j=x.core.toNat then S m else D.d j)/\zd w b D w' D':=by
 obtain⟨W,hW⟩:=eY ((w.alloc (zI x)).alloc (js e))
 have hB:Lw w W:=by rw[hW];exact zA (zA (zR _) _) _
 have L0:jj W b D w.heap.size x e:=by rw[hW];exact .make (fun k hk=>h.lt hk) x e
 have T0:=h.grow hB;have HA:=qv x W;obtain⟨V,hV⟩:=eY (W.alloc (zI x))
 have bn:Lw W V:=by rw[hV];exact zA (zR W) _
 have L1:jj V b D w.heap.size x e:=L0.done (.below bn);have T1:U _:=T0.grow bn;have D1:U (zd w b D V D):=(zd.below hB).trans (.below bn);obtain⟨⟨x0,x1,x2,x3,x4,x5,x6,x7,x8⟩,⟨y0,y1,y2,y3,y4,y5⟩⟩:=L0.cells;obtain⟨⟨u0,u1,u2,u3,u4,u5,u6,u7,u8⟩,⟨v0,v1,v2,v3,v4,v5⟩⟩:=L1.cells
 have kL:ydi x W.heap.size= .nilFunc:=by
  unfold ydi;rw[iN (by omega),iN (by omega),iN (by omega)]
 rw[kL]at HA;have HE:=yag x.core.toNat (by omega) x.q x.k x.u hq V T1.out;rw[show((x.core.toNat:Nat):Int)=x.core by omega]at HE
 have n0:∀w:M,(binOp .neq 217 .nilFunc .nilFunc).run Q w= .ok (Z H) w:=fun _=>by kernel_rfl
 rw[<-hV]at HA;have LD:U _:=L1;clear h L0 L1 T0 kL hV hB bn T1 h0 h4;generalize LU:(fun j=>if j=x.core.toNat then [Pg.ans3 nw x.q x.k x.u,Pg.ans3 fl x.q x.k x.u]else A j)=A' at HE ⊢;generalize EO:(fun(m:Nat) (j:Nat)=>if j=x.core.toNat then S m else D.d j)=DD;have HDD:U (∀m,(fun j=>if j=x.core.toNat then S m else D.d j)=DD m):=fun m=>congrFun EO m;have HE:U (l _ _ _ _ _):=HE;clear LU EO;obtain⟨kd,co,⟨p,s,f,r⟩,q,k,u⟩:=x;obtain⟨ec,en,ea,ef,er,eb⟩:=e;simp only at hc he bT hk;subst hc he bT hk;simp only[Pg.Sx.val,Pg.Ev.val,zI,js]at HA hW x0 x1 x2 x3 x4 x5 x6 x7 x8 y0 y1 y2 y3 y4 y5 u0 u1 u2 u3 u4 u5 u6 u7 u8 v0 v1 v2 v3 v4 v5 ⊢
 go_enter Tryz.func74,Tryz.ntmps74
 go_upto_region 1 with fail
 rw[<-hW];clear hW
 go_wp2_with fail
 refine HA.mono ?_;rintro r w1 ⟨rfl,rfl⟩
 go_wp2_with fail
 refine Calls.mono HE.out ?_;rintro r w2 ⟨rfl,D',m,T2,d2,D2⟩;have T2:U _:=T2;have d2:U _:=d2;obtain⟨⟨u0,u1,u2,u3,u4,u5,u6,u7,u8⟩,⟨v0,v1,v2,v3,v4,v5⟩⟩:=(LD.out.done D2).cells;simp only at u0 u1 u2 u3 u4 u5 u6 u7 u8 v0 v1 v2 v3 v4 v5;have D2:U _:=D1.out.trans D2;clear HE LD
 go_wp2
 go_ret
 exact⟨rfl,D',m,T2.out,d2.out,D2.out⟩
theorem ybG {b:Nat} {D:Wtd} {X:Pg.Spc} {fl nw:List Pg.Mp} {ti st:Int} {A:Ans} (x:Pg.Sx) (hq:Pg.fits x.q) (e:Pg.Ev) (hc:e.c=0) (hk:x.kind=4) (he:e.ended=ur) (bT:e.back=H) (h0:0<=x.core) (h4:x.core<4) (ha:(e.a,e.f,e.r) ∈ [Pg.ans3 nw x.q x.k x.u,Pg.ans3 fl x.q x.k x.u]) (w:M) (h:Wtk w b D X fl nw ti st A):
 l Q 74 #[N (S ⟨b,0,I⟩),x.val,e.val] w fun r w'=>r=y (Z ur)/\∃D',Wtk w' b D' X fl nw ti st (fun j=>if j=x.core.toNat then [Pg.ans3 nw x.q x.k x.u,Pg.ans3 fl x.q x.k x.u]else A j)/\D'.d=(fun j=>if j=x.core.toNat then I else D.d j)/\zd w b D w' D':=by
 obtain⟨W,hW⟩:=eY ((w.alloc (zI x)).alloc (js e))
 have hB:Lw w W:=by rw[hW];exact zA (zA (zR _) _) _
 have L0:jj W b D w.heap.size x e:=by rw[hW];exact .make (fun k hk=>h.lt hk) x e
 have T0:=h.grow hB;have HA:=qv x W;obtain⟨V,hV⟩:=eY (W.alloc (zI x))
 have bn:Lw W V:=by rw[hV];exact zA (zR W) _
 have L1:jj V b D w.heap.size x e:=L0.done (.below bn);have T1:U _:=T0.grow bn;have D1:U (zd w b D V D):=(zd.below hB).trans (.below bn);obtain⟨⟨x0,x1,x2,x3,x4,x5,x6,x7,x8⟩,⟨y0,y1,y2,y3,y4,y5⟩⟩:=L0.cells;obtain⟨⟨u0,u1,u2,u3,u4,u5,u6,u7,u8⟩,⟨v0,v1,v2,v3,v4,v5⟩⟩:=L1.cells
 have kL:ydi x W.heap.size= .nilFunc:=by
  unfold ydi;rw[iN (by omega),iN (by omega),iN (by omega)]
 rw[kL]at HA;have HE:=yag x.core.toNat (by omega) x.q x.k x.u hq V T1.out;rw[show((x.core.toNat:Nat):Int)=x.core by omega]at HE
 have n0:∀w:M,(binOp .neq 217 .nilFunc .nilFunc).run Q w= .ok (Z H) w:=fun _=>by kernel_rfl
 rw[<-hV]at HA;have LD:U _:=L1
 have EN:U (∀w2 D' m,Wtk w2 b D' X fl nw ti st (fun j=>if j=x.core.toNat then [Pg.ans3 nw x.q x.k x.u,Pg.ans3 fl x.q x.k x.u]else A j)->D'.d=(fun j=>if j=x.core.toNat then S m else D.d j)->
  l Q 127 #[N (S ⟨b,0,I⟩),J B x.core,yI #[J B e.a,J B e.f,J B e.r]] w2 fun r w'=>r=y (Z ur)/\∃D3,Wtk w' b D3 X fl nw ti st (fun j=>if j=x.core.toNat then [Pg.ans3 nw x.q x.k x.u,Pg.ans3 fl x.q x.k x.u]else A j)/\D3.d=(fun j=>if j=x.core.toNat then I else D.d j)/\zd w2 b D' w' D3):=fun w2 D' m T2 d2=>by
  have:=ycu x.core.toNat (by omega) e.a e.f e.r (by rw[d2];simp) (by rw[iP rfl];exact ha) w2 T2;rw[show((x.core.toNat:Nat):Int)=x.core by omega]at this;refine this.mono ?_;rintro r w' ⟨rfl,T3,D3⟩;refine⟨rfl,_,T3,?_,D3⟩
  show(fun i=>if i=x.core.toNat then I else D'.d i)=_
  funext j
  rw[d2]
  by_cases ej:j=x.core.toNat
  ·rw[iP ej,iP ej]
  ·rw[iN ej,iN ej]
   simp only[iN ej]
 clear h L0 L1 T0 kL hV hB bn T1 h0 h4 ha;generalize LU:(fun j=>if j=x.core.toNat then [Pg.ans3 nw x.q x.k x.u,Pg.ans3 fl x.q x.k x.u]else A j)=A' at HE EN ⊢;have HE:U (l _ _ _ _ _):=HE;clear LU;obtain⟨kd,co,⟨p,s,f,r⟩,q,k,u⟩:=x;obtain⟨ec,en,ea,ef,er,eb⟩:=e;simp only at hc he bT hk;subst hc he bT hk;simp only[Pg.Sx.val,Pg.Ev.val,zI,js]at HA hW x0 x1 x2 x3 x4 x5 x6 x7 x8 y0 y1 y2 y3 y4 y5 u0 u1 u2 u3 u4 u5 u6 u7 u8 v0 v1 v2 v3 v4 v5 ⊢
 go_enter Tryz.func74,Tryz.ntmps74
 go_upto_region 1 with fail
 rw[<-hW];clear hW
 go_wp2_with fail
 refine HA.mono ?_;rintro r w1 ⟨rfl,rfl⟩
 go_wp2_with fail
 refine Calls.mono HE.out ?_;rintro r w2 ⟨rfl,D',m,T2,d2,D2⟩;have EN:U (l _ _ _ _ _):=EN.out w2 D' m T2 d2;obtain⟨⟨u0,u1,u2,u3,u4,u5,u6,u7,u8⟩,⟨v0,v1,v2,v3,v4,v5⟩⟩:=(LD.out.done D2).cells;simp only at u0 u1 u2 u3 u4 u5 u6 u7 u8 v0 v1 v2 v3 v4 v5;have D2:U _:=D1.out.trans D2;clear HE LD T2 d2
 go_wp2_with fail
 refine Calls.mono EN.out ?_;rintro r w3 ⟨rfl,D3,T3,d3,Ns⟩;have T3:U _:=T3;have d3:U _:=d3;have Ns:U _:=D2.out.trans Ns;clear EN D2
 go_wp2
 go_ret
 exact⟨rfl,D3,T3.out,d3.out,Ns.out⟩
theorem yai {b:Nat} {D:Wtd} {X:Pg.Spc} {fl nw:List Pg.Mp} {ti st:Int} {A:Ans} (x:Pg.Sx) (hx:Pg.fits x.m.p) (e:Pg.Ev) (hc:e.c=0) (hk:1<=x.kind/\x.kind<=3) (he:e.ended=H) (w:M) (h:Wtk w b D X fl nw ti st A)
 (hq:∀k,Pg.fits (X.walkOf k).q) (dP:X.maps=Pg.opL nw x) (Hg:(Pg.opL nw x).length<=5000) (nD:0<=ti/\ti<4611686018427387904):
 l Q 74 #[N (S ⟨b,0,I⟩),x.val,e.val] w fun r w'=>r=y (Z ur)/\∃D',Wtk w' b D' X (flN e fl (Pg.opL nw x)) (Pg.opL nw x) (ti+1) st (Pg.ykY D.d X (Pg.opL nw x) A)/\D'.d=D.d/\zd w b D w' D':=by
 obtain⟨W,hW⟩:=eY ((w.alloc (zI x)).alloc (js e))
 have hB:Lw w W:=by rw[hW];exact zA (zA (zR _) _) _
 have L0:jj W b D w.heap.size x e:=by rw[hW];exact .make (fun k hk=>h.lt hk) x e
 have T0:=h.grow hB;have HA:=qv x W;obtain⟨V,hV⟩:=eY (W.alloc (zI x))
 have bn:Lw W V:=by rw[hV];exact zA (zR W) _
 have L1:jj V b D w.heap.size x e:=L0.done (.below bn);have T1:U _:=T0.grow bn;have D1:U (zd w b D V D):=(zd.below hB).trans (.below bn);obtain⟨⟨x0,x1,x2,x3,x4,x5,x6,x7,x8⟩,⟨y0,y1,y2,y3,y4,y5⟩⟩:=L0.cells;obtain⟨⟨u0,u1,u2,u3,u4,u5,u6,u7,u8⟩,⟨v0,v1,v2,v3,v4,v5⟩⟩:=L1.cells
 have n1:∀(w:M) (g:FuncId) (cb:Array yP),(binOp .neq 217 (.func (.func g) #[] cb) .nilFunc).run Q w= .ok (Z ur) w:=fun _ _ _=>by kernel_rfl
 have rV:=h.lb
 have Mt:W.heap.size≠b:=fun e=>by have:=hB.size;omega
 have Uz:V.heap.size=W.heap.size+1:=by rw[hV];simp
 have AR:V.heap[W.heap.size]?=S (zI x):=by rw[hV];exact un _ _
 have MP:∀w',But (fun k=>k=b) V w'->ybJ w' W.heap.size 2 x.m:=fun w' hb'=>yfi ((hb'.block W.heap.size (by omega) Mt).trans AR)
 obtain⟨g,hg,CH⟩:∃g,ydi x W.heap.size= .func (.func g) #[] #[N (S ⟨W.heap.size,0,I⟩)]/\U (l Q 125 #[N (S ⟨b,0,I⟩),.func (.func g) #[] #[N (S ⟨W.heap.size,0,I⟩)]] V fun r w'=>r=y (Z ur)/\∃D',Wtk w' b D' X fl (Pg.opL nw x) (ti+1) st (Pg.ykY D.d X (Pg.opL nw x) A)/\D'.d=D.d/\zd V b D w' D'):=by
  obtain k1|k2|k3:x.kind=1\/x.kind=2\/x.kind=3:=by omega
  ·refine⟨156,by unfold ydi;rw[iP k1],qZ _ _ V T1.out hq dP Hg nD yaq fun nb Fn w' hb' hd=> ?_⟩
   rw[show Pg.opL nw x=Pg.addL nw x.m by unfold Pg.opL;rw[iP k1]];exact ycz x hx w' hd (MP w' hb')
  ·refine⟨158,by unfold ydi;rw[iN (by omega),iP k2],qZ _ _ V T1.out hq dP Hg nD yar fun nb Fn w' hb' hd=> ?_⟩
   rw[show Pg.opL nw x=Pg.yiL nw x.m.p by unfold Pg.opL;rw[iN (by omega),iP k2]];exact ycA x hx w' hd (MP w' hb')
  ·refine⟨160,by unfold ydi;rw[iN (by omega),iN (by omega),iP k3],qZ _ _ V T1.out hq dP Hg nD yas fun nb Fn w' hb' hd=> ?_⟩
   rw[show Pg.opL nw x=Pg.yjm nw x.m.p x.m.r by unfold Pg.opL;rw[iN (by omega),iN (by omega)]];exact ycB x hx w' hd (MP w' hb')
 rw[hg]at HA;rw[<-hV]at HA;have LD:U _:=L1
 have e4:(x.kind==4)=H:=by simp;omega
 have SB:w.heap.size≠b:=fun e=>by omega
 have SC:w.heap.size+1≠b:=fun e=>by omega
 have Kv:b≠w.heap.size:=SB.symm;have Kw:b≠w.heap.size+1:=SC.symm;clear h L0 L1 T0 hV hB bn T1 MP hq dP Hg nD AR Uz hg hk Mt rV;generalize Pg.opL nw x=dJ at*;obtain⟨kd,co,⟨p,s,f,r⟩,q,k,u⟩:=x;obtain⟨ec,en,ea,ef,er,eb⟩:=e;simp only at hc he;subst hc he;simp only[Pg.Sx.val,Pg.Ev.val,zI,js]at HA hW x0 x1 x2 x3 x4 x5 x6 x7 x8 y0 y1 y2 y3 y4 y5 u0 u1 u2 u3 u4 u5 u6 u7 u8 v0 v1 v2 v3 v4 v5 e4 ⊢;cases eb
 all_goals
  go_enter Tryz.func74,Tryz.ntmps74
  go_upto_region 1 with fail
  rw[<-hW];clear hW
  go_wp2_with fail
  refine HA.mono ?_;rintro r w1 ⟨rfl,rfl⟩
  go_wp2_with fail
  refine Calls.mono CH.out ?_;rintro r w2 ⟨rfl,D',T2,d2,D2⟩;obtain⟨⟨u0,u1,u2,u3,u4,u5,u6,u7,u8⟩,⟨v0,v1,v2,v3,v4,v5⟩⟩:=(LD.out.done D2).cells;simp only at u0 u1 u2 u3 u4 u5 u6 u7 u8 v0 v1 v2 v3 v4 v5;have T2:U _:=T2;have d2:U _:=d2;have D2:U _:=D1.out.trans D2;have c1:=T2.out.c1;have c2:=T2.out.c2;have z1:=T2.out.fz;have OV:U (Wtk (w2.setCell ⟨b,1,I⟩ (N (S ⟨D'.nb,0,I⟩))) b {D' with fb:=D'.nb,Ff:=D'.Fn} X dJ dJ (ti+1) st _):=T2.out.over
  have OD:U (zd w b D (w2.setCell ⟨b,1,I⟩ (N (S ⟨D'.nb,0,I⟩))) {D' with fb:=D'.nb,Ff:=D'.Fn}):=D2.out.trans (.set _ _ fun k hk=>by
   rcases hk with hk|hk|hk|hk|hk
   ·exact .inl hk
   ·exact .inr (.inl hk)
   ·exact .inr (.inr (.inr (.inl hk)))
   ·exact .inr (.inr (.inr (.inl hk)))
   ·exact .inr (.inr (.inr (.inr hk))))
  clear CH LD
  go_wp2
  go_ret
  first
   | exact⟨rfl,D',T2.out,d2.out,D2.out⟩
   | exact⟨rfl,_,OV.out,d2.out,OD.out⟩
def Pg.Spc.chg (X:Pg.Spc) (x:Pg.Sx):Int:=if 1<=x.kind/\x.kind<=3/\(X.goE x).c=0 then 1 else 0
theorem yey {X:Pg.Spc} (x:Pg.Sx) (hk:1<=x.kind/\x.kind<=3):(X.goE x).ended=H:=by
 unfold Pg.Spc.goE;rw[iP hk];unfold Pg.Spc.chE;split
 ·rfl
 ·split
  ·rfl
  ·split<;>rfl
theorem ydx {X:Pg.Spc} (x:Pg.Sx) (hk:x.kind=4\/x.kind=5) (hc:(X.goE x).c=0):0<=x.core/\x.core<X.C.length:=by
 unfold Pg.Spc.goE at hc;rw[iN (by omega),iN (by omega)]at hc
 by_cases hr:x.core<0\/(X.C.length:Int)<=x.core
 ·rw[iP hr]at hc
  cases hc
 ·omega
theorem ybP {X:Pg.Spc} (x:Pg.Sx) (hk:x.kind=4\/x.kind=5):(X.goE x).back=H:=by
 unfold Pg.Spc.goE;rw[iN (by omega),iN (by omega)];split
 ·rfl
 ·split
  ·rfl
  ·rw[iP (by omega)]
   rfl
theorem yfM {X:Pg.Spc} {L L0:List Pg.Mp} (h:Pg.Inv X L L0):X.maps=L:=by
 obtain⟨a1,a2,_⟩:=Pg.yjb h;unfold Pg.Spc.maps;rw[iP a1,a2]
theorem ycv {b:Nat} {D:Wtd} {X:Pg.Spc} {L L0 fl nw:List Pg.Mp} {ti st:Int} {A:Ans} (x:Pg.Sx) (hx:qu x) (ok:Pg.WOk X L L0 fl nw D.d A) (w:M) (h:Wtk w b D (X.goN x) fl nw ti st A) (nD:0<=ti/\ti<4611686018427387904):
 l Q 74 #[N (S ⟨b,0,I⟩),x.val,(X.goE x).val] w fun r w'=>r=y (Z ur)/\∃D' FZ A',Wtk w' b D' (X.goN x) FZ (X.nxL L x) (ti+X.chg x) st A'/\Pg.WOk (X.goN x) (X.nxL L x) (X.nxP L L0 x) FZ (X.nxL L x) D'.d A'/\zd w b D w' D':=by
 have Uo:=ok.now
 by_cases hc:(X.goE x).c=0
 ·by_cases hk:1<=x.kind/\x.kind<=3
  ·have hi:=Pg.yiT ok.inv x
   have eL:X.nxL L x=Pg.opL nw x:=by
    unfold Pg.Spc.nxL;rw[iP ⟨hk.1,hk.2,hc⟩,Uo];rfl
   have ec:X.chg x=1:=by unfold Pg.Spc.chg;rw[iP ⟨hk.1,hk.2,hc⟩]
   have hm:(X.goN x).maps=Pg.opL nw x:=by rw[yfM hi,eL]
   have Hg:(Pg.opL nw x).length<=5000:=by
    rw[<-eL];have:=(Pg.yil hi.bas.rep).len;omega
   have ok':=ok.change x hk hc;refine(yai x hx.1 (X.goE x) hc hk (yey x hk) w h (Pg.walk_fits hi) hm Hg nD).mono ?_;rintro r w' ⟨rfl,D',T,d,Dn⟩;rw[ec,eL];rw[eL]at ok';refine⟨rfl,D',_,_,T,?_,Dn⟩;rw[d];exact ok'
  ·have hn:¬(1<=x.kind/\x.kind<=3/\(X.goE x).c=0):=fun e=>hk ⟨e.1,e.2.1⟩
   have eL:X.nxL L x=nw:=(Pg.yks (L0:=L0) x hn).1.trans Uo.symm
   have ec:ti+X.chg x=ti:=by unfold Pg.Spc.chg;rw[iN hn];omega
   rw[ec]
   by_cases h4:x.kind=4
   ·obtain⟨r1,r2⟩:=ydx x (.inl h4) hc
    have fK:=ok.le;have hb:=ybP (X:=X) x (.inl h4);cases he:(X.goE x).ended
    ·refine(yah x hx.2.2.2.2.1 (X.goE x) hc h4 he hb r1 (by omega) w h).mono ?_
     rintro r w' ⟨rfl,D',m,T,d,Dn⟩;have ok':=ok.begins x h4 hc he m;rw[hb,eL]at ok';refine⟨rfl,D',_,_,by rw[eL];exact T,?_,Dn⟩;rw[eL,d];exact ok'
    ·obtain⟨_,_,hm⟩:=ok.hit x he h4
     refine(ybG x hx.2.2.2.2.1 (X.goE x) hc h4 he hb r1 (by omega) hm w h).mono ?_;rintro r w' ⟨rfl,D',T,d,Dn⟩;have ok':=ok.hits x h4 he (A':=fun j=>if j=x.core.toNat then [Pg.ans3 nw x.q x.k x.u,Pg.ans3 fl x.q x.k x.u]else A j) (fun j hj=>iN hj);rw[hb,eL]at ok';refine⟨rfl,D',_,_,by rw[eL];exact T,?_,Dn⟩;rw[eL,d];exact ok'
   ·cases he:(X.goE x).ended
    ·refine(yaG x (X.goE x) hc (by omega) he w h).mono ?_
     rintro r w' ⟨rfl,D',T,d,Dn⟩;have ok':=ok.same x hn (fun e=>h4 e.1);rw[eL]at ok';refine⟨rfl,D',_,_,by rw[eL];exact T,?_,Dn⟩;rw[eL,d];exact ok'
    ·have h5:x.kind=5:=by
      obtain⟨_,_,_,_,hx⟩:=Pg.yh9 ok.inv x he;rcases hx with ⟨k4,_⟩|⟨k5,_⟩
      ·exact absurd k4 h4
      ·exact k5
     obtain⟨r1,r2,r3,r4⟩:=ok.walked x he h5;have hb:=ybP (X:=X) x (.inr h5);refine(yaj x (X.goE x) hc h5 he hb r1 r2 r3 r4 w h).mono ?_;rintro r w' ⟨rfl,D',T,d,Dn⟩;have ok':=ok.ends x h5 he;rw[hb,eL]at ok';refine⟨rfl,D',_,_,by rw[eL];exact T,?_,Dn⟩;rw[eL,d];exact ok'
 ·have hn:¬(1<=x.kind/\x.kind<=3/\(X.goE x).c=0):=fun e=>hc e.2.2
  have eL:X.nxL L x=nw:=(Pg.yks (L0:=L0) x hn).1.trans Uo.symm
  have ec:ti+X.chg x=ti:=by unfold Pg.Spc.chg;rw[iN hn];omega
  obtain⟨e1,e2⟩:=Pg.ykA ok.inv x hc
  have hb:(X.goE x).back=H:=by rw[e2];rfl
  have ok':=ok.same x hn (fun e=>hc e.2);rw[hb,eL]at ok';refine(ybF x (X.goE x) hc w).mono ?_;rintro r w' ⟨rfl,rV⟩;refine⟨rfl,D,fl,A,by rw[eL,ec];exact h.grow rV,?_,.below rV⟩;rw[eL];exact ok'
structure xB (w:M) (b:Nat) (X:Pg.Spc) (L L0:List Pg.Mp) (ti:Int) (F:Nat->Prop):Prop where
 ex:∃D fl st A,Wtk w b D X fl L ti st A/\Pg.WOk X L L0 fl L D.d A/\F=D.F b
section
variable {w w':M} {b:Nat} {X:Pg.Spc} {L L0:List Pg.Mp} {ti:Int} {F G:Nat->Prop}
theorem xB.lt (h:xB w b X L L0 ti F) {k:Nat} (hk:F k):k<w.heap.size:=by
 obtain⟨D,fl,st,A,h,_,rfl⟩:=h;exact h.lt hk
theorem xB.keep (h:xB w b X L L0 ti F) (hb:But G w w') (hF:∀k,F k->¬G k):xB w' b X L L0 ti F:=by
 obtain⟨D,fl,st,A,h,ok,rfl⟩:=h;exact⟨D,fl,st,A,h.keep hb hF,ok,rfl⟩
theorem xB.grow (h:xB w b X L L0 ti F) (hb:Lw w w'):xB w' b X L L0 ti F:=h.keep (G:=fun _=>False) (But.yhJ hb) (fun _ _=>id)
theorem xB.inv (h:xB w b X L L0 ti F):Pg.Inv X L L0:=by
 obtain⟨D,fl,st,A,h,ok,rfl⟩:=h;exact ok.inv
theorem xB.space (h:xB w b X L L0 ti F):∃sp Fs,w.cell? ⟨b,0,I⟩=S (N (S ⟨sp,0,I⟩))/\vv w sp X Fs:=by
 obtain⟨D,fl,st,A,h,ok,rfl⟩:=h;exact⟨D.sp,D.Fs,h.c0,h.parts.space⟩
end
structure ybI (w:M) (b:Nat) (D:Wtd) (n:Nat) (x:Pg.Sx) (mb:Nat) (e:Pg.Ev):Prop where
 sx:w.heap[n]?=S (zI x)
 re:w.heap[n+1]?=S (t #[J B 0,Z H,J B 0,J B 0,J B 0,Z H] 36 (0,0))
 rf:w.heap[n+2]?=S (t #[J B 0,J B 0] 27 (0,0))
 e0:w.cell? ⟨mb,0,I⟩=S (J B e.c)
 e1:w.cell? ⟨mb,1,I⟩=S (Z e.ended)
 e2:w.cell? ⟨mb,2,I⟩=S (J B e.a)
 e3:w.cell? ⟨mb,3,I⟩=S (J B e.f)
 e4:w.cell? ⟨mb,4,I⟩=S (J B e.r)
 e5:w.cell? ⟨mb,5,I⟩=S (Z e.back)
 nF:∀j,j<3->¬D.F b (n+j)
 nM:¬D.F b mb
 lt:n+2<mb
theorem ybI.done {w w':M} {b:Nat} {D D':Wtd} {n:Nat} {x:Pg.Sx} {mb:Nat} {e:Pg.Ev} (h:ybI w b D n x mb e) (hd:zd w b D w' D'):ybI w' b D' n x mb e:=by
 have hl:=h.lt;have hm:mb<w.heap.size:=kO _ _ h.e0;obtain⟨a1,a2,_⟩:=hd.block (h.nF 0 (by decide)) (show n+0<_ by omega);obtain⟨b1,b2,_⟩:=hd.block (h.nF 1 (by decide)) (show n+1<_ by omega);obtain⟨c1,c2,_⟩:=hd.block (h.nF 2 (by decide)) (show n+2<_ by omega);obtain⟨m1,m2,_⟩:=hd.block h.nM hm;have ec:∀p,w'.cell? ⟨mb,p,I⟩=w.cell? ⟨mb,p,I⟩:=fun p=>World.cell?_of_block (a:=⟨mb,p,I⟩) m1;refine⟨a1.trans h.sx,b1.trans h.re,c1.trans h.rf,(ec _).trans h.e0,(ec _).trans h.e1,(ec _).trans h.e2,(ec _).trans h.e3,(ec _).trans h.e4,(ec _).trans h.e5,fun j hj=> ?_,m2,hl⟩
 obtain rfl|rfl|rfl:j=0\/j=1\/j=2:=by omega
 ·exact a2
 ·exact b2
 ·exact c2
theorem ygI {w W W1 w4 Wa:M} {b mb:Nat} {D:Wtd} {X X':Pg.Spc} {fl nw:List Pg.Mp} {ti st:Int} {A:Ans} {bM Y:Nat->Prop} {x:Pg.Sx} {e:Pg.Ev} (h:Wtk w b D X fl nw ti st A) (hB:Lw w W) (hs:W.heap.size=w.heap.size+3)
 (q1:W.heap[w.heap.size]?=S (zI x)) (q2:W.heap[w.heap.size+1]?=S (t #[J B 0,Z H,J B 0,J B 0,J B 0,Z H] 36 (0,0))) (q3:W.heap[w.heap.size+2]?=S (t #[J B 0,J B 0] 27 (0,0)))
 (sG:Lw W W1) (gM:vv w4 D.sp X' bM) (hb:But D.Fs W1 w4) (hF:∀k,bM k->D.Fs k\/W1.heap.size<=k) (hY:But Y w4 Wa) (Ko:∀k,Y k->k=mb) (IX:W.heap.size<=mb) (MO:¬bM mb)
 (e0:Wa.cell? ⟨mb,0,I⟩=S (J B e.c)) (e1:Wa.cell? ⟨mb,1,I⟩=S (Z e.ended)) (e2:Wa.cell? ⟨mb,2,I⟩=S (J B e.a)) (e3:Wa.cell? ⟨mb,3,I⟩=S (J B e.f)) (e4:Wa.cell? ⟨mb,4,I⟩=S (J B e.r)) (e5:Wa.cell? ⟨mb,5,I⟩=S (Z e.back)):
 ∃D1,Wtk Wa b D1 X' fl nw ti st A/\D1.d=D.d/\zd w b D Wa D1/\ybI Wa b D1 w.heap.size x mb e:=by
 have Hf:∀k,D.F b k->k<w.heap.size:=fun k hk=>h.lt hk;have T4:=((h.grow hB).grow sG).ylQ gM hb hF;have rG:=sG.size;have pz:=hb.size
 have own:∀k,Wtd.F {D with Fs:=bM,own:=fun k=>if k<W1.heap.size then D.own k else 1} b k->D.F b k\/bM k:=fun k hk=>by
  rcases hk with hk|hk|hk|hk|hk
  ·exact .inl (.inl hk)
  ·exact .inr hk
  ·exact .inl (.inr (.inr (.inl hk)))
  ·exact .inl (.inr (.inr (.inr (.inl hk))))
  ·exact .inl (.inr (.inr (.inr (.inr hk))))
 have nF:∀k,w.heap.size<=k->k<W1.heap.size->¬Wtd.F {D with Fs:=bM,own:=fun k=>if k<W1.heap.size then D.own k else 1} b k:=fun k h1 h2 hk=>by
  rcases own k hk with hk|hk
  ·have:=Hf k hk;omega
  ·rcases hF k hk with hk|hk
   ·have:=Hf k (.inr (.inl hk));omega
   ·omega
 have nm:¬Wtd.F {D with Fs:=bM,own:=fun k=>if k<W1.heap.size then D.own k else 1} b mb:=fun hk=>by
  rcases own mb hk with hk|hk
  ·have:=Hf mb hk;omega
  ·exact MO hk
 have blk:∀k o,w.heap.size<=k->k<W.heap.size->W.heap[k]?=S o->Wa.heap[k]?=S o:=fun k o h1 h2 hk=>by
  have a1:=(sG.block k h2).trans hk;have a2:=(hb.block k (by omega) (fun hf=>by have:=Hf k (.inr (.inl hf));omega)).trans a1;exact(hY.block k (by omega) (fun hy=>by have:=Ko k hy;omega)).trans a2
 refine⟨_,T4.keep hY fun k hk hy=> ?_,rfl,⟨⟨?_,?_,?_,?_,fun k hk hf=> ?_⟩,fun k hk=> ?_⟩,⟨blk _ _ (by omega) (by omega) q1,blk _ _ (by omega) (by omega) q2,blk _ _ (by omega) (by omega) q3,e0,e1,e2,e3,e4,e5,fun j hj=>nF _ (by omega) (by omega),nm,by omega⟩⟩
 ·rw[Ko k hy]at hk
  exact nm hk
 ·exact hY.os.trans (hb.os.trans (sG.os.trans hB.os))
 ·exact hY.tape.trans (hb.tape.trans (sG.tape.trans hB.tape))
 ·exact hY.output.trans (hb.output.trans (sG.output.trans hB.output))
 ·have:=hY.size;have:=hB.size;omega
 ·have dL:k<W.heap.size:=by omega
  have a1:=(sG.block k dL).trans (hB.block k hk);have a2:=(hb.block k (by omega) (fun e=>hf (.inr (.inl e)))).trans a1;exact(hY.block k (by omega) (fun hy=>by have:=Ko k hy;omega)).trans a2
 ·rcases own k hk with hk|hk
  ·exact .inl hk
  ·rcases hF k hk with hk|hk
   ·exact .inl (.inr (.inl hk))
   ·exact .inr (by omega)
theorem vA {b:Nat} {X:Pg.Spc} {L L0:List Pg.Mp} {ti:Int} {F:Nat->Prop} (x:Pg.Sx) (hx:qu x) (w:M) (h:xB w b X L L0 ti F) (nD:0<=ti/\ti<4611686018427387904):
 l Q 33 #[N (S ⟨b,0,I⟩),x.val] w fun e w'=>e=y (ua #[(X.goE x).val,yI #[J B 0,J B 0]])/\∃F',xB w' b (X.goN x) (X.nxL L x) (X.nxP L L0 x) (ti+X.chg x) F'/\But F w w'/\∀k,F' k->F k\/w.heap.size<=k:=by
 obtain⟨D,fl,st,A,h,ok,rfl⟩:=h;obtain⟨W,hW⟩:=eY (((w.alloc (zI x)).alloc (t #[J B 0,Z H,J B 0,J B 0,J B 0,Z H] 36)).alloc (t #[J B 0,J B 0] 27))
 have hB:Lw w W:=by rw[hW];exact zA (zA (zA (zR _) _) _) _
 have hs:W.heap.size=w.heap.size+3:=by rw[hW];simp
 have rV:=h.lb;have TW:U _:=h.grow hB;obtain⟨q1,q2,q3⟩:=jl w (zI x) (t #[J B 0,Z H,J B 0,J B 0,J B 0,Z H] 36) (t #[J B 0,J B 0] 27);rw[<-hW]at q1 q2 q3
 have MADE:U (∀{W1 w4 Wa:M} {mb:Nat} {bM Y:Nat->Prop},Lw W W1->vv w4 D.sp (X.goN x) bM->But D.Fs W1 w4->(∀k,bM k->D.Fs k\/W1.heap.size<=k)->But Y w4 Wa->(∀k,Y k->k=mb)->W.heap.size<=mb->¬bM mb->
  Wa.cell? ⟨mb,0,I⟩=S (J B (X.goE x).c)->Wa.cell? ⟨mb,1,I⟩=S (Z (X.goE x).ended)->Wa.cell? ⟨mb,2,I⟩=S (J B (X.goE x).a)->Wa.cell? ⟨mb,3,I⟩=S (J B (X.goE x).f)->Wa.cell? ⟨mb,4,I⟩=S (J B (X.goE x).r)->Wa.cell? ⟨mb,5,I⟩=S (Z (X.goE x).back)->
  ∃D1,Wtk Wa b D1 (X.goN x) fl L ti st A/\D1.d=D.d/\zd w b D Wa D1/\ybI Wa b D1 w.heap.size x mb (X.goE x)):=fun a1 a2 a3 a4 a5 a6 a7 a8=>ygI h hB hs q1 q2 q3 a1 a2 a3 a4 a5 a6 a7 a8
 have c0:=TW.out.c0;have Nu:∀k,D.Fs k->k<w.heap.size:=fun k hk=>h.lt (.inr (.inl hk));have nsb:¬D.Fs b:=fun e=>h.F_ne e rfl;have HS:=fun w' (h':Wtk w' b D X fl L ti st A)=>jq.step x w' hx ok.inv h'.parts.space;have Nt:=fun w' D' (h':Wtk w' b D' (X.goN x) fl L ti st A) (hd:D'.d=D.d)=>ycv x hx (by rw[hd];exact ok) w' h' nD
 have x0:∀p v,(#[J B x.kind,J B x.core,J B x.m.p,J B x.m.s,J B x.m.f,J B x.m.r,J B x.q,J B x.k,Z x.u]:Array yP)[p]?=S v->W.cell? ⟨w.heap.size,p,I⟩=S v:=fun p v hp=>by
  unfold zI at q1;simp[O,q1,hp]
 have x1:=x0 0 _ rfl;have x2:=x0 1 _ rfl;have x3:=x0 2 _ rfl;have x4:=x0 3 _ rfl;have x5:=x0 4 _ rfl;have x6:=x0 5 _ rfl;have x7:=x0 6 _ rfl;have x8:=x0 7 _ rfl;have x9:=x0 8 _ rfl;have pg:U _:=hB
 have ky:b<W.heap.size:=by omega
 have aV:w.heap.size<W.heap.size:=by omega
 have wm:¬D.Fs w.heap.size:=fun e=>by have:=Nu _ e;omega
 have n1:b≠W.heap.size:=by omega
 have n2:w.heap.size≠W.heap.size:=by omega
 have n3:W.heap.size≠b:=by omega
 have n4:W.heap.size≠w.heap.size:=by omega
 have LC:U (W.heap.size=w.heap.size+3):=hs;clear hs;clear x0 h q1 q2 q3 hx hB ok;generalize hE:X.goE x=E at*;generalize hN:X.goN x=X' at*;generalize X.nxL L x=L' at*;generalize X.nxP L L0 x=L0' at*;generalize X.chg x=cg at*;clear hE hN;obtain⟨kd,co,⟨p,s,f,r⟩,q,k,u⟩:=x;obtain⟨ec,en,ea,ef,er,eb⟩:=E;simp only[Pg.Sx.val,Pg.Ev.val,zI]at hW HS Nt MADE x1 x2 x3 x4 x5 x6 x7 x8 x9 ⊢
 go_enter Tryz.func33,Tryz.ntmps33
 go_upto_region 1 with fail
 rw[<-hW];clear hW
 go_region_held3 (fun w'=>w'.cell? ⟨b,0,I⟩=S (N (S ⟨D.sp,0,I⟩))/\w'.cell? ⟨w.heap.size,0,I⟩=S (J B kd)/\w'.cell? ⟨w.heap.size,1,I⟩=S (J B co)/\w'.cell? ⟨w.heap.size,2,I⟩=S (J B p)/\w'.cell? ⟨w.heap.size,3,I⟩=S (J B s)/\w'.cell? ⟨w.heap.size,4,I⟩=S (J B f)/\w'.cell? ⟨w.heap.size,5,I⟩=S (J B r)/\w'.cell? ⟨w.heap.size,6,I⟩=S (J B q)/\w'.cell? ⟨w.heap.size,7,I⟩=S (J B k)/\w'.cell? ⟨w.heap.size,8,I⟩=S (Z u)) (go_keep) (
  (go_at_call 12;refine(HS _ (TW.out.grow (by first|exact(zA (zR W) _).drew|exact zA (zR W) _|exact(zR W).drew|exact zR W))).mono ?_;rintro e w4 ⟨rfl,bM,h4,Hl,fP⟩
   have H4:U _:=h4;have rR:U _:=Hl;have sU:U _:=fP;have s4:W.heap.size<=w4.heap.size:=uc (by first|exact ue _|simp) Hl.size;have v0:=zo Hl (by first|exact(zA (zR W) _).drew|exact zA (zR W) _|exact(zR W).drew|exact zR W) ky nsb c0;have v1:=zo Hl (by first|exact(zA (zR W) _).drew|exact zA (zR W) _|exact(zR W).drew|exact zR W) aV wm x1;have v2:=zo Hl (by first|exact(zA (zR W) _).drew|exact zA (zR W) _|exact(zR W).drew|exact zR W) aV wm x2;have v3:=zo Hl (by first|exact(zA (zR W) _).drew|exact zA (zR W) _|exact(zR W).drew|exact zR W) aV wm x3;have v4:=zo Hl (by first|exact(zA (zR W) _).drew|exact zA (zR W) _|exact(zR W).drew|exact zR W) aV wm x4;have v5:=zo Hl (by first|exact(zA (zR W) _).drew|exact zA (zR W) _|exact(zR W).drew|exact zR W) aV wm x5;have v6:=zo Hl (by first|exact(zA (zR W) _).drew|exact zA (zR W) _|exact(zR W).drew|exact zR W) aV wm x6;have v7:=zo Hl (by first|exact(zA (zR W) _).drew|exact zA (zR W) _|exact(zR W).drew|exact zR W) aV wm x7;have v8:=zo Hl (by first|exact(zA (zR W) _).drew|exact zA (zR W) _|exact(zR W).drew|exact zR W) aV wm x8;have v9:=zo Hl (by first|exact(zA (zR W) _).drew|exact zA (zR W) _|exact(zR W).drew|exact zR W) aV wm x9
   have TL:b<w4.heap.size:=by omega
   have AL:w.heap.size<w4.heap.size:=by omega
   have ub:b≠w4.heap.size:=by omega
   have ux:w.heap.size≠w4.heap.size:=by omega
   have eF:w4.heap.size≠b:=by omega
   have RN:w4.heap.size≠w.heap.size:=by omega
   have NM:U (¬bM w4.heap.size):=fun e=>by have:=h4.lt e;omega
   first
    | (have hA:But D.Fs W.drew w4:=Hl;clear hA)
    | (have tN:w4.heap[W.heap.size]?=S (t #[J B 0,Z H,J B 0,J B 0,J B 0,Z H] 36 (0,0)):=(Hl.block W.heap.size (by simp) (fun e=>by have:=Nu _ e;omega)).trans (un W (t #[J B 0,Z H,J B 0,J B 0,J B 0,Z H] 36))
       have pz:W.heap.size<w4.heap.size:=(Array.getElem?_eq_some_iff.1 tN).1;have NW:U (¬bM W.heap.size):=fun e=>(fP _ e).elim (fun e=>by have:=Nu _ e;omega) (fun e=>by simp at e;omega)
       obtain⟨⟨a0,a1,a2,a3,a4,a5⟩,af⟩:=zE tN)
   clear h4 Hl fP))
 focus
  obtain⟨Wa,rM⟩:=eY (w4.alloc (t #[J B ec,Z en,J B ea,J B ef,J B er,Z eb] 36));rw[<-rM];obtain⟨D1,T1,d1,DL,oH⟩:=MADE.out (Wa:=Wa) (mb:=w4.heap.size) (xH W) H4.out rR.out sU.out (Y:=fun _=>False) (by rw[rM];exact But.yhJ (zA (zR w4) _)) (fun _ h=>h.elim) s4 NM.out (by rw[rM];simp[go_sem]) (by rw[rM];simp[go_sem]) (by rw[rM];simp[go_sem]) (by rw[rM];simp[go_sem]) (by rw[rM];simp[go_sem]) (by rw[rM];simp[go_sem]);clear rM;generalize w4.heap.size=mb at*;clear v0 v1 v2 v3 v4 v5 v6 v7 v8 v9 TL AL ub ux eF RN
 rotate_left
 focus
  obtain⟨Wa,rM⟩:=eY ((((((w4.setCell ⟨W.heap.size,0,I⟩ (J B ec)).setCell ⟨W.heap.size,1,I⟩ (Z en)).setCell ⟨W.heap.size,2,I⟩ (J B ea)).setCell ⟨W.heap.size,3,I⟩ (J B ef)).setCell ⟨W.heap.size,4,I⟩ (J B er)).setCell ⟨W.heap.size,5,I⟩ (Z eb));rw[<-rM];obtain⟨D1,T1,d1,DL,oH⟩:=MADE.out (Wa:=Wa) (mb:=W.heap.size) ((zA (zR W) (t #[J B 0,Z H,J B 0,J B 0,J B 0,Z H] 36)).drew) H4.out rR.out sU.out (Y:=fun j=>j=W.heap.size) (by rw[rM];exact ybL _ _ _ _ _ _ _ _) (fun _ h=>h) (ue _) NW.out (by rw[rM];simp[go_sem,a0,a1,a2,a3,a4,a5]) (by rw[rM];simp[go_sem,a0,a1,a2,a3,a4,a5]) (by rw[rM];simp[go_sem,a0,a1,a2,a3,a4,a5]) (by rw[rM];simp[go_sem,a0,a1,a2,a3,a4,a5]) (by rw[rM];simp[go_sem,a0,a1,a2,a3,a4,a5]) (by rw[rM];simp[go_sem,a0,a1,a2,a3,a4,a5]);clear rM;clear v0 v1 v2 v3 v4 v5 v6 v7 v8 v9 TL AL ub ux eF RN a0 a1 a2 a3 a4 a5 af tN pz;generalize W.heap.size=mb at*
 rotate_left
 all_goals
  have T1:U _:=T1;have DL:U _:=DL;have oH:U _:=oH;have F1:=Nt _ _ T1.out d1;clear Nt HS MADE H4 rR sU NM TW pg c0 x1 x2 x3 x4 x5 x6 x7 x8 x9 ky aV wm n1 n2 n3 n4 LC s4 d1;have p1:=oH.out.sx;have e0:=oH.out.e0;have e1:=oH.out.e1;have e2:=oH.out.e2;have e3:=oH.out.e3;have e4:=oH.out.e4;have e5:=oH.out.e5;simp only[zI]at p1 e0 e1 e2 e3 e4 e5;obtain⟨⟨x0,x1,x2,x3,x4,x5,x6,x7,x8⟩,_⟩:=yck p1;clear p1
  go_wp2_with fail
  refine F1.mono ?_;rintro z w5 ⟨rfl,D5,fl5,A5,T5,AO,DR⟩;have Oz:U _:=oH.out.done DR;have DR:U _:=DL.out.trans DR;have T5:U _:=T5;have Eh:U _:=AO;clear AO F1 T1 DL oH x0 x1 x2 x3 x4 x5 x6 x7 x8 e0 e1 e2 e3 e4 e5;have c4:=T5.out.c4;have cz:=T5.out.fz;obtain⟨v,hv⟩:∃v,IntKind.i64.wrap (st+1)=v:=⟨_,rfl⟩;obtain⟨W6,nS⟩:=eY (w5.setCell ⟨b,4,I⟩ (J B v));have T6:U _:=T5.out.stepped v
  have RO:U (zd w b D W6 D5):=by rw[U,nS];exact DR.out.trans (.set _ _ fun _=>id)
  have lW:=Oz.out.done (zd.set (w:=w5) (D:=D5) (D':=D5) 4 (J B v) fun _=>id);rw[<-nS]at T6 lW;have lW:U _:=lW
  go_upto_region 5 with fail
  rw[<-nS];clear nS T5 DR Oz c4 cz hv;have c9:=T6.out.c9;have c10:=T6.out.c10;have e0:=lW.out.e0;have e1:=lW.out.e1;have e2:=lW.out.e2;have e3:=lW.out.e3;have e4:=lW.out.e4;have e5:=lW.out.e5;obtain⟨⟨r0,r1,r2,r3,r4,r5⟩,rz⟩:=zE lW.out.re;have oZ:=lW.out.rf
  have f0:W6.cell? ⟨w.heap.size+2,0,I⟩=S (J B 0):=by simp[O,oZ]
  have f1:W6.cell? ⟨w.heap.size+2,1,I⟩=S (J B 0):=by simp[O,oZ]
  have fz:∀i,W6.frozen? ⟨w.heap.size+2,i,I⟩=H:=fun i=>by simp[yB,oZ]
  clear oZ;simp only at e0 e1 e2 e3 e4 e5;have Uf:=lW.out.lt
  have m1:mb≠w.heap.size+1:=by omega
  have m2:mb≠w.heap.size+2:=by omega
  have m3:w.heap.size+1≠w.heap.size+2:=by omega
  have m4:w.heap.size+2≠w.heap.size+1:=by omega
  have FIN:U (∀Wf,But (fun k=>k=w.heap.size+1\/k=w.heap.size+2) W6 Wf->∃F',xB Wf b X' L' L0' (ti+cg) F'/\But (D.F b) w Wf/\∀k,F' k->D.F b k\/w.heap.size<=k):=fun Wf hb=>
   ⟨D5.F b,⟨D5,fl5,_,A5,T6.out.keep hb (fun k hk e=>e.elim (fun e=>lW.out.nF 1 (by decide) (e▸hk)) (fun e=>lW.out.nF 2 (by decide) (e▸hk))),Eh.out,rfl⟩,
    ⟨hb.os.trans RO.out.but.os,hb.tape.trans RO.out.but.tape,hb.output.trans RO.out.but.output,uc RO.out.but.size hb.size,fun k hk hf=>(hb.block k (kh hk RO.out.but.size) (fun e=>by omega)).trans (RO.out.but.block k hk hf)⟩,RO.out.own⟩
  have rG:w.heap.size+1<W6.heap.size:=kO _ _ r0;have pJ:w.heap.size+2<W6.heap.size:=kO _ _ f0;clear T6 RO lW Eh
  go_wp2
  refine yJ (v:=ua #[yI #[J B ec,Z en,J B ea,J B ef,J B er,Z eb],yI #[J B 0,J B 0]]) ?_ rfl ⟨rfl,FIN.out _ ?_⟩
  ·simp[results,Tryz.results33,go_sem,r0,r1,r2,r3,r4,r5,f0,f1,rG,pJ,m3,m4]
  ·exact((qH (But.refl (fun k=>k=w.heap.size+1\/k=w.heap.size+2) W6) (w.heap.size+1) (.inr (.inl rfl)) _ _ _ _ _ _).setCell (a:=⟨w.heap.size+2,0,I⟩) (.inr (.inr rfl)) _).setCell (a:=⟨w.heap.size+2,1,I⟩) (.inr (.inr rfl)) _
theorem ygC {co n:Nat} (h1:1<=co) (h4:co<=4) (h2:1<=n) (h3:n<=128):Pg.WOk (Pg.Spc.new co n) [] [] [] [] (fun _=>I) (fun _=>[]):=by
 refine⟨Pg.inv_new h1 h2 h3,rfl,fun _=>rfl,fun _=>rfl,fun j hj ho=> ?_,by simp[Pg.Spc.new];omega⟩
 exfalso
 unfold Pg.Spc.walkOf Pg.Spc.new at ho;rw[iP (Int.natCast_nonneg j)]at ho
 have:(List.replicate co Pg.Cr.new).getD (j:Int).toNat Pg.Cr.new=Pg.Cr.new:=by
  simp only[List.getD,List.getElem?_replicate]
  split<;>rfl
 rw[this]at ho;cases ho
theorem yfr (co n:Int) (w:M) (fT:co<1\/4<co\/n<1\/128<n):
 l Q 31 #[J B co,J B n] w fun e w'=>e=y (ua #[N I,yI #[J B 1,J B (-1)]])/\Lw w w':=by
 have HN:=fun w=>jq.bad co n w fT;clear fT
 go_enter Tryz.func31,Tryz.ntmps31
 go_wp2_with fail
 refine(HN _).mono ?_;rintro e w1 ⟨rfl,Ha⟩;have r0:w1.cell? ⟨w.heap.size,0,I⟩=S (J B 0):=(Ha.cell (p:=⟨w.heap.size,0,I⟩) (by simp)).trans (by simp[go_sem]);have r1:w1.cell? ⟨w.heap.size,1,I⟩=S (J B 0):=(Ha.cell (p:=⟨w.heap.size,1,I⟩) (by simp)).trans (by simp[go_sem]);have rz:∀p,w1.frozen? ⟨w.heap.size,p,I⟩=H:=fun p=>(Ha.frozen (p:=⟨w.heap.size,p,I⟩) (by simp)).trans (by simp[go_sem])
 have hs:w.heap.size<w1.heap.size:=by have:=Ha.size;simp at this;omega
 have HB:U (Lw w w1):=zT (zA (zR w) _) Ha
 have n1:w.heap.size≠w1.heap.size:=by omega
 have n2:w1.heap.size≠w.heap.size:=by omega
 clear Ha HN
 go_wp2_with fail
 go_region
 all_goals
  go_wp2
  refine yJ (v:=ua #[N I,yI #[J B 1,J B (-1)]]) ?_ rfl ⟨rfl,?_⟩
  ·simp[results,Tryz.results31,go_sem,r0,r1,hs,n1,n2]
  ·repeat (first|exact HB.out|exact(HB.out.setCell (p:=⟨w.heap.size,0,I⟩) (ue _) _).setCell (p:=⟨w.heap.size,1,I⟩) (ue _) _|refine Below.drew ?_|refine zA ?_ _)
theorem yak (co n:Nat) (w:M) (h1:1<=co) (h4:co<=4) (h2:1<=n) (h3:n<=128):
 l Q 31 #[J B (co:Int),J B (n:Int)] w fun e w'=>∃b F,e=y (ua #[N (S ⟨b,0,I⟩),yI #[J B 0,J B 0]])/\xB w' b (Pg.Spc.new co n) [] [] 0 F/\Lw w w'/\∀k,F k->w.heap.size<=k:=by
 have HN:=fun w=>jq.new co n w h1 h4 h2 h3;have OK:U _:=ygC h1 h4 h2 h3;clear h1 h4 h2 h3
 go_enter Tryz.func31,Tryz.ntmps31
 go_wp2_with fail
 refine(HN _).mono ?_;rintro e w1 ⟨sp,Fs,rfl,s1,Ha,tH⟩;have r0:w1.cell? ⟨w.heap.size,0,I⟩=S (J B 0):=(Ha.cell (p:=⟨w.heap.size,0,I⟩) (by simp)).trans (by simp[go_sem]);have r1:w1.cell? ⟨w.heap.size,1,I⟩=S (J B 0):=(Ha.cell (p:=⟨w.heap.size,1,I⟩) (by simp)).trans (by simp[go_sem]);have rz:∀p,w1.frozen? ⟨w.heap.size,p,I⟩=H:=fun p=>(Ha.frozen (p:=⟨w.heap.size,p,I⟩) (by simp)).trans (by simp[go_sem])
 have hs:w.heap.size<w1.heap.size:=by have:=Ha.size;simp at this;omega
 have HB:U (Lw w w1):=zT (zA (zR w) _) Ha
 have HF:U (∀k,Fs k->w.heap.size<k):=fun k hk=>by have:=tH k hk;simp at this;omega
 have S1:U _:=s1
 have n1:w.heap.size≠w1.heap.size:=by omega
 have n2:w1.heap.size≠w.heap.size:=by omega
 clear Ha HN s1 tH;obtain⟨W2,Hy⟩:=eY (w1.alloc (t #[J B 0,J B 0] 27))
 have Hd:Lw w1 W2:=by rw[Hy];exact zA (zR _) _
 have q0:W2.cell? ⟨w1.heap.size,0,I⟩=S (J B 0):=by rw[Hy];simp[go_sem]
 have q1:W2.cell? ⟨w1.heap.size,1,I⟩=S (J B 0):=by rw[Hy];simp[go_sem]
 have pJ:W2.heap.size=w1.heap.size+1:=by rw[Hy];simp
 go_upto_region 2 with fail
 rw[<-Hy];clear Hy
 go_wp2_with fail
 refine(yeC _).mono ?_;rintro e w3 ⟨bb,Fb,rfl,d3,He,gT⟩;have fQ:Lw w1 w3:=zT Hd He;have r0:=uv fQ r0;have r1:=uv fQ r1;have rz:∀p,w3.frozen? ⟨w.heap.size,p,I⟩=H:=fun p=>(fQ.frozen (p:=⟨w.heap.size,p,I⟩) hs).trans (rz p)
 have dn:w.heap.size<w3.heap.size:=by have:=fQ.size;omega
 have n3:w.heap.size≠w3.heap.size:=by omega
 have n4:w3.heap.size≠w.heap.size:=by omega
 clear q0 q1;obtain⟨V,hV⟩:=eY ((w3.setCell ⟨w.heap.size,0,I⟩ (J B 0)).setCell ⟨w.heap.size,1,I⟩ (J B 0))
 have Kl:V.heap.size=w3.heap.size:=by rw[hV];simp
 have bV:But (fun k=>k=w.heap.size) w3 V:=by rw[hV];exact(xE w3 _ _ _).trans (xE _ _ _ _) fun _ _ e=>e
 obtain⟨Wf,oP⟩:=eY (V.alloc (t #[N (S ⟨sp,0,I⟩),N (S ⟨bb,0,I⟩),N (S ⟨bb,0,I⟩),J B 0,J B 0,.map I,.map I,.map I,.map I,J B 0,J B 0] 91))
 have blk:Wf.heap[w3.heap.size]?=S (t #[N (S ⟨sp,0,I⟩),N (S ⟨bb,0,I⟩),N (S ⟨bb,0,I⟩),J B 0,J B 0,.map I,.map I,.map I,.map I,J B 0,J B 0] 91 (0,0)):=by rw[oP,<-Kl];exact un _ _
 have bf:But (fun k=>k=w.heap.size) w3 Wf:=by rw[oP];exact bV.alloc _
 have hlt1:=fQ.size
 have FIN:U (xB Wf w3.heap.size (Pg.Spc.new co n) [] [] 0 (Wtd.F ⟨sp,bb,bb,fun _=>I,Fs,Fb,Fb,fun k=>if k<w1.heap.size then 1 else if k<w3.heap.size then 2 else 0⟩ w3.heap.size)):=by
  have Mx:=d3.keep bf fun k hk e=>by have:=gT k hk;omega
  have fl:∀k,Fb k->(if k<w1.heap.size then 1 else if k<w3.heap.size then 2 else 0)=2:=fun k hk=>by
   have h1:=gT k hk;have h2:=d3.lt hk;rw[iN (by omega),iP h2]
  refine⟨_,[],0,fun _=>[],⟨?_,?_,?_,?_,?_,fun j hj=> ?_,?_,?_,fun p=> ?_,⟨?_,Mx,Mx,fun j _ m hm=>(by cases hm),?_,fun k hk=> ?_,fun k hk=> ?_,fun j _ m hm=>by cases hm⟩⟩,OK.out,rfl⟩
  ·simp[O,blk]
  ·simp[O,blk]
  ·simp[O,blk]
  ·simp[O,blk]
  ·simp[O,blk]
  ·obtain rfl|rfl|rfl|rfl:j=0\/j=1\/j=2\/j=3:=by omega
   all_goals simp[O,blk]
  ·simp[O,blk]
  ·simp[O,blk]
  ·simp[yB,blk]
  ·exact(jq.grow S1.out fQ).keep bf fun k hk e=>by have:=HF.out k hk;omega
  ·show(if w3.heap.size<w1.heap.size then 1 else if w3.heap.size<w3.heap.size then 2 else 0)=0
   rw[iN (by omega),iN (by omega)]
  ·show(if k<w1.heap.size then 1 else if k<w3.heap.size then 2 else 0)=1
   rw[iP (S1.out.lt hk)]
  ·exact fl k (hk.elim id id)
 have BF:U (Lw w Wf):=(zT HB.out fQ).trans (bf.below (by omega) fun k e=>by omega)
 have OWN:U (∀k,Wtd.F ⟨sp,bb,bb,fun _=>I,Fs,Fb,Fb,fun k=>if k<w1.heap.size then 1 else if k<w3.heap.size then 2 else 0⟩ w3.heap.size k->w.heap.size<=k):=fun k hk=>by
  rcases hk with hk|hk|hk|hk|⟨j,_,hk⟩
  ·omega
  ·have:=HF.out k hk;omega
  ·have:=gT k hk;omega
  ·have:=gT k hk;omega
  ·cases hk
 have y0:Wf.cell? ⟨w.heap.size,0,I⟩=S (J B 0):=by
  rw[oP,(zA (zR V) _).cell (p:=⟨w.heap.size,0,I⟩) (by rw[Kl];exact dn),hV];exact(ki _ _ _ _ (fun h=>by have:=congrArg Addr.off h;simp at this)).trans (kp _ _ _ r0)
 have y1:Wf.cell? ⟨w.heap.size,1,I⟩=S (J B 0):=by
  rw[oP,(zA (zR V) _).cell (p:=⟨w.heap.size,1,I⟩) (by rw[Kl];exact dn),hV];exact kp (u:=J B 0) _ _ _ ((ki _ _ _ _ (fun h=>by have:=congrArg Addr.off h;simp at this)).trans r1)
 have UB:w.heap.size<Wf.heap.size:=kO _ _ y0;clear S1 HF d3 gT OK HB bf blk fQ Hd He bV
 go_wp2_with fail
 rw[<-hV,<-oP];refine yJ (v:=ua #[N (S ⟨w3.heap.size,0,I⟩),yI #[J B 0,J B 0]]) ?_ rfl ⟨w3.heap.size,_,rfl,FIN.out,BF.out,OWN.out⟩;simp[results,Tryz.results31,go_sem,y0,y1,UB]
theorem yav (ad:Option Addr) (len cap:Nat) (k:Int) (w:M):l Q 8 #[yS ad len cap,J B k] w fun e w'=>e=y (Z (decide (k<(len:Int))))/\w'=w:=by
 go_enter Tryz.func8,Tryz.ntmps8
 go_wp2
 go_ret
 exact⟨rfl,rfl⟩
def Bst.sx (x:Bst):Pg.Sx:=⟨x.kind,x.core,x.m,x.q,x.k,x.u⟩
section
variable {P:M->Nat->Pg.Spc->(Nat->Prop)->Prop}
end
namespace Pg
end Pg
namespace Wsm
variable {w0 w w':M} {b c:Nat} {X X' Y Y':Pg.Spc} {L L0 L' L0':List Pg.Mp} {ti bL:Int} {F F' G G':Nat->Prop}
end Wsm
theorem ye2 {w w':M} {ad:Option Addr} {L:List Pg.Mp} {G:Nat->Prop} (h:zm w ad L) (hb:But G w w') (hn:∀g,ad=S ⟨g,0,I⟩->¬G g):zm w' ad L:=fun j hj=>by
 obtain⟨g,e,hl,c0,c1,c2,c3⟩:=h j hj;have hg:=hn g e;exact⟨g,e,kh hl hb.size,(hb.cell (a:=⟨g,_,I⟩) hl hg).trans c0,(hb.cell (a:=⟨g,_,I⟩) hl hg).trans c1,(hb.cell (a:=⟨g,_,I⟩) hl hg).trans c2,(hb.cell (a:=⟨g,_,I⟩) hl hg).trans c3⟩
theorem xB.at' {w:M} {b sp:Nat} {X:Pg.Spc} {L L0:List Pg.Mp} {ti:Int} {F:Nat->Prop} (h:xB w b X L L0 ti F) (hc:w.cell? ⟨b,0,I⟩=S (N (S ⟨sp,0,I⟩))):∃Fs,vv w sp X Fs:=by
 obtain⟨sp',Fs,c,h⟩:=h.space;rw[hc]at c;injection c with c;injection c with c;injection c with c;injection c with c;exact⟨Fs,c▸h⟩
theorem yeI {w:M} {b:Nat} {X:Pg.Spc} {F:Nat->Prop} (h:vv w b X F):l Q 17 #[N (S ⟨b,0,I⟩)] w fun e w'=>∃ad cap,e=y (yS ad X.maps.length cap)/\zm w' ad X.maps/\(∀g,ad=S ⟨g,0,I⟩->w.heap.size<=g)/\Lw w w':=by
 obtain⟨D,h,rfl⟩:=h;refine(jS w h).mono ?_;rintro e w' ⟨ad,cap,rfl,h1,h2,h3⟩;exact⟨ad,cap,rfl,h1,h3,h2⟩
end
end Go.Proofs.YtdphiompijbelaaGreat
