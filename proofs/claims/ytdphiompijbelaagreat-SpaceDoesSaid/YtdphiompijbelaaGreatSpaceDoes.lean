
/-
  SpaceDoes is proved: every New and Do of package space, and all that is told of a Space, is as the document says.
  Conditions: none.
-/
import Derived.Test.YtdphiompijbelaaGreatDoesA
import Derived.Test.YtdphiompijbelaaGreatWalkG
import Derived.Test.YtdphiompijbelaaGreatLooseE
set_option linter.all false
set_option maxRecDepth 100000
open Nat renaming lt_of_lt_of_le->y,le_trans->kT
open Int renaming eq_ofNat_of_zero_le->A,toNat_natCast->kI
open Array renaming getElem?_eq_some_iff->M
open Option renaming none->U,some->D
open Go.Obj renaming cells->Z
open Bool renaming false->Q,true->kR
open Go.RowKit renaming Hid->T
open Go renaming cell_regrown->Y,heap_alloc_new->O
open Go.IntKind renaming i64->N
open Go.Value renaming int->R,bool->V,slice->kN
open List renaming take_succ_cons->I,drop_succ_cons->J,take_zero->B,drop_zero->P,flatMap_cons->z,flatMap_nil->kJ,cons_append->kP,nil_append->kS,append_nil->kC,append_eq->kY
namespace Go.Proofs.YtdphiompijbelaaGreat
open Go.ChangeShapes Go.WideShapes Go.ChangeAt Go.RowKit Go.Joins Go.Sort
section
attribute [local go_sem] Loose.gent Loose.yiz Loose.yiA Loose.yhS
theorem ye6 {W w':World} {xb o:Nat} {x:Bst} (h:ycF W xb o x) (hl:xb<W.heap.size) (hb:Below W.heap.size W w'):ycF w' xb o x:=by
 obtain⟨x0,x1,x2,x3,x4,x5,x6,x7,x8⟩:=h;exact⟨(hb.cell (p:=⟨xb,_,U⟩) hl).trans x0,(hb.cell (p:=⟨xb,_,U⟩) hl).trans x1,(hb.cell (p:=⟨xb,_,U⟩) hl).trans x2,(hb.cell (p:=⟨xb,_,U⟩) hl).trans x3,(hb.cell (p:=⟨xb,_,U⟩) hl).trans x4,(hb.cell (p:=⟨xb,_,U⟩) hl).trans x5,(hb.cell (p:=⟨xb,_,U⟩) hl).trans x6,(hb.cell (p:=⟨xb,_,U⟩) hl).trans x7,(hb.cell (p:=⟨xb,_,U⟩) hl).trans x8⟩
theorem yaM {α:Type} {l:List α} {n:Nat} {d:α} (h:l.length<=n):l.getD n d=d:=by simp[List.getD,List.getElem?_eq_none h]
theorem yfr (m:Pg.Mp):∃a b c d,m=⟨a,b,c,d⟩:=⟨m.p,m.s,m.f,m.r,rfl⟩
theorem yfo (e:Pg.En):∃a b c d f g,e=⟨a,b,c,d,f,g⟩:=⟨_,_,_,_,_,_,rfl⟩
theorem yfa (n:Int):∃a,n=a:=⟨_,rfl⟩
structure Bx2 (W w:World) (bs br cn:Nat):Prop where
 ex:∃X F F',Bth W w bs br X F F'/\X.C.length=cn
set_option maxHeartbeats 60000000 in
theorem spaceDoes_walk (W:World) (co:Int) (hco:Pg.fits co) (n:Int) (hn:Pg.fits n) (ad:Option Addr) (len cap:Nat) (q:Nat->Bst)
 (hq:∀j,j<len->(∃b o,ad=D ⟨b,o,U⟩/\b<W.heap.size/\ycF W b (o+j*9) (q j))/\ybJ (q j)):
 Calls Tryz.prog 3 #[R N co,R N n,kN ad len cap] W fun e W'=>e= .returned (V kR)/\Below W.heap.size W W':=by
 have HQ:T _:=hq;clear hq hco hn
 by_cases hl:200<len
 ·have d1:decide ((200:Int)<(len:Int))=kR:=by simp;omega
  as_aux_lemma=>
  go_enter Tryz.func3,Tryz.ntmps3
  go_wp2_with fail
  refine(qy _).mono ?_;rintro e w1 ⟨rfl,hb1⟩;have HB:T _:=hb1;clear hb1
  go_wp2_with fail
  refine(qd ad len cap 200 _).mono ?_;rintro e w2 ⟨rfl,rfl⟩
  go_wp2_with fail
  go_ret
  exact⟨rfl,HB.out⟩
 ·have d1:decide ((200:Int)<(len:Int))=Q:=by simp;omega
  by_cases hbad:co<1\/4<co\/n<1\/128<n
  ·have HSF:=qY co n
   rw[if_pos hbad]at HSF;have HNB:=fun w=>ydx co n w hbad;clear hbad
   as_aux_lemma=>
   go_enter Tryz.func3,Tryz.ntmps3
   go_wp2_with fail
   refine(qy _).mono ?_;rintro e w1 ⟨rfl,hb1⟩;have HB:T _:=hb1;clear hb1
   go_wp2_with fail
   refine(qd ad len cap 200 _).mono ?_;rintro e w2 ⟨rfl,rfl⟩
   go_wp2_with fail
   refine(HNB _).mono ?_;rintro e w3 ⟨rfl,hb3⟩;obtain⟨W4,hW4⟩:∃W4,W4=w3.alloc (Z #[R N 1,R N (-1)] 27):=⟨_,rfl⟩
   have hb4:Below w3.heap.size w3 W4:=by rw[hW4];exact zA (zR _) _
   have R4:T (W4.heap[w3.heap.size]?=D (Z #[R N 1,R N (-1)] 27 (0,0))):=by rw[T,hW4];exact O _ _
   have hl4:w3.heap.size<W4.heap.size:=by rw[hW4];simp
   have HB4:T _:=zT (zT HB.out hb3) hb4;clear hb3 hb4
   go_upto_region 6 with fail
   rw[<-hW4];clear hW4
   go_wp2_with fail
   refine(HSF _).mono ?_;rintro e w5 ⟨rfl,hb5⟩;have hl5:w3.heap.size<w5.heap.size:=y hl4 hb5.size;obtain⟨⟨z0,z1⟩,zf⟩:=vT ((hb5.block _ hl4).trans R4.out);have HB5:T _:=zT HB4.out hb5
   have hne:w3.heap.size≠w5.heap.size:=by omega
   clear hb5
   go_wp2_with fail
   go_ret
   exact⟨rfl,zT HB5.out (zA (zR _) _)⟩
  ·have HSF:=qY co n
   rw[if_neg hbad]at HSF;obtain⟨cn,rfl⟩:=A (show 0<=co by omega);obtain⟨nn,rfl⟩:=A (show 0<=n by omega);have HNW:=fun w=>ybc cn nn w (by omega) (by omega) (by omega) (by omega);have HNR:=fun w=>ybr cn nn (by omega) (by omega) (by omega) (by omega) w
   go_enter Tryz.func3,Tryz.ntmps3
   go_wp2_with fail
   refine(qy _).mono ?_;rintro e w1 ⟨rfl,hb1⟩;have HB:T _:=hb1;clear hb1
   go_wp2_with fail
   refine(qd ad len cap 200 _).mono ?_;rintro e w2 ⟨rfl,rfl⟩
   go_wp2_with fail
   refine(HNW _).mono ?_;rintro e w3 ⟨bs,F,rfl,h3,hb3,hF3⟩;obtain⟨W4,hW4⟩:∃W4,W4=w3.alloc (Z #[R N 0,R N 0] 27):=⟨_,rfl⟩
   have hb4:Below w3.heap.size w3 W4:=by rw[hW4];exact zA (zR _) _
   have R4:T (W4.heap[w3.heap.size]?=D (Z #[R N 0,R N 0] 27 (0,0))):=by rw[T,hW4];exact O _ _
   have hl4:w3.heap.size<W4.heap.size:=by rw[hW4];simp
   have S4:T (yen W W4 bs (Pg.Spc.new cn nn) F):=⟨h3.grow hb4,zT (zT HB.out hb3) hb4,fun k hk=>kT HB.out.size (hF3 k hk)⟩;clear h3 hb3 hF3 hb4
   go_upto_region 6 with fail
   rw[<-hW4];clear hW4
   go_wp2_with fail
   refine(HSF _).mono ?_;rintro e w5 ⟨rfl,hb5⟩;have hl5:w3.heap.size<w5.heap.size:=y hl4 hb5.size;obtain⟨W6,hW6⟩:∃W6,W6=w5.alloc (Z #[R N 0,R N 0] 27):=⟨_,rfl⟩
   have hb6:Below w5.heap.size w5 W6:=by rw[hW6];exact zA (zR _) _
   obtain⟨⟨z0,z1⟩,zf⟩:=vT ((hb6.block _ hl5).trans ((hb5.block _ hl4).trans R4.out));obtain⟨⟨v0,v1⟩,vf⟩:=vT (show W6.heap[w5.heap.size]?=D (Z #[R N 0,R N 0] 27 (0,0)) by rw[hW6];exact O _ _);have S6:T (yen W W6 bs (Pg.Spc.new cn nn) F):=S4.out.grow (zT hb5 hb6);clear hb5 hb6 S4
   go_upto_region 7 with fail
   rw[<-hW6];clear hW6
   go_wp2_with fail
   refine(HNR _).mono ?_;rintro e w7 ⟨br,F',rfl,h7,hb7,hF7⟩
   have B7:T (Bx2 W w7 bs br cn):=by
    refine⟨_,F,F',⟨(S6.out.grow hb7).at',h7,zT S6.out.bel hb7,S6.out.hi,fun k hk=>kT S6.out.bel.size (hF7 k hk),fun k hk hf=> ?_⟩,by simp[Pg.Spc.new]⟩;have:=S6.out.at'.lt hk;have:=hF7 k hf;omega
   clear h7 hb7 hF7 S6 z0 z1 v0 v1 zf vf R4 HSF HNW HNR HB
   go_wp2_with fail
   go_loopw [11,12,13,14,15,16,17,18,19,20,21,22,23,24] (fun i _ _ _ _ _ _ _ _ _ _ _ _ _ wr=>∃k:Nat,k<=len/\i=R N k/\T (Bx2 W wr bs br cn)) (fun i _ _ _ _ _ _ _ _ _ _ _ _ _ _=>len-(intOf i).toNat)
   case atStart=>exact⟨0,by omega,rfl,B7⟩
   case round=>
    obtain⟨k,hk,rfl,HR⟩:=hrel;clear B7
    by_cases hlt:k<len
    ·obtain⟨X,F,F',B0,hcl⟩:=HR.out.ex
     obtain⟨⟨xb,xo,rfl,hxl,hx⟩,hfit⟩:=HQ.out k hlt
     have i0:(0:Int)<=(k:Int):=by omega
     have i1:(k:Int)<(len:Int):=by omega
     generalize q k=x at*;have HXC:T (∀w',Below W.heap.size W w'->ycF w' xb (xo+k*9) x):=fun w' hb=>ye6 hx hxl hb;have D0:T _:=B0.grow (xj wr)
     have HL:T ((X.goN x.sx).C.length=cn):=by rw[T,Pg.goN_len];exact hcl
     have HXL:T (∀w',Below W.heap.size W w'->xb<w'.heap.size):=fun w' hb=>y hxl hb.size;have Q1:=fun w' (h:jz w' bs X F)=>j6 x.sx w' h;have Q2:=fun w' (h:ybH w' br X F')=>yeP x.sx w' h;clear hx HR hfit hcl;obtain⟨kd,cr,⟨mp,ms,mf,mr⟩,xq,xk,xu⟩:=x;have hxe:Bst.sx ⟨kd,cr,⟨mp,ms,mf,mr⟩,xq,xk,xu⟩=⟨kd,cr,⟨mp,ms,mf,mr⟩,xq,xk,xu⟩:=rfl;rw[hxe]at Q1 Q2 HL;clear hxe;obtain⟨y0,y1,y2,y3,y4,y5,y6,y7,y8⟩:=HXC.out wr B0.bel;simp only at y0 y1 y2 y3 y4 y5 y6 y7 y8;clear B0;generalize X.goE _=E at*;generalize X.goN _=X' at*;obtain⟨ec,en,ea,ef,er,eb⟩:=E;simp only[Pg.Sx.val,Pg.Ev.val]at Q1 Q2
     go_upto_region 13 with fail
     go_cut [70]from 52 to 262 (fun s70 wc=>s70=V Q/\∃F8 F9,T (Bth W wc bs br X' F8 F9))
     case first=>
      as_aux_lemma=>
      go_region_held3 (fun w'=>w'.cell? ⟨xb,xo+k*9,U⟩=D (R N kd)/\w'.cell? ⟨xb,xo+k*9+1,U⟩=D (R N cr)/\w'.cell? ⟨xb,xo+k*9+2,U⟩=D (R N mp)/\w'.cell? ⟨xb,xo+k*9+3,U⟩=D (R N ms)/\w'.cell? ⟨xb,xo+k*9+4,U⟩=D (R N mf)/\w'.cell? ⟨xb,xo+k*9+5,U⟩=D (R N mr)/\w'.cell? ⟨xb,xo+k*9+6,U⟩=D (R N xq)/\w'.cell? ⟨xb,xo+k*9+7,U⟩=D (R N xk)/\w'.cell? ⟨xb,xo+k*9+8,U⟩=D (V xu)) (go_keep) (first
       | (go_at_call 13;refine(Q2 _ D1.out.rf).mono ?_;rintro e w9 ⟨rfl,F9,h9,hb9,hF9⟩;have D2:T _:=D1.out.stepR h9 hb9 hF9;obtain⟨r0,r1,r2,r3,r4,r5,r6,r7,r8⟩:=HXC.out w9 D2.out.bel;simp only at r0 r1 r2 r3 r4 r5 r6 r7 r8;clear h9 hb9 hF9)
       | (go_at_call 12;refine(Q1 _ D0.out.dv).mono ?_;rintro e w8 ⟨rfl,F8,h8,hb8,hF8⟩;have D1:T _:=D0.out.stepD h8 hb8 hF8;obtain⟨p0,p1,p2,p3,p4,p5,p6,p7,p8⟩:=HXC.out w8 D1.out.bel;simp only at p0 p1 p2 p3 p4 p5 p6 p7 p8;clear h8 hb8 hF8))
      all_goals
       go_wp2_with fail
       go_meet
       case rel=>exact⟨by first|rfl|simp,_,_,D2⟩
     case rest=>
      obtain⟨rfl,F8,F9,D2⟩:=hcut;clear y0 y1 y2 y3 y4 y5 y6 y7 y8 Q1 Q2 D0;obtain⟨Dr,hr,hbz,hFr⟩:=D2.out.rf;have HR9:T _:=hr;have HBZ:T (Dr.bz=X'.busy):=hbz;have g0:=hr.c0;have HAO:=ydl 0 wc hr.mem;clear hr hbz hFr
      go_upto_region 15 with fail
      go_wp2_with fail
      refine HAO.mono ?_;rintro e w10 hbd;obtain⟨adm,cpm,adt,cpt,rfl,hrw⟩:=hbd.end';have HB10:T _:=hbd.bel;have HRW:T _:=hrw;have D3:T _:=D2.out.grow HB10.out;have HR3:T _:=HR9.out.grow HB10.out;clear hbd hrw HAO g0 D2 HR9;obtain⟨y0,y1,y2,y3,y4,y5,y6,y7,y8⟩:=HXC.out w10 D3.out.bel;simp only at y0 y1 y2 y3 y4 y5 y6 y7 y8
      go_upto_region 17 with fail
      go_cut [16]from 52 to 262 (fun s16 wc=>(∃inb:Bool,s16=V inb/\T (inb=decide (0<=cr/\cr<(cn:Int))))/\wc=w10)
      case first=>
       by_cases hc0:0<=cr
       ·have e0:decide (0<=cr)=kR:=by simpa using hc0
        by_cases hc1:cr<(cn:Int)
        ·have e1:decide (cr<(cn:Int))=kR:=by simpa using hc1
         have HE:T (decide (0<=cr/\cr<(cn:Int))=kR):=by simp[T,hc0,hc1]
         clear hc0 hc1
         go_wp2_with fail
         go_meet
         case rel=>exact⟨⟨_,rfl,HE.out.symm⟩,rfl⟩
        ·have e1:decide (cr<(cn:Int))=Q:=by simpa using hc1
         have HE:T (decide (0<=cr/\cr<(cn:Int))=Q):=by simp[T,hc0];omega
         clear hc0 hc1
         go_wp2_with fail
         go_meet
         case rel=>exact⟨⟨_,rfl,HE.out.symm⟩,rfl⟩
       ·have e0:decide (0<=cr)=Q:=by simpa using hc0
        have HE:T (decide (0<=cr/\cr<(cn:Int))=Q):=by simp[T,hc0]
        clear hc0
        go_wp2_with fail
        go_meet
        case rel=>exact⟨⟨_,rfl,HE.out.symm⟩,rfl⟩
      case rest=>
      obtain⟨⟨inb,rfl,HIN⟩,hwc⟩:=hcut;subst hwc;clear y0 y1 y2 y3 y4 y5 y6 y7 y8;obtain⟨Dd,hd,hFd⟩:=D3.out.dv;have HD3:T _:=hd;have HON:=yet cr wc hd;clear hd hFd;have HWK:T (X'.walkOf cr=X'.walkOf cr):=rfl
      go_wp2_with fail
      refine HON.mono ?_;rintro e w11 ⟨rfl,hb11⟩;obtain⟨W12,hW12⟩:∃W12,W12=w11.alloc (Z #[R N (X'.walkOf cr).q,R N (X'.walkOf cr).k,V (X'.walkOf cr).u] 41):=⟨_,rfl⟩
      have hb12:Below w11.heap.size w11 W12:=by rw[hW12];exact zA (zR _) _
      have RA:T (W12.heap[w11.heap.size]?=D (Z #[R N (X'.walkOf cr).q,R N (X'.walkOf cr).k,V (X'.walkOf cr).u] 41 (0,0))):=by rw[T,hW12];exact O _ _
      have D4:T _:=D3.out.grow (zT hb11 hb12);have HD4:T _:=HD3.out.grow (zT hb11 hb12);have HR4:T _:=HR3.out.grow (zT hb11 hb12);have HW4:T _:=HRW.out.grow (zT hb11 hb12)
      go_upto_region 19 with fail
      rw[<-hW12];clear hW12 hb12 hb11 HON D3 HD3 HR3 HRW HB10;generalize w11.heap.size=ab at*;have HMA:T (xx W12 adm X'.maps):=vD HW4.out.m;have HIA:T (zh W12 adt X'.tabs):=qb HW4.out.t
      have HML:T (X'.maps.length<=5000):=by
       have h1:=Pg.yg9 (Pg.thr X'.S Pg.zW 3 0 0).1;have h2:=Pg.yhB X'.S Pg.zW 3 0 0
       have h3:Pg.cnt' (3+1)<=5000:=by decide
       unfold T Pg.Spc.maps;split
       ·omega
       ·simp
      have HTL:T (X'.tabs.length<=5000):=by
       have h1:=Pg.yhb (Pg.thr X'.S Pg.zW 3 0 0).1;have h2:=Pg.yhB X'.S Pg.zW 3 0 0
       have h3:Pg.cnt' (3+1)<=4999:=by decide
       unfold T Pg.Spc.tabs;split
       ·simp only[List.length_cons];omega
       ·simp
      have em:(Pg.yhH (Pg.thr X'.S Pg.zW 3 0 0)).length=X'.maps.length:=rfl;have et:(Pg.yhJ 0 (Pg.thr X'.S Pg.zW 3 0 0)).length=X'.tabs.length:=rfl;rw[em,et];have s3:=Y HR4.out.c3;have s0:=Y HR4.out.c0;have s4:=Y HR4.out.c4;rw[HBZ.out]at s3;have HLi:=fun d os=>yaj _ (HD4.out.grow (below_regrown W12 d os));have HTb:=fun d os=>ybd _ (HD4.out.grow (below_regrown W12 d os));have HBu:=fun d os=>xW _ (HD4.out.grow (below_regrown W12 d os));have HFr:=fun d os=>yah _ (HD4.out.grow (below_regrown W12 d os));have HGo:=fun d os=>ycS _ (HD4.out.grow (below_regrown W12 d os));have HCo:=fun d os=>ybX _ (HD4.out.grow (below_regrown W12 d os));have HMf:=fun d os=>vz _ (HR4.out.grow (below_regrown W12 d os)).mem;have HSm:=fun d os ad cap (h:xx (grow (redrawn W12 d) os) ad X'.maps)=>yd3 (cap:=cap) (cap':=cpm) _ h (HMA.out.below (below_regrown W12 d os)) HML.out;have HSi:=fun d os ad cap (h:zh (grow (redrawn W12 d) os) ad X'.tabs)=>ybA (cap:=cap) (cap':=cpt) _ h (HIA.out.below (below_regrown W12 d os)) HTL.out;rw[HL.out]at HCo;clear em et;generalize hbz:X'.busy=bz at*;generalize hfr:X'.S.free=fr at*;generalize hgl:X'.G.length=gl at*
      have n1:(bz !=bz)=Q:=by simp
      have n2:(fr !=fr)=Q:=by simp
      have n3:(((gl:Nat):Int) !=((gl:Nat):Int))=Q:=by simp
      have n4:(((cn:Nat):Int) !=((cn:Nat):Int))=Q:=by simp
      go_cut [144]from 52 to 262 (fun s144 wc=>s144=V Q/\T (Below W12.heap.size W12 wc))
      case first=>
       as_aux_lemma=>
       refine Loose.yg0 [(0,1),(2,3),(1,2),(3,7),(8,9),(7,8),(9,47)] [0,0,2,1,0,0,0,0,2,1,0,0,0,0,1,0,0,0,0,0,0,0,0,1,0,0,0,0,1,0,0,0,0,1,0,0,0,0,0,0,0,0,0,1,0,0,0] 47 [] (by kernel_rfl) (by kernel_rfl) (by intro i o hi;cases hi) (.inl rfl) ?_;simp only[Loose.yhI,z,kJ,I,B,J,P,kP,kS,kC];refine Loose.ygE 2 (by rfl) ?_;simp only[I,B,J,P]
       repeat (go_big_quiet_step (fail))
       refine wpQuiet_nil ?_;refine Loose.yhE (fun k hk=> ?_)
       go_simp
       refine⟨Option Addr×Nat,fun x=>kN x.1 X'.maps.length x.2,fun x w=>xx w x.1 X'.maps,fun x w w' h hg=>xx.below h hg,fun p=> ?_,fun x=>hk _ _ ?_⟩
       ·refine(HLi _ _).mono ?_
        rintro e w'' ⟨ad5,cap5,rfl,m5,hb5,hn5⟩;exact⟨_,rfl,hb5,(ad5,cap5),rfl,m5⟩
       clear hk k;obtain⟨adx,capx⟩:=x;simp only;refine Loose.ygH (fun k hk=> ?_)
       go_simp
       apply Exists.intro
       refine⟨fun p hI=> ?_,hk _ ?_⟩
       ·(go_at_call 16;exact Loose.calls (HSm _ _ _ _ hI))
       clear hk k;refine Loose.ygE 4 (by rfl) ?_;simp only[I,B,J,P]
       repeat (go_big_quiet_step (fail))
       refine wpQuiet_nil ?_;refine Loose.yhE (fun k hk=> ?_)
       go_simp
       refine⟨Option Addr×Nat,fun x=>kN x.1 X'.tabs.length x.2,fun x w=>zh w x.1 X'.tabs,fun x w w' h hg=>zh.below h hg,fun p=> ?_,fun x=>hk _ _ ?_⟩
       ·intro _
        refine(HTb _ _).mono ?_;rintro e w'' ⟨ad5,cap5,rfl,m5,hcp5,hb5⟩;exact⟨_,rfl,hb5,(ad5,cap5),rfl,m5⟩
       clear hk k;obtain⟨ady,capy⟩:=x;simp only;refine Loose.ygH (fun k hk=> ?_)
       go_simp
       apply Exists.intro
       refine⟨fun p=> ?_,hk _ ?_⟩
       ·intros
        (go_at_call 18;exact Loose.calls (HSi _ _ _ _ (by assumption)))
       clear hk k;refine Loose.ygE 4 (by rfl) ?_;simp only[I,B,J,P]
       repeat (go_big_quiet_step (fail))
       refine wpQuiet_nil ?_;refine Loose.ygH (fun k hk=> ?_)
       go_simp
       apply Exists.intro
       refine⟨fun p=> ?_,hk _ ?_⟩
       ·intros
        (go_at_call 20;exact Loose.ygB (HBu _ _))
       clear hk k;refine Loose.ygE 8 (by rfl) ?_;simp only[I,B,J,P]
       repeat (go_big_quiet_step (fail))
       refine wpQuiet_nil ?_;refine Loose.ygH (fun k hk=> ?_)
       go_simp
       apply Exists.intro
       refine⟨fun p=> ?_,hk _ ?_⟩
       ·intros
        (go_at_call 21;exact Loose.calls (HFr _ _))
       clear hk k;refine Loose.ygE 4 (by rfl) ?_;simp only[I,B,J,P]
       repeat (go_big_quiet_step (fail))
       refine wpQuiet_nil ?_;refine Loose.ygH (fun k hk=> ?_)
       go_simp
       apply Exists.intro
       refine⟨fun p=> ?_,hk _ ?_⟩
       ·intros
        (go_at_call 22;exact Loose.calls (HMf _ _))
       clear hk k;refine Loose.ygE 4 (by rfl) ?_;simp only[I,B,J,P]
       repeat (go_big_quiet_step (fail))
       refine wpQuiet_nil ?_;refine Loose.ygH (fun k hk=> ?_)
       go_simp
       apply Exists.intro
       refine⟨fun p=> ?_,hk _ ?_⟩
       ·intros
        (go_at_call 23;exact Loose.ygB (HGo _ _))
       clear hk k;refine Loose.ygE 4 (by rfl) ?_;simp only[I,B,J,P]
       repeat (go_big_quiet_step (fail))
       refine wpQuiet_nil ?_;refine Loose.yhm (fun k hk=> ?_)
       go_simp
       (refine hk _ ?_;clear hk k)
       refine Loose.ygE 4 (by rfl) ?_;simp only[I,B,J,P]
       repeat (go_big_quiet_step (fail))
       refine wpQuiet_nil ?_;refine Loose.ygH (fun k hk=> ?_)
       go_simp
       apply Exists.intro
       refine⟨fun p=> ?_,hk _ ?_⟩
       ·intros
        (go_at_call 24;exact Loose.ygB (HCo _ _))
       clear hk k;refine Loose.ygE 3 (by rfl) ?_;simp only[I,B,J,P]
       repeat (go_big_quiet_step (fail))
       refine wpQuiet_nil ?_;refine Loose.yhD ?_;intro w13 hb13 hI13;have HB13:T _:=hb13;clear hb13 hI13 HLi HTb HBu HFr HGo HCo HMf HSm HSi s0 s3 s4
       go_wp2_with fail
       go_meet
       case rel=>exact⟨rfl,HB13.out⟩
      case rest=>
      obtain⟨rfl,HB13⟩:=hcut;clear HLi HTb HBu HFr HGo HCo HMf HSm HSi n1 n2 n3 n4 s0 s3 s4;have D5:T _:=D4.out.grow HB13.out;have HD5:T _:=HD4.out.grow HB13.out;have HR5:T _:=HR4.out.grow HB13.out;have hal:ab<W12.heap.size:=(M.1 RA.out).1;have RA5:T (wc.heap[ab]?=_):=(HB13.out.block ab hal).trans RA.out;clear HB13 D4 HD4 HR4 HW4 HMA HIA HML HTL RA hal
      go_upto_region 21 with fail
      obtain⟨onb,hob⟩:∃o,(X'.walkOf cr).on=o:=⟨_,rfl⟩;rw[hob];have HOB:T _:=hob;clear hob
      go_cut [222]from 52 to 262 (fun s222 wd=>s222=V Q/\T (Below wc.heap.size wc wd))
      case first=>
       as_aux_lemma=>
       by_cases hin:0<=cr/\cr<(cn:Int)
       ·obtain⟨c,rfl⟩:=A hin.1
        have hib:inb=kR:=by rw[HIN.out];exact decide_eq_true hin
        clear HIN;subst hib
        have hc:c<X'.C.length:=by rw[HL.out];omega
        have e0:decide (0<=(c:Int))=kR:=by simp
        have e1:decide ((c:Int)<(cn:Int))=kR:=by simp;omega
        have i0':(0:Int)<=(c:Int):=by omega
        have i1':(c:Int)<(cn:Int):=hin.2
        have ew:X'.walkOf (c:Int)=(X'.C.getD c Pg.Cr.new).K:=by unfold Pg.Spc.walkOf;rw[if_pos (by omega),kI]
        have el:X'.linesOf (c:Int)=(X'.C.getD c Pg.Cr.new).L:=by unfold Pg.Spc.linesOf;rw[if_pos (by omega),kI]
        have eq:X'.waitsOf (c:Int)=X'.W.getD c Q:=by unfold Pg.Spc.waitsOf;rw[kI];simp
        have hcd:=HR5.out.core c hc;obtain⟨ad9,cap9,e9⟩:=hcd.co.row.form;obtain⟨t8,lv8,x8,hck⟩:=hcd.ck;obtain⟨⟨a0,a1,a2⟩,af⟩:=ych RA5.out;have s2:=Y HR5.out.c2;have s9:=Y HR5.out.c9;rw[HL.out]at s2 s9;have sr:=Y (HR5.out.row c hc);have sw:=Y (HR5.out.wt c hc);have q0:=hcd.co.c0;rw[e9]at q0;have k0:=Y q0;have k1:=Y hck.c1;have k2:=Y hck.c2;have k3:=Y hck.c3;have k4:=Y hck.c4;rw[<-ew]at k1 k2 k3 k4;have b0:=Y a0;have b1:=Y a1;have b2:=Y a2;have HWa:=fun d os=>vk (c:Int) _ (HD5.out.grow (below_regrown wc d os));have HKe:=fun d os=>yai (c:Int) _ (HD5.out.grow (below_regrown wc d os));rw[eq]at HWa;rw[el]at HKe;have hl6:=hcd.co.kept.le;have HSl:=fun d os ad cap (h:xh (grow (redrawn wc d) os) ad (X'.C.getD c Pg.Cr.new).L)=>yaU (cap:=cap) (cap':=cap9) _ h (zl (by have:=((hcd.co.grow (below_regrown wc d os))).row;rw[e9]at this;exact this)) hl6;clear hcd hck q0 a0 a1 a2 af ew el eq e9 hin;generalize (X'.C.getD c Pg.Cr.new).L=LL at*;generalize X'.W.getD c Q=wv at*;have hob:=HOB.out;clear HOB
        revert hob
        generalize (X'.walkOf (c:Int))=KK at*;obtain⟨ko,kq,kk,ku,kt,kl,kx⟩:=KK;intro hob;obtain rfl:ko=onb:=hob;simp only at k1 k2 k3 k4 b0 b1 b2
        have n1:(ko !=ko)=Q:=by simp
        have n2:(wv !=wv)=Q:=by simp
        have n3:(kq !=kq)=Q:=by simp
        have n4:(kk !=kk)=Q:=by simp
        have n5:(ku !=ku)=Q:=by simp
        refine Loose.yg0 [(0,62),(63,73),(62,63),(73,78)] [0,0,0,0,0,0,0,0,0,0,0,0,0,0,0,0,0,0,0,0,0,0,0,0,0,0,0,0,0,0,0,0,0,0,0,0,0,0,0,0,0,0,0,0,0,0,0,0,0,1,0,0,0,0,0,0,0,0,0,0,0,0,0,0,0,0,0,0,0,0,0,0,2,1,0,0,0,0] 78 [] (by kernel_rfl) (by kernel_rfl) (by intro i o hi;cases hi) (.inl rfl) ?_;simp only[Loose.yhI,kY,z,kJ,I,B,J,P,kP,kS,kC];refine Loose.WpX.ex ?_
        iterate 3 (refine Loose.yhj (fun k hk=> ?_);go_simp;refine hk _ ?_;clear hk k)
        iterate 13 (refine Loose.yhj (fun k hk=> ?_);go_simp;refine hk _ ?_;clear hk k)
        refine Loose.ygY 33 (by rfl) ?_;simp only[I,B,J,P]
        go_big_quiet_step (fail);go_big_quiet_step (fail);go_big_quiet_step (fail);go_big_quiet_step (fail);go_big_quiet_step (fail)
        go_big_quiet_step (fail);go_big_quiet_step (fail);go_big_quiet_step (fail);go_big_quiet_step (fail);go_big_quiet_step (fail)
        go_big_quiet_step (fail);go_big_quiet_step (fail);go_big_quiet_step (fail);go_big_quiet_step (fail);go_big_quiet_step (fail)
        go_big_quiet_step (fail);go_big_quiet_step (fail);go_big_quiet_step (fail);go_big_quiet_step (fail);go_big_quiet_step (fail)
        go_big_quiet_step (fail);go_big_quiet_step (fail);go_big_quiet_step (fail);go_big_quiet_step (fail);go_big_quiet_step (fail)
        go_big_quiet_step (fail);go_big_quiet_step (fail);go_big_quiet_step (fail);go_big_quiet_step (fail);go_big_quiet_step (fail)
        go_big_quiet_step (fail);go_big_quiet_step (fail);go_big_quiet_step (fail)
        refine wpQuiet_nil ?_;refine Loose.yhF (fun k hk=> ?_)
        go_simp
        apply Exists.intro
        refine⟨fun p=> ?_,hk _ ?_⟩
        ·intros
         (go_at_call 25;exact Loose.ygB (HWa _ _))
        clear hk k;refine Loose.ygY 22 (by rfl) ?_;simp only[I,B,J,P]
        go_big_quiet_step (fail);go_big_quiet_step (fail);go_big_quiet_step (fail);go_big_quiet_step (fail);go_big_quiet_step (fail)
        go_big_quiet_step (fail);go_big_quiet_step (fail);go_big_quiet_step (fail);go_big_quiet_step (fail);go_big_quiet_step (fail)
        go_big_quiet_step (fail);go_big_quiet_step (fail);go_big_quiet_step (fail);go_big_quiet_step (fail);go_big_quiet_step (fail)
        go_big_quiet_step (fail);go_big_quiet_step (fail);go_big_quiet_step (fail);go_big_quiet_step (fail);go_big_quiet_step (fail)
        go_big_quiet_step (fail);go_big_quiet_step (fail)
        refine wpQuiet_nil ?_;refine Loose.yiy (fun k hk=> ?_)
        go_simp
        refine⟨Option Addr×Nat,fun x=>kN x.1 LL.length x.2,fun x w=>xh w x.1 LL,fun x w w' h hg=>xh.below h hg,fun p=> ?_,fun x=>hk _ _ ?_⟩
        ·intros
         refine(HKe _ _).mono ?_;rintro e w'' ⟨ad5,cap5,rfl,m5,hb5⟩;exact⟨_,rfl,hb5,(ad5,cap5),rfl,m5⟩
        clear hk k;obtain⟨adx,capx⟩:=x;simp only;refine Loose.yhF (fun k hk=> ?_)
        go_simp
        apply Exists.intro
        refine⟨fun p=> ?_,hk _ ?_⟩
        ·intros
         (go_at_call 27;exact Loose.calls (HSl _ _ _ _ (by assumption)))
        clear hk k;refine Loose.ygY 4 (by rfl) ?_;simp only[I,B,J,P]
        go_big_quiet_step (fail);go_big_quiet_step (fail);go_big_quiet_step (fail);go_big_quiet_step (fail)
        refine wpQuiet_nil ?_;refine Loose.yh6 ?_;intro w14 hb14 hI14;have HB14:T _:=hb14;clear hb14 hI14
        go_wp2_with fail
        go_meet
        case rel=>exact⟨rfl,HB14.out⟩
       ·have hib:inb=Q:=by rw[HIN.out];exact decide_eq_false hin
        clear HIN;subst hib
        have hcs:0<=cr->X'.C.length<=cr.toNat:=fun h=>by rw[HL.out];omega
        have eo:(X'.walkOf cr).on=Q:=by
         unfold Pg.Spc.walkOf;split
         ·rename_i h
          rw[yaM (hcs h)];rfl
         ·rfl
        have el:X'.linesOf cr=[]:=by
         unfold Pg.Spc.linesOf;split
         ·rename_i h
          rw[yaM (hcs h)];rfl
         ·rfl
        have eq:X'.waitsOf cr=Q:=by
         unfold Pg.Spc.waitsOf
         by_cases h:0<=cr
         ·rw[yaM (by rw[HR5.out.len];exact hcs h),Bool.and_false]
         ·rw[decide_eq_false h,Bool.false_and]
        have HWa:=fun d os=>vk cr _ (HD5.out.grow (below_regrown wc d os));have HKe:=fun d os=>yai cr _ (HD5.out.grow (below_regrown wc d os));rw[eq]at HWa;rw[el]at HKe;simp only[List.length_nil]at HKe;clear hin hcs el eq;obtain rfl:onb=Q:=HOB.out.symm.trans eo;clear HOB eo;refine Loose.yg0 [(0,78)] [0,0,0,0,0,0,0,1,0,0,0,0,2,0,0,0,0,0,0,0,0,0,0,0,0,0,0,0,0,0,0,0,0,0,0,0,0,0,0,0,0,0,0,0,0,0,0,0,0,0,0,0,0,0,0,0,0,0,0,0,0,0,0,0,0,0,0,0,0,0,0,0,0,0,0,0,0,0] 78 [] (by kernel_rfl) (by kernel_rfl) (by intro i o hi;cases hi) (.inl rfl) ?_;simp only[Loose.yhI,kY,z,kJ,I,B,J,P,kP,kS,kC];refine Loose.WpX.ex ?_;refine Loose.ygY 7 (by rfl) ?_;simp only[I,B,J,P]
        go_big_quiet_step (fail);go_big_quiet_step (fail);go_big_quiet_step (fail);go_big_quiet_step (fail);go_big_quiet_step (fail)
        go_big_quiet_step (fail);go_big_quiet_step (fail)
        refine wpQuiet_nil ?_;refine Loose.yhF (fun k hk=> ?_)
        go_simp
        apply Exists.intro
        refine⟨fun p=> ?_,hk _ ?_⟩
        ·intros
         (go_at_call 25;exact Loose.ygB (HWa _ _))
        clear hk k;refine Loose.ygY 4 (by rfl) ?_;simp only[I,B,J,P]
        go_big_quiet_step (fail);go_big_quiet_step (fail);go_big_quiet_step (fail);go_big_quiet_step (fail)
        refine wpQuiet_nil ?_;refine Loose.yiy (fun k hk=> ?_)
        go_simp
        refine⟨Option Addr×Nat,fun x=>kN x.1 0 x.2,fun x w=>True,fun x w w' h hg=>trivial,fun p=> ?_,fun x=>hk _ _ ?_⟩
        ·intros
         refine(HKe _ _).mono ?_;rintro e w'' ⟨ad5,cap5,rfl,m5,hb5⟩;exact⟨_,rfl,hb5,(ad5,cap5),rfl,trivial⟩
        clear hk k;obtain⟨adx,capx⟩:=x;simp only
        iterate 7 (refine Loose.yhj (fun k hk=> ?_);go_simp;refine hk _ ?_;clear hk k)
        iterate 56 (refine Loose.yhj (fun k hk=> ?_);go_simp;refine hk _ ?_;clear hk k)
        refine Loose.ygY 2 (by rfl) ?_;simp only[I,B,J,P]
        go_big_quiet_step (fail);go_big_quiet_step (fail)
        refine wpQuiet_nil ?_;refine Loose.yh6 ?_;intro w14 hb14 hI14;have HB14:T _:=hb14;clear hb14 hI14
        go_wp2_with fail
        go_meet
        case rel=>exact⟨rfl,HB14.out⟩
      case rest=>
      obtain⟨rfl,HB14⟩:=hcut
      as_aux_lemma=>
      have D6:T _:=D5.out.grow HB14.out;have HD6:T _:=HD5.out.grow HB14.out;have HR6:T _:=HR5.out.grow HB14.out;clear HB14 D5 HD5 HR5 RA5;obtain⟨y0,y1,y2,y3,y4,y5,y6,y7,y8⟩:=HXC.out wc D6.out.bel;simp only at y0 y1 y2 y3 y4 y5 y6 y7 y8;have HFd:=ycQ xq wc HD6.out;have HFr:=fun w' (h:zg w' Dr.bm Dr.g0 Dr.g1 Dr.vm X'.S)=>jE 0 xq w' h;obtain⟨fp,fs,ff,fg,hfm⟩:=yfr (Pg.tFM X'.S 0 xq);obtain⟨et,el,er,eu,ed,ef,hfe⟩:=yfo (Pg.tFE X'.S 0 xq);obtain⟨fc,hfc⟩:=yfa (Pg.tFC X'.S 0 xq);rw[hfm,hfe,hfc]at HFd;simp only[hfm,hfe,hfc,Pg.Mp.val,Pg.En.val]at HFd HFr;clear hfm hfe hfc
      go_wp2_with fail
      refine HFd.mono ?_;rintro e w15 ⟨rfl,hb15⟩;obtain⟨W16,hW16⟩:∃W16,W16=(w15.alloc (Z #[R N fp,R N fs,R N ff,R N fg] 39)).alloc (Z #[V et,V el,R N er,V eu,V ed,R N ef] 70):=⟨_,rfl⟩
      have hb16:Below w15.heap.size w15 W16:=by rw[hW16];exact zA (zA (zR _) _) _
      have D16:T _:=D6.out.grow (zT hb15 hb16);have HR16:T _:=HR6.out.grow (zT hb15 hb16)
      have RM:T (W16.heap[w15.heap.size]?=D (Z #[R N fp,R N fs,R N ff,R N fg] 39 (0,0))):=by
       rw[T,hW16,Below.heap_alloc _ _ _ (by simp)];exact O _ _
      have RE:T (W16.heap[w15.heap.size+1]?=D (Z #[V et,V el,R N er,V eu,V ed,R N ef] 70 (0,0))):=by
       rw[T,hW16];exact(show(w15.alloc (Z #[R N fp,R N fs,R N ff,R N fg] 39)).heap.size=w15.heap.size+1 by simp)▸O _ _
      clear y0 y1 y2 y3 y4 y5 y6 y7 y8 hb15 hb16 HFd D6 HD6 HR6;obtain⟨_,_,_,_,_,_,y6,_,_⟩:=HXC.out W16 D16.out.bel;simp only at y6;have y6:=Y y6;have s0:=Y HR16.out.c0;have HFg:=fun d os=>HFr _ (HR16.out.grow (below_regrown W16 d os)).mem;clear HFr
      go_upto_region 24 with fail
      rw[<-hW16];clear hW16;generalize w15.heap.size=ba at*
      refine Loose.wp_region_drift_alloc2 15 [13,14] 22 23 (Z #[R N 0,R N 0,R N 0,R N 0] 39) (Z #[V Q,V Q,R N 0,V Q,V Q,R N 0] 70) _ _ (by kernel_rfl) (by kernel_rfl) (by intro i o hi ho;simp only[List.mem_cons,List.not_mem_nil,or_false]at hi;rcases hi with rfl|rfl<;>(cases ho;exact Loose.ygS rfl)) rfl rfl rfl rfl rfl rfl (by intro a w;simp[go_sem]) (by intro a w;simp[go_sem]) (by intro d v c a w h;cases d<;>exact h) ?_
      simp only[I,B,J,P];refine Loose.yhp 10 (by rfl) ?_;simp only[I,B,J,P]
      go_big_quiet_step (fail);go_big_quiet_step (fail);go_big_quiet_step (fail);go_big_quiet_step (fail);go_big_quiet_step (fail)
      go_big_quiet_step (fail);go_big_quiet_step (fail);go_big_quiet_step (fail);go_big_quiet_step (fail);go_big_quiet_step (fail)
      refine wpQuiet_nil ?_;refine Loose.zS (fun k hk=> ?_)
      go_simp
      apply Exists.intro
      refine⟨fun _=> ?_,hk _ ?_⟩
      ·(go_at_call 29;exact Loose.calls (HFg _ _))
      clear hk k;refine Loose.yhp 4 (by rfl) ?_;simp only[I,B,J,P]
      go_big_quiet_step (fail);go_big_quiet_step (fail);go_big_quiet_step (fail);go_big_quiet_step (fail)
      refine wpQuiet_nil ?_;refine Loose.ygs ?_;intro bm be w17 hb17 hbm hXm hbe hXe
      have hne:bm≠be:=fun e=>by
       rw[e,hXe]at hXm;simp at hXm
      have hne':be≠bm:=fun e=>hne e.symm;have hlb:bm<w17.heap.size:=(M.1 hXm).1;have hla:ba+1<W16.heap.size:=(M.1 RE.out).1;obtain⟨⟨m0,m1,m2,m3⟩,mf⟩:=ybx hXm;obtain⟨W19,hW19⟩:∃W19,W19=((((w17.setCell ⟨bm,0,U⟩ (R N fp)).setCell ⟨bm,1,U⟩ (R N fs)).setCell ⟨bm,2,U⟩ (R N ff)).setCell ⟨bm,3,U⟩ (R N fg)):=⟨_,rfl⟩
      have hb19:Below W16.heap.size W16 W19:=by rw[hW19];exact zq hb17 bm hbm _ _ _ _
      have XM19:T (W19.heap[bm]?=D (Z #[R N fp,R N fs,R N ff,R N fg] 39 (0,0))):=by rw[T,hW19];exact yfI hXm _ _ _ _
      have XE19:T (W19.heap[be]?=D (Z #[V Q,V Q,R N 0,V Q,V Q,R N 0] 70 (0,0))):=by rw[T,hW19];exact(yfJ hne' _ _ _ _).trans hXe
      obtain⟨W20,hW20⟩:∃W20,W20=((((((W19.setCell ⟨be,0,U⟩ (V et)).setCell ⟨be,1,U⟩ (V el)).setCell ⟨be,2,U⟩ (R N er)).setCell ⟨be,3,U⟩ (V eu)).setCell ⟨be,4,U⟩ (V ed)).setCell ⟨be,5,U⟩ (R N ef)):=⟨_,rfl⟩
      have hb20:Below W16.heap.size W16 W20:=by rw[hW20];exact jj hb19 be hbe _ _ _ _ _ _
      have XM20:T (W20.heap[bm]?=D (Z #[R N fp,R N fs,R N ff,R N fg] 39 (0,0))):=by rw[T,hW20];exact(yfL hne _ _ _ _ _ _).trans XM19.out
      have XE20:T (W20.heap[be]?=D (Z #[V et,V el,R N er,V eu,V ed,R N ef] 70 (0,0))):=by rw[T,hW20];exact yfK XE19.out _ _ _ _ _ _
      have XA20:T (W20.heap[ba]?=D (Z #[R N fp,R N fs,R N ff,R N fg] 39 (0,0))):=(hb20.block _ (by omega)).trans RM.out;have XB20:T (W20.heap[ba+1]?=D (Z #[V et,V el,R N er,V eu,V ed,R N ef] 70 (0,0))):=(hb20.block _ hla).trans RE.out;have D20:T _:=D16.out.grow hb20;clear hb17 hb19 hb20 hXm hXe RM RE HR16 D16 HFg y6 s0 hbm hbe hne hne'
      go_simp
      go_step
      go_step
      go_step
      rw[<-hW19];clear hW19 m0 m1 m2 m3 mf hlb hla XM19;obtain⟨⟨e0,e1,e2,e3,e4,e5⟩,ef'⟩:=zp XE19.out;clear XE19
      go_step
      go_step
      go_step
      rw[<-hW20];clear hW20 e0 e1 e2 e3 e4 e5 ef';obtain⟨⟨m0,m1,m2,m3⟩,_⟩:=ybx XM20.out;obtain⟨⟨e0,e1,e2,e3,e4,e5⟩,_⟩:=zp XE20.out;obtain⟨⟨r0,r1,r2,r3⟩,_⟩:=ybx XA20.out;obtain⟨⟨q0,q1,q2,q3,q4,q5⟩,_⟩:=zp XB20.out;clear XM20 XE20 XA20 XB20
      go_wp2_with fail
      exact⟨⟨k+1,by omega,by go_num,⟨X',_,_,D20.out,HL.out⟩⟩,by simp[intOf];omega⟩
    ·have i1:¬(k:Int)<(len:Int):=by omega
     obtain⟨X,F,F',B0,_⟩:=HR.out.ex;have HB:T _:=B0.bel;clear B0 HR
     go_wp2_with fail
     go_ret
     exact⟨rfl,HB.out⟩
set_option maxRecDepth 100000 in
theorem spaceDoes_lifted (os:Os) (started:os.Started) (H:Type) (enc:TypeId×Value->H):
 ReturnsInHanded {} Tryz.checked os 3 .any (Rows.spaceDoesSpec.pre6 enc Tryz.prog Tryz.f3 Rows.spaceDoesRow.domain Q) (Rows.spaceDoesSpec.post enc Tryz.prog Tryz.f3 Q kR Q Q):=by
 refine returnsInHanded_of_change (C:=Tryz.checked) own started (by kernel_rfl) Tryz.func3
  (ChangeSpec.witness6 (enc:=enc) (C:=Tryz.checked) Q ⟨#[],#[R N 0,R N 0,kN U 0 0],[]⟩ 8 (by kernel_rfl) (by kernel_rfl) (by kernel_rfl) (by kernel_rfl)) ?_
 intro W base args ds gs before hval0 hW hcnd _;have hval:∀(j:Nat) t v,Tryz.f3.params[j]?=D t->args[j]?=D v->Value.okWide Tryz.prog W .any base t v:=hval0;have hW':=hW;obtain⟨p,q,hA0,hV,rfl,hfz,hnd⟩:=hW;have hA:DataW.TrodAll enc Tryz.prog W 0 (fun _=>kR) kR Tryz.f3.params.toList args.toList ds p:=hA0;rw[Tryz.params3]at hA hval;obtain⟨v0,vs0,d0,ds0,p0,q0,hargs,rfl,rfl,h0,r0⟩:=trodAll_cons hA;obtain⟨v1,vs1,d1,ds1,p1,q1,rfl,rfl,rfl,h1,r1⟩:=trodAll_cons r0;obtain⟨v2,vs2,d2,ds2,p2,q2,rfl,rfl,rfl,h2,r2⟩:=trodAll_cons r1;obtain⟨rfl,rfl,rfl⟩:=trodAll_nil r2
 obtain rfl:args=#[v0,v1,v2]:=by cases args;simp_all
 obtain⟨rfl,rfl⟩:=trodVars_none hV;obtain⟨a0a,rfl,f0a⟩:=ydS (hval 0 3 v0 rfl rfl) h0;obtain⟨a1a,rfl,f1a⟩:=ydS (hval 1 3 v1 rfl rfl) h1;obtain⟨a2a,a2b,a2c,a2d,rfl,f2a⟩:=yeF (hval 2 22 v2 rfl rfl) h2;clear hA0 hval0;refine(spaceDoes_walk W a0a f0a a1a f1a a2a a2b a2c a2d f2a).mono fun e W' ⟨he,bel⟩=> ?_;subst he;exact⟨_,rfl,_,_,_,[],_,[],hW',trodAll_mk1 (shut_bool Tryz.underlying4 _),(trodAll_cons_mk (yfk (by kernel_rfl) (of_decide_eq_true (by kernel_rfl)) h0 bel) (trodAll_cons_mk (yfk (by kernel_rfl) (of_decide_eq_true (by kernel_rfl)) h1 bel) (trodAll_cons_mk (yfk (by kernel_rfl) (of_decide_eq_true (by kernel_rfl)) h2 bel) trodAll_mk0))),rfl,bel.frame _,fun h=>by cases h⟩
theorem spaceDoes_over:Rows.spaceDoesRow.holds Tryz.pinned (OpenSpec.ofChange Rows.spaceDoesSpec):=
 OpenClaim.holds_of_wide 3 Tryz.f3 rfl rfl rfl rfl rfl rfl rfl ⟨rfl,rfl,rfl,rfl,rfl⟩ rfl rfl rfl rfl rfl (by kernel_rfl) Tryz.func3 (by kernel_rfl)
  (of_decide_eq_true (by kernel_rfl)) (by unfold Func.isWrapper;first|(rw[if_pos (by decide+kernel)];kernel_rfl)|(rw[if_neg (by decide+kernel)];exact⟨rfl,rfl⟩))
  (fun os started H enc _=>spaceDoes_lifted os started H enc)
theorem spaceDoes_proved:Rows.SpaceDoesSaid:=spaceDoes_over
#print axioms spaceDoes_proved
end
end Go.Proofs.YtdphiompijbelaaGreat
